/- Ra7 -/
import Derived.Test.YtmnlhnmlgncedaaGreatDoorRa6
import Derived.Test.YtmnlhnmlgncedaaGreatDoorFo4
namespace Go.Proofs.YtmnlhnmlgncedaaGreatDoor
open Go.RowKit Go.Deep
set_option linter.unusedVariables false
def WhPost (w w':World) (neg:Bool) (a1:Option Addr) (n1 c1:Nat) (e:Ending):Prop :=
 ∃ a2 m2 c2,e = .returned (ratV (neg && decide (0 < n1)) a1 n1 c1 a2 m2 c2) ∧ Sl w' a2 m2 c2 [1] ∧ NewAt w.heap.size a2 ∧ Below w.heap.size w w'

set_option maxHeartbeats 8000000 in
theorem ratWhole_any (neg:Bool) (a1:Option Addr) (n1 c1:Nat) (w:World) :
  Calls Tryz.prog 39 #[.bool neg,.slice a1 n1 c1] w fun e w' => WhPost w w' neg a1 n1 c1 e:=by
 obtain ⟨wb,hwb⟩:∃ wb,w.alloc (.cells #[.bool false,.slice none 0 0,.slice none 0 0] 25) = wb:=⟨_,rfl⟩
 have hbb:Below w.heap.size w wb:=by rw [← hwb]; exact bAl
 have hO:Out wb w.heap.size:=by rw [← hwb]; exact Out.made w
 have HO:=Hj hO
 have HB:=Hj hbb
 have KO:=Hj (ratOne_any wb)
 clear hO hbb
 go_enter Tryz.func39,Tryz.ntmps39
 go_wp2_with fail
 refine (Uh KO).mono ?_
 rintro _ w1 ⟨aD,mD,rfl,sD,nD,bD⟩
 have HO1:=Hj ((Uh HO).keep bD)
 have HB1:=Hj ((Uh HB).trans (bD.mono (Uh HB).size))
 have hD2:NewAt w.heap.size aD:=fun x hx => Nat.le_trans (Uh HB).size (nD x hx)
 have hDR:∀ x,aD = some x → x.block ≠ w.heap.size:=fun x hx => by have h1:=nD x hx; have h2:=(Uh HO).lt; omega
 have SD:=Hj (And.intro sD (And.intro hD2 hDR))
 clear sD nD bD KO HO HB hD2 hDR
 go_wp2_with fail
 refine (signed_any neg a1 aD n1 c1 mD mD w1).mono ?_
 rintro _ w2 ⟨rfl,b2⟩
 have hO3:=(Uh HO1).keep b2
 obtain ⟨x0,q0⟩:=hO3.cells 0 (by decide)
 obtain ⟨x1,q1⟩:=hO3.cells 1 (by decide)
 obtain ⟨x2,q2⟩:=hO3.cells 2 (by decide)
 have r0:=hO3.fz 0 (by decide)
 have r1:=hO3.fz 1 (by decide)
 have r2:=hO3.fz 2 (by decide)
 obtain ⟨SG,hSG⟩:∃ SG,(neg && decide (0 < n1)) = SG:=⟨_,rfl⟩
 rw [hSG]
 have HSG:=Hj hSG
 have H4:=Hj (three_set w2 w.heap.size (.bool SG) (.slice a1 n1 c1) (.slice aD mD mD) hO3.cells)
 have HB2:=Hj b2
 unfold ratV
 clear hO3 b2 hSG
 go_wp2_with fail
 obtain ⟨p0,p1,p2,c4⟩:=Uh H4
 generalize ((w2.setCell ⟨w.heap.size,0,none⟩ (.bool SG)).setCell ⟨w.heap.size,1,none⟩ (.slice a1 n1 c1)).setCell ⟨w.heap.size,2,none⟩ (.slice aD mD mD) = wf at *
 refine bodyPost_ret (by simp [results,Tryz.results39,go_sem,p0,p1,p2]; try rfl) rfl ?_
 have hbf:=(Uh HB1).trans ((Uh HB2).mono (Uh HB1).size)
 refine ⟨aD,mD,mD,by rw [Uh HSG]; rfl,((Uh SD).1.below (Uh HB2)).chg c4 (fun x hx _ => (Uh SD).2.2 x hx),(Uh SD).2.1,hbf.trans (c4.below hbf.size (fun k hk => by omega))⟩

theorem from_new {w':World} {a:Option Addr} {m:Nat} {v:Nat} {ys:List Nat} (s:Sl w' a m m ys) (r:Rep v ys):Sl w' a m m (limbs v):=by rw [← r.eq]; exact s

set_option maxHeartbeats 8000000 in
theorem fromInt_any (n:Int) (hn1:-9223372036854775808 ≤ n) (hn2:n ≤ 9223372036854775807) (w:World) :
  Calls Tryz.prog 19 #[.int .i64 n] w fun e w' => ∃ v,e = .returned v ∧ NewR w w' (decide (n < 0)) (limbs n.natAbs) [1] v:=by
 obtain ⟨wb,hwb⟩:∃ wb,w.alloc (.cells #[.bool false,.slice none 0 0,.slice none 0 0] 25) = wb:=⟨_,rfl⟩
 have hbb:Below w.heap.size w wb:=by rw [← hwb]; exact bAl
 have hO:Out wb w.heap.size:=by rw [← hwb]; exact Out.made w
 have HO:=Hj hO
 have HB:=Hj hbb
 clear hO hbb
 by_cases hneg:n < 0
 ·obtain ⟨k,rfl⟩:∃ k:Nat,n = -(k:Int):=⟨n.natAbs,by omega⟩
  have hk2:0 < k:=by omega
  have hk3:k ≤ 9223372036854775808:=by omega
  rw [decide_eq_true hneg,show (-(k:Int)).natAbs = k from by omega]
  have e0:-(k:Int) < 0:=hneg
  have KF:=Hj (from_any k wb (by omega))
  clear hneg
  go_enter Tryz.func19,Tryz.ntmps19
  go_wp2_with fail
  rw [show IntKind.u64.wrap (-IntKind.u64.wrap (-(k:Int))) = (k:Int) from by rw [IntKind.wrap_u64,IntKind.wrap_u64]; omega]
  refine (Uh KF).mono ?_
  rintro _ w1 ⟨aN,mN,y1,rfl,sN,rN,nN,bN⟩
  have sN:=from_new sN rN
  have HO1:=Hj ((Uh HO).keep bN)
  have HB1:=Hj ((Uh HB).trans (bN.mono (Uh HB).size))
  have hN2:NewAt w.heap.size aN:=fun x hx => Nat.le_trans (Uh HB).size (nN x hx)
  have hNR:∀ x,aN = some x → x.block ≠ w.heap.size:=fun x hx => by have h1:=nN x hx; have h2:=(Uh HO).lt; omega
  have SN:=Hj (And.intro sN (And.intro hN2 hNR))
  clear sN rN nN bN KF HO HB hN2 hNR
  go_wp2_with fail
  refine (ratWhole_any true aN mN mN w1).mono ?_
  rintro _ w2 ⟨aD,mD,cD,rfl,sD,nD,bD⟩
  have hO3:=(Uh HO1).keep bD
  obtain ⟨x0,q0⟩:=hO3.cells 0 (by decide)
  obtain ⟨x1,q1⟩:=hO3.cells 1 (by decide)
  obtain ⟨x2,q2⟩:=hO3.cells 2 (by decide)
  have r0:=hO3.fz 0 (by decide)
  have r1:=hO3.fz 1 (by decide)
  have r2:=hO3.fz 2 (by decide)
  obtain ⟨SG,hSG⟩:∃ SG,(true && decide (0 < mN)) = SG:=⟨_,rfl⟩
  rw [hSG]
  have HSG:=Hj hSG
  have H4:=Hj (three_set w2 w.heap.size (.bool SG) (.slice aN mN mN) (.slice aD mD cD) hO3.cells)
  have hD2:NewAt w.heap.size aD:=fun x hx => Nat.le_trans (Uh HB1).size (nD x hx)
  have hDR:∀ x,aD = some x → x.block ≠ w.heap.size:=fun x hx => by have h1:=nD x hx; have h2:=(Uh HO1).lt; omega
  have SD:=Hj (And.intro sD (And.intro hD2 (And.intro hDR bD)))
  unfold ratV
  clear hO3 sD nD bD hSG hD2 hDR
  go_wp2_with fail
  obtain ⟨p0,p1,p2,c4⟩:=Uh H4
  generalize ((w2.setCell ⟨w.heap.size,0,none⟩ (.bool SG)).setCell ⟨w.heap.size,1,none⟩ (.slice aN mN mN)).setCell ⟨w.heap.size,2,none⟩ (.slice aD mD cD) = wf at *
  refine bodyPost_ret (by simp [results,Tryz.results19,go_sem,p0,p1,p2]; try rfl) rfl ?_
  have hbf:=(Uh HB1).trans ((Uh SD).2.2.2.mono (Uh HB1).size)
  refine ⟨_,rfl,aN,mN,mN,aD,mD,cD,ratV_congr ?_,((Uh SN).1.below (Uh SD).2.2.2).chg c4 (fun x hx _ => (Uh SN).2.2 x hx),(Uh SD).1.chg c4 (fun x hx _ => (Uh SD).2.2.1 x hx),(Uh SN).2.1,(Uh SD).2.1,hbf.trans (c4.below hbf.size (fun k hk => by omega))⟩
  rw [← Uh HSG]
  have hl:=(Uh SN).1.len
  have:0 < mN:=by rw [← hl]; exact List.length_pos_iff.2 (limbs_ne hk2)
  simp [this]
 ·obtain ⟨k,rfl⟩:∃ k:Nat,n = (k:Int):=⟨n.toNat,by omega⟩
  have hk3:k ≤ 9223372036854775807:=by omega
  rw [decide_eq_false hneg,show ((k:Int)).natAbs = k from by omega]
  have e1:IntKind.u64.wrap (k:Int) = (k:Int):=by rw [IntKind.wrap_u64]; omega
  have e0:¬ (k:Int) < 0:=hneg
  have KF:=Hj (from_any k wb (by omega))
  clear hneg
  go_enter Tryz.func19,Tryz.ntmps19
  go_wp2_with fail
  refine (Uh KF).mono ?_
  rintro _ w1 ⟨aN,mN,y1,rfl,sN,rN,nN,bN⟩
  have sN:=from_new sN rN
  have HO1:=Hj ((Uh HO).keep bN)
  have HB1:=Hj ((Uh HB).trans (bN.mono (Uh HB).size))
  have hN2:NewAt w.heap.size aN:=fun x hx => Nat.le_trans (Uh HB).size (nN x hx)
  have hNR:∀ x,aN = some x → x.block ≠ w.heap.size:=fun x hx => by have h1:=nN x hx; have h2:=(Uh HO).lt; omega
  have SN:=Hj (And.intro sN (And.intro hN2 hNR))
  clear sN rN nN bN KF HO HB hN2 hNR
  go_wp2_with fail
  refine (ratWhole_any false aN mN mN w1).mono ?_
  rintro _ w2 ⟨aD,mD,cD,rfl,sD,nD,bD⟩
  have hO3:=(Uh HO1).keep bD
  obtain ⟨x0,q0⟩:=hO3.cells 0 (by decide)
  obtain ⟨x1,q1⟩:=hO3.cells 1 (by decide)
  obtain ⟨x2,q2⟩:=hO3.cells 2 (by decide)
  have r0:=hO3.fz 0 (by decide)
  have r1:=hO3.fz 1 (by decide)
  have r2:=hO3.fz 2 (by decide)
  obtain ⟨SG,hSG⟩:∃ SG,(false && decide (0 < mN)) = SG:=⟨_,rfl⟩
  rw [hSG]
  have HSG:=Hj hSG
  have H4:=Hj (three_set w2 w.heap.size (.bool SG) (.slice aN mN mN) (.slice aD mD cD) hO3.cells)
  have hD2:NewAt w.heap.size aD:=fun x hx => Nat.le_trans (Uh HB1).size (nD x hx)
  have hDR:∀ x,aD = some x → x.block ≠ w.heap.size:=fun x hx => by have h1:=nD x hx; have h2:=(Uh HO1).lt; omega
  have SD:=Hj (And.intro sD (And.intro hD2 (And.intro hDR bD)))
  unfold ratV
  clear hO3 sD nD bD hSG hD2 hDR
  go_wp2_with fail
  obtain ⟨p0,p1,p2,c4⟩:=Uh H4
  generalize ((w2.setCell ⟨w.heap.size,0,none⟩ (.bool SG)).setCell ⟨w.heap.size,1,none⟩ (.slice aN mN mN)).setCell ⟨w.heap.size,2,none⟩ (.slice aD mD cD) = wf at *
  refine bodyPost_ret (by simp [results,Tryz.results19,go_sem,p0,p1,p2]; try rfl) rfl ?_
  have hbf:=(Uh HB1).trans ((Uh SD).2.2.2.mono (Uh HB1).size)
  refine ⟨_,rfl,aN,mN,mN,aD,mD,cD,ratV_congr ?_,((Uh SN).1.below (Uh SD).2.2.2).chg c4 (fun x hx _ => (Uh SN).2.2 x hx),(Uh SD).1.chg c4 (fun x hx _ => (Uh SD).2.2.1 x hx),(Uh SN).2.1,(Uh SD).2.1,hbf.trans (c4.below hbf.size (fun k hk => by omega))⟩
  rw [← Uh HSG]
  rfl
def pcNil:Pc:=⟨none,0,0,[]⟩
def dgP (ps:List Pc) (i:Nat):Pc:=(ps[i]?).getD pcNil

set_option maxHeartbeats 4000000 in
theorem wdigit_any (a:Option Addr) (n c:Nat) (ps:List Pc) (w:World) (h:SlL w a n c ps) (i:Nat) :
  Calls Tryz.prog 141 #[.slice a n c,.int .i64 (i:Nat)] w fun e w' => e = .returned (.slice (dgP ps i).a (dgP ps i).n (dgP ps i).c) ∧ w' = w:=by
 by_cases hi:i < n
 ·have hi':¬ (n:Int) ≤ (i:Int):=by omega
  have hi2:(i:Int) < (n:Int):=by omega
  obtain ⟨b,off,p,rfl,hp,hc,hs,ok⟩:=h.at' hi
  have HP:=Hj (show dgP ps i = p from by unfold dgP; rw [hp]; rfl)
  clear h hp hs ok
  go_enter Tryz.func141,Tryz.ntmps141
  go_wp2_with fail
  go_ret
  rw [Uh HP]
  exact ⟨rfl,rfl⟩
 ·have hi':(n:Int) ≤ (i:Int):=by omega
  have HP:=Hj (show dgP ps i = pcNil from by unfold dgP; rw [List.getElem?_eq_none (by rw [h.len]; omega)]; rfl)
  clear h
  go_enter Tryz.func141,Tryz.ntmps141
  go_wp2_with fail
  go_ret
  rw [Uh HP]
  exact ⟨rfl,rfl⟩

structure Trimmed (ps qs:List Pc) (m:Nat):Prop where
 le:m ≤ ps.length
 eq:qs = ps.take m
 zero:∀ i p,m ≤ i → ps[i]? = some p → p.xs = []
 top:m = 0 ∨ ∃ p,ps[m - 1]? = some p ∧ p.xs ≠ []

theorem SlL.take {w:World} {a:Option Addr} {n c:Nat} {ps:List Pc} (h:SlL w a n c ps) {m:Nat} (hm:m ≤ n):SlL w a m c (ps.take m):=by
 have hl:=h.len
 refine ⟨by rw [List.length_take]; omega,Nat.le_trans hm h.le,?_,fun p hp => h.each p (List.mem_of_mem_take hp)⟩
 rcases h.cells with e | ⟨b,off,e,hc⟩
 ·left; rw [e]; simp
 ·right
  refine ⟨b,off,e,fun i p hp => hc i p ?_⟩
  rw [List.getElem?_take] at hp
  split at hp
  ·exact hp
  ·cases hp

def WtPost (a:Option Addr) (c:Nat) (ps:List Pc) (w:World) (e:Ending) (w':World):Prop:=∃ m qs,e = .returned (.slice a m c) ∧ SlL w a m c qs ∧ Trimmed ps qs m ∧ w' = w

set_option maxHeartbeats 8000000 in
theorem wtrim_any (a:Option Addr) (n c:Nat) (ps:List Pc) (w:World) (h:SlL w a n c ps) (hn:n ≤ 1000000000) :
  Calls Tryz.prog 144 #[.slice a n c] w fun e w' => WtPost a c ps w e w':=by
 have H:=Hj h
 have HL:=Hj h.len
 have hle:=h.le
 clear h
 go_enter Tryz.func144,Tryz.ntmps144
 go_wp2_with fail
 go_loop [0] (fun v => ∃ m:Nat,m ≤ n ∧ v = .slice a m c ∧ Hid (∀ i p,m ≤ i → ps[i]? = some p → p.xs = [])) (fun v => match v with | .slice _ k _ => k | _ => 0)
 case atStart => exact ⟨n,Nat.le_refl _,rfl,fun i p hi hp => by
  have:=(List.getElem?_eq_some_iff.1 hp).1
  have:=Uh HL
  omega⟩
 case round =>
  obtain ⟨m,hm,rfl,HZ⟩:=hrel
  by_cases h0:m = 0
  ·subst h0
   have HX:=Hj (And.intro ((Uh H).take (Nat.zero_le n)) (show Trimmed ps (ps.take 0) 0 from ⟨Nat.zero_le _,rfl,Uh HZ,.inl rfl⟩))
   clear HZ
   go_wp2_with fail
   go_ret
   exact ⟨0,_,rfl,(Uh HX).1,(Uh HX).2,rfl⟩
  ·obtain ⟨k,rfl⟩:∃ k,m = k + 1:=⟨m - 1,by omega⟩
   have t1:(0:Int) < ((k + 1:Nat):Int):=by omega
   have t2:((k + 1:Nat):Int) - 1 = (k:Int):=by omega
   have t3:(k:Int) < ((k + 1:Nat):Int):=by omega
   have t4:(0:Int) < (k:Int) + 1:=by omega
   have t5:(k:Int) < (k:Int) + 1:=by omega
   obtain ⟨b,off,p,rfl,hp,hc,hs,ok⟩:=(Uh H).at' (show k < n by omega)
   by_cases hx:p.xs = []
   ·have hpn:p.n = 0:=by rw [← hs.len,hx]; rfl
    rw [hpn] at hc
    have HZ2:=Hj (show ∀ i q,k ≤ i → ps[i]? = some q → q.xs = [] from fun i q hi hq => by
     by_cases e:i = k
     ·subst e
      rw [hp] at hq
      cases hq
      exact hx
     ·exact Uh HZ i q (by omega) hq)
    have hkc:(k:Int) ≤ (c:Int):=by omega
    have hkc2:k ≤ c:=by omega
    clear HZ hp hs ok hx hpn
    go_wp2_with fail
    exact ⟨⟨k,by omega,by simp,Uh HZ2⟩,by simp⟩
   ·have hpn:0 < p.n:=by rw [← hs.len]; exact List.length_pos_iff.2 hx
    have u1:((p.n:Int) == 0) = false:=by simp; omega
    have u2:¬ (p.n:Int) = 0:=by omega
    have HX:=Hj (And.intro ((Uh H).take hm) (show Trimmed ps (ps.take (k + 1)) (k + 1) from ⟨by rw [Uh HL]; exact hm,rfl,Uh HZ,.inr ⟨p,hp,hx⟩⟩))
    clear HZ hp hs ok hx
    go_wp2_with fail
    go_ret
    exact ⟨k + 1,_,rfl,(Uh HX).1,(Uh HX).2,rfl⟩
def dLimbs:Nat:=1024
def wD:Nat:=4294967296 ^ dLimbs
theorem wD_pos:0 < wD:=Nat.pow_pos (by decide)

def wv:List Pc → Nat
 | [] => 0
 | p :: ps => val p.xs + wD * wv ps

structure Wide (w:World) (a:Option Addr) (n c:Nat) (v:Nat) (ps:List Pc):Prop where
 sl:SlL w a n c ps
 norm:∀ p ∈ ps,Norm p.xs
 len:∀ p ∈ ps,p.n ≤ dLimbs
 top:ps = [] ∨ ∃ p,ps.getLast? = some p ∧ p.xs ≠ []
 val:wv ps = v

theorem Wide.below {w w':World} {a:Option Addr} {n c v:Nat} {ps:List Pc} (h:Wide w a n c v ps) (k:Below w.heap.size w w'):Wide w' a n c v ps:=⟨h.sl.below k,h.norm,h.len,h.top,h.val⟩

theorem sll_one {w:World} {g:Nat} {p:Pc} (hs:Sl w p.a p.n p.c p.xs) (ok:Ok p.xs) (hc:w.cell? ⟨g,0,none⟩ = some (.slice p.a p.n p.c)):SlL w (some ⟨g,0,none⟩) 1 1 [p]:=by
 refine ⟨rfl,Nat.le_refl _,.inr ⟨g,0,rfl,fun i q hq => ?_⟩,fun q hq => ?_⟩
 ·match i,hq with
  | 0,hq => cases hq; exact hc
  | i + 1,hq => simp at hq
 ·simp at hq; subst hq; exact ⟨hs,ok⟩
theorem sll_two {w:World} {g:Nat} {p q:Pc} (hs:Sl w p.a p.n p.c p.xs) (ok:Ok p.xs) (hs2:Sl w q.a q.n q.c q.xs) (ok2:Ok q.xs) (hc:w.cell? ⟨g,0,none⟩ = some (.slice p.a p.n p.c)) (hc2:w.cell? ⟨g,1,none⟩ = some (.slice q.a q.n q.c)):SlL w (some ⟨g,0,none⟩) 2 2 [p,q]:=by
 refine ⟨rfl,Nat.le_refl _,.inr ⟨g,0,rfl,fun i r hr => ?_⟩,fun r hr => ?_⟩
 ·match i,hr with
  | 0,hr => cases hr; exact hc
  | 1,hr => cases hr; exact hc2
  | i + 2,hr => simp at hr
 ·simp at hr
  rcases hr with rfl | rfl
  ·exact ⟨hs,ok⟩
  ·exact ⟨hs2,ok2⟩

def WdFrom (a:Option Addr) (ps:List Pc):Prop:=∀ p ∈ ps,∀ x,p.a = some x → ∃ y,a = some y ∧ x.block = y.block
def WdPostF (a0:Option Addr) (w w':World) (v:Nat) (e:Ending):Prop:=∃ a n c ps,e = .returned (.slice a n c) ∧ Wide w' a n c v ps ∧ n ≤ 2 ∧ Below w.heap.size w w' ∧ WdFrom a0 ps ∧ NewAt w.heap.size a ∧ a ≠ none
set_option maxHeartbeats 8000000 in
theorem spread_short (a:Option Addr) (n c:Nat) (xs:List Nat) (w:World) (h:Sl w a n c xs) (ox:Ok xs) (nx:Norm xs) (hn:n ≤ 1024) :
  Calls Tryz.prog 139 #[.slice a n c] w fun e w' => WdPostF a w w' (val xs) e:=by
 obtain ⟨wa,hwa⟩:∃ wa,w.alloc (.cells #[.slice a n c] 23) = wa:=⟨_,rfl⟩
 have hb:Below w.heap.size w wa:=by rw [← hwa]; exact bAl
 have hc:wa.cell? ⟨w.heap.size,0,none⟩ = some (.slice a n c):=by rw [← hwa]; simp
 have KT:=Hj (wtrim_any (some ⟨w.heap.size,0,none⟩) 1 1 [⟨a,n,c,xs⟩] wa (sll_one (p:=⟨a,n,c,xs⟩) (h.below hb) ox hc) (by decide))
 have HB:=Hj hb
 have hn':(n:Int) ≤ 1024:=by omega
 clear h hb hc
 go_enter Tryz.func139,Tryz.ntmps139
 go_wp2_with fail
 refine (Uh KT).mono ?_
 rintro _ _ ⟨m,qs,rfl,s1,t1,hw⟩
 obtain rfl:=hw.symm
 have hW:Wide wa (some ⟨w.heap.size,0,none⟩) m 1 (val xs) qs:=by
  have hle:=t1.le
  simp at hle
  have hq:=t1.eq
  rcases Nat.eq_zero_or_pos m with e | e
  ·subst e
   have hx:=t1.zero 0 ⟨a,n,c,xs⟩ (Nat.le_refl _) rfl
   simp only at hx
   rw [List.take_zero] at hq
   subst hq
   exact ⟨s1,(fun p hp => by cases hp),(fun p hp => by cases hp),.inl rfl,by rw [hx]; rfl⟩
  ·obtain rfl:m = 1:=by omega
   have hx:xs ≠ []:=by
    rcases t1.top with e | ⟨p,hp,hx⟩
    ·omega
    ·simp at hp; subst hp; exact hx
   have hq':qs = [⟨a,n,c,xs⟩]:=by rw [hq]; rfl
   subst hq'
   refine ⟨s1,fun p hp => ?_,fun p hp => ?_,.inr ⟨_,rfl,hx⟩,by simp [wv]⟩
   ·simp at hp; subst hp; exact nx
   ·simp at hp; subst hp; exact hn
 have hm1:m ≤ 2:=by have:=t1.le; simp at this; omega
 have hfr:WdFrom a qs:=fun p hp x hx => by
  rw [t1.eq] at hp
  have:=List.mem_of_mem_take hp
  simp at this
  subst this
  exact ⟨x,hx,rfl⟩
 have HX:=Hj (And.intro hW (And.intro hm1 hfr))
 clear s1 t1 hw hW KT hm1 hfr
 go_wp2_with fail
 go_ret
 exact ⟨_,m,1,qs,rfl,(Uh HX).1,(Uh HX).2.1,Uh HB,(Uh HX).2.2,(fun x hx => by cases hx; exact Nat.le_refl _),by simp⟩

theorem getD_take {xs:List Nat} {m i:Nat} (h:i < m):(xs.take m).getD i 0 = xs.getD i 0:=by
 simp only [List.getD_eq_getElem?_getD,List.getElem?_take]
 rw [if_pos h]
theorem getD_dropR {xs:List Nat} {m i:Nat}:(xs.drop m).getD i 0 = xs.getD (m + i) 0:=by
 simp only [List.getD_eq_getElem?_getD,List.getElem?_drop]

theorem long_parts {xs:List Nat} {n m k:Nat} (hl:xs.length = n) (hk:k < n) (hm:m ≤ k) (nx:Norm xs) (hz:∀ i,m ≤ i → i < k → xs.getD i 0 = 0) (ht:m = 0 ∨ xs.getD (m - 1) 0 ≠ 0) :
  Norm (xs.take m) ∧ Norm (xs.drop k) ∧ xs.drop k ≠ [] ∧ val xs = val (xs.take m) + 4294967296 ^ k * val (xs.drop k):=by
 have hlm:(xs.take m).length = m:=by rw [List.length_take]; omega
 have hld:(xs.drop k).length = n - k:=by rw [List.length_drop,hl]
 have hdn:xs.drop k ≠ []:=by intro e; rw [e] at hld; simp at hld; omega
 refine ⟨?_,?_,hdn,?_⟩
 ·rcases Nat.eq_zero_or_pos m with e0 | e0
  ·left; rw [e0]; simp
  ·right
   rw [hlm,getD_take (by omega)]
   rcases ht with e | e
   ·omega
   ·exact e
 ·right
  rw [hld,getD_dropR,show k + (n - k - 1) = n - 1 from by omega]
  rcases nx with e | e
  ·rw [e] at hl; simp at hl; omega
  ·rw [hl] at e; exact e
 ·rw [val_split xs k (by omega)]
  congr 1
  have:=val_take (xs.take k) m (fun i hi => by
   by_cases h:i < k
   ·rw [getD_take h]; exact hz i hi h
   ·exact getD_ge (by rw [List.length_take]; omega))
  rw [List.take_take,show min m k = m from by omega] at this
  exact this.symm

theorem spread_fin {w:World} {b off n c m:Nat} {xs:List Nat} (h:Sl w (some ⟨b,off,none⟩) n c xs) (ox:Ok xs) (hn:1024 < n) (hn2:n ≤ 2048) (hm:m ≤ 1024) (hp:Norm (xs.take m) ∧ Norm (xs.drop 1024) ∧ xs.drop 1024 ≠ [] ∧ val xs = val (xs.take m) + 4294967296 ^ dLimbs * val (xs.drop 1024)) (wf:World)
  (hwf:w.alloc (.cells #[.slice (some ⟨b,off,none⟩) m c,.slice (some ⟨b,off + 1024,none⟩) (n - 1024) (c - 1024)] 23) = wf):WdPostF (some ⟨b,off,none⟩) w wf (val xs) (.returned (.slice (some ⟨w.heap.size,0,none⟩) 2 2)):=by
 have hb:Below w.heap.size w wf:=by rw [← hwf]; exact bAl
 have hl:=h.len
 have hle:=h.le
 have hcap:=h.cap
 have s1:=h.part 0 m c (by omega) (by omega) hcap
 rw [Nat.add_zero,List.drop_zero] at s1
 have s2:=h.part 1024 (n - 1024) (c - 1024) (by omega) (by omega) (by omega)
 rw [List.take_of_length_le (by rw [List.length_drop]; omega)] at s2
 have o1:Ok (xs.take m):=fun y hy => ox y (List.mem_of_mem_take hy)
 have o2:Ok (xs.drop 1024):=fun y hy => ox y (List.mem_of_mem_drop hy)
 have hc1:wf.cell? ⟨w.heap.size,0,none⟩ = some (.slice (some ⟨b,off,none⟩) m c):=by rw [← hwf]; simp
 have hc2:wf.cell? ⟨w.heap.size,1,none⟩ = some (.slice (some ⟨b,off + 1024,none⟩) (n - 1024) (c - 1024)):=by rw [← hwf]; simp
 refine ⟨_,2,2,[⟨some ⟨b,off,none⟩,m,c,xs.take m⟩,⟨some ⟨b,off + 1024,none⟩,n - 1024,c - 1024,xs.drop 1024⟩],rfl,⟨sll_two (s1.below hb) o1 (s2.below hb) o2 hc1 hc2,fun p hq => ?_,fun p hq => ?_,.inr ⟨_,rfl,hp.2.2.1⟩,?_⟩,by omega,hb,fun p hq x hx => ?_,(fun x hx => by cases hx; exact Nat.le_refl _),by simp⟩
 ·simp at hq
  rcases hq with rfl | rfl
  ·exact hp.1
  ·exact hp.2.1
 ·simp at hq
  rcases hq with rfl | rfl
  ·exact hm
  ·show n - 1024 ≤ 1024
   omega
 ·simp only [wv,Nat.mul_zero,Nat.add_zero]
  exact hp.2.2.2.symm
 ·simp at hq
  rcases hq with rfl | rfl
  ·cases hx; exact ⟨_,rfl,rfl⟩
  ·cases hx; exact ⟨_,rfl,rfl⟩

set_option maxHeartbeats 8000000 in
theorem spread_long (a:Option Addr) (n c:Nat) (xs:List Nat) (w:World) (h:Sl w a n c xs) (ox:Ok xs) (nx:Norm xs) (hn:1024 < n) (hn2:n ≤ 2048) :
  Calls Tryz.prog 139 #[.slice a n c] w fun e w' => WdPostF a w w' (val xs) e:=by
 have hl:=h.len
 have hne:xs ≠ []:=by intro e; rw [e] at hl; simp at hl; omega
 obtain ⟨b,off,rfl,hc⟩:=h.cells.resolve_left hne
 have hle:=h.le
 have hcap:=h.cap
 have H:=Hj h
 have hn':¬ (n:Int) ≤ 1024:=by omega
 have hn1:(1024:Int) ≤ (n:Int):=by omega
 clear h hc
 go_enter Tryz.func139,Tryz.ntmps139
 go_wp2_with fail
 go_loop [3] (fun v => ∃ m:Nat,m ≤ 1024 ∧ v = .slice (some ⟨b,off,none⟩) m c ∧ Hid (∀ i,m ≤ i → i < 1024 → xs.getD i 0 = 0)) (fun v => match v with | .slice _ k _ => k | _ => 0)
 case atStart => exact ⟨1024,Nat.le_refl _,rfl,fun i h1 h2 => by omega⟩
 case round =>
  obtain ⟨m,hm,rfl,HZ⟩:=hrel
  have hfin:(m = 0 ∨ xs.getD (m - 1) 0 ≠ 0) → Hid (Norm (xs.take m) ∧ Norm (xs.drop 1024) ∧ xs.drop 1024 ≠ [] ∧ val xs = val (xs.take m) + 4294967296 ^ dLimbs * val (xs.drop 1024)):=fun ht => Hj (long_parts (k:=dLimbs) hl hn hm nx (Uh HZ) ht)
  have v1:¬ c = 1024:=by omega
  have v2:(1024:Int) ≤ (c:Int):=by omega
  obtain ⟨wf,hwf⟩:∃ wf,w.alloc (.cells #[.slice (some ⟨b,off,none⟩) m c,.slice (some ⟨b,off + 1024,none⟩) (n - 1024) (c - 1024)] 23) = wf:=⟨_,rfl⟩
  by_cases h0:m = 0
  ·have HX:=Hj (spread_fin (Uh H) ox hn hn2 hm (Uh (hfin (.inl h0))) wf hwf)
   subst h0
   clear hfin HZ nx
   go_wp2_with fail
   go_ret
   exact Uh HX
  ·obtain ⟨k,rfl⟩:∃ k,m = k + 1:=⟨m - 1,by omega⟩
   have t1:(0:Int) < ((k + 1:Nat):Int):=by omega
   have t2:((k + 1:Nat):Int) - 1 = (k:Int):=by omega
   have t4:(0:Int) < (k:Int) + 1:=by omega
   have t5:(k:Int) < (k:Int) + 1:=by omega
   obtain ⟨b',off',e',hcs⟩:=(Uh H).cells.resolve_left hne
   cases e'
   have g1:=hcs k (by omega)
   have hx32:=ox.getD k
   by_cases hx:xs.getD k 0 = 0
   ·rw [hx] at g1
    have HZ2:=Hj (show ∀ i,k ≤ i → i < 1024 → xs.getD i 0 = 0 from fun i h1 h2 => by
     by_cases e:i = k
     ·rw [e]; exact hx
     ·exact Uh HZ i (by omega) h2)
    have hkc:(k:Int) ≤ (c:Int):=by omega
    have hkc2:k ≤ c:=by omega
    clear HZ hx hcs hfin hwf nx hx32
    go_wp2_with fail
    exact ⟨⟨k,by omega,by simp,Uh HZ2⟩,by simp⟩
   ·have HX:=Hj (spread_fin (Uh H) ox hn hn2 hm (Uh (hfin (.inr (by simpa using hx)))) wf hwf)
    generalize xs.getD k 0 = x at *
    have u1:((x:Int) == 0) = false:=by simp; omega
    have u2:¬ (x:Int) = 0:=by omega
    clear HZ hcs hfin nx
    go_wp2_with fail
    go_ret
    exact Uh HX

theorem spread_any (a:Option Addr) (n c:Nat) (xs:List Nat) (w:World) (h:Sl w a n c xs) (ox:Ok xs) (m:MayL xs = true) :
  Calls Tryz.prog 139 #[.slice a n c] w fun e w' => WdPostF a w w' (val xs) e:=by
 have hl:=h.len
 have hm:=MayL.len m
 by_cases hn:n ≤ 1024
 ·exact spread_short a n c xs w h ox (MayL.norm m) hn
 ·exact spread_long a n c xs w h ox (MayL.norm m) (by omega) (by omega)
end Go.Proofs.YtmnlhnmlgncedaaGreatDoor
