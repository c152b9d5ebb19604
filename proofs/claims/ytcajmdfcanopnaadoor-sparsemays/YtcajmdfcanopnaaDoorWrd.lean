/- Rl4 -/
import Derived.Test.YtcajmdfcanopnaaDoorWr1
import Derived.Test.YtcajmdfcanopnaaDoorGiv
import Derived.Deep.RegionHeld3
import Derived.Test.YtcajmdfcanopnaaDoorRv1
import Derived.Test.YtcajmdfcanopnaaDoorWrc
namespace Go.Proofs.YtcajmdfcanopnaaDoor
open Go.RowKit Go.Deep
set_option linter.unusedVariables false
def sameR (g1:Bool) (x1 y1:List Nat) (g2:Bool) (x2 y2:List Nat):Bool:=(g1 == g2) && (decide (x1 = x2) && decide (y1 = y2))
set_option maxHeartbeats 8000000 in
theorem sameRat_any (g1 g2:Bool) (a1 b1 a2 b2:Option Addr) (n1 c1 m1 d1 n2 c2 m2 d2:Nat) (x1 y1 x2 y2:List Nat) (w:World) (hx1:Sl w a1 n1 c1 x1) (hy1:Sl w b1 m1 d1 y1) (hx2:Sl w a2 n2 c2 x2) (hy2:Sl w b2 m2 d2 y2) :
  Calls Tryd.prog 34 #[ratV g1 a1 n1 c1 b1 m1 d1,ratV g2 a2 n2 c2 b2 m2 d2] w fun e w' => e = .returned (.bool (sameR g1 x1 y1 g2 x2 y2)) ∧ Below w.heap.size w w':=by
 have bx:=Box.made w g1 a1 n1 c1 b1 m1 d1
 obtain ⟨wa,hwa⟩:∃ wa,ratBox w g1 a1 n1 c1 b1 m1 d1 = wa:=⟨_,rfl⟩
 rw [hwa] at bx
 have by_:=Box.made wa g2 a2 n2 c2 b2 m2 d2
 obtain ⟨wb,hwb⟩:∃ wb,ratBox wa g2 a2 n2 c2 b2 m2 d2 = wb:=⟨_,rfl⟩
 rw [hwb] at by_
 have hba:Below w.heap.size w wa:=by rw [← hwa]; exact bAl
 have hbb:Below wa.heap.size wa wb:=by rw [← hwb]; exact bAl
 have bx2:=bx.keep hbb
 have hB:=hba.trans (hbb.mono hba.size)
 unfold ratBox at hwa hwb
 have K1:=sameNat_any a1 a2 n1 c1 n2 c2 x1 x2 wb (hx1.below hB) (hx2.below hB)
 have HK2:=Hj (fun k => sameNat_any b1 b2 m1 d1 m2 d2 y1 y2 (wb.drewN k) ((hy1.below hB).below (bel_drewN (Below.refl _ _) k)) ((hy2.below hB).below (bel_drewN (Below.refl _ _) k)))
 have HB:=Hj hB
 have HBx:=Hj (And.intro bx2 by_)
 have p0:=bx2.d0
 have p1:=bx2.d1
 have p2:=bx2.d2
 have p3:=by_.d0
 have p4:=by_.d1
 have p5:=by_.d2
 unfold ratV
 by_cases hg:g1 = g2
 ·have t1:(g1 == g2) = true:=by simp [hg]
  obtain ⟨s1,hs1⟩:∃ s,decide (x1 = x2) = s:=⟨_,rfl⟩
  obtain ⟨s2,hs2⟩:∃ s,decide (y1 = y2) = s:=⟨_,rfl⟩
  have HR:=Hj (show sameR g1 x1 y1 g2 x2 y2 = (s1 && s2) by unfold sameR; rw [t1,hs1,hs2]; rfl)
  rw [hs1] at K1
  rw [hs2] at HK2
  have HK1:=Hj K1
  obtain ⟨rr,hrr⟩:∃ r,sameR g1 x1 y1 g2 x2 y2 = r:=⟨_,rfl⟩
  rw [hrr] at HR ⊢
  subst hg
  clear K1 hx1 hy1 hx2 hy2 bx by_ bx2 hba hbb hB hs1 hs2 hrr t1
  cases s1
  ·go_enter Tryd.func34,Tryd.ntmps34
   go_wp2_with fail
   refine (Uh HK1).mono ?_
   rintro _ _ ⟨rfl,k,rfl⟩
   go_wp2_with fail
   go_ret
   exact ⟨by rw [Uh HR]; rfl,bel_drewN (Uh HB) _⟩
  ·go_enter Tryd.func34,Tryd.ntmps34
   go_wp2_with fail
   refine (Uh HK1).mono ?_
   rintro _ _ ⟨rfl,k,rfl⟩
   have q2:(wb.drewN k).cell? ⟨w.heap.size,2,none⟩ = some (.slice b1 m1 d1):=p2
   have q5:(wb.drewN k).cell? ⟨wa.heap.size,2,none⟩ = some (.slice b2 m2 d2):=p5
   go_wp2_with fail
   refine (Uh HK2 k).mono ?_
   rintro _ _ ⟨rfl,k2,rfl⟩
   go_wp2_with fail
   go_ret
   exact ⟨by rw [Uh HR]; simp,bel_drewN (Uh HB) _⟩
 ·have t1:(g1 == g2) = false:=by simp [hg]
  have HR:=Hj (show sameR g1 x1 y1 g2 x2 y2 = false by unfold sameR; rw [t1]; rfl)
  obtain ⟨rr,hrr⟩:∃ r,sameR g1 x1 y1 g2 x2 y2 = r:=⟨_,rfl⟩
  rw [hrr] at HR ⊢
  clear K1 hx1 hy1 hx2 hy2 bx by_ bx2 hba hbb hB hrr HK2
  go_enter Tryd.func34,Tryd.ntmps34
  go_wp2_with fail
  go_ret
  exact ⟨by rw [Uh HR]; rfl,Uh HB⟩

theorem Ok.limbs (v:Nat):Ok (limbs v):=(limbs_rep v).ok
theorem Tri.out {w:World} {R:Nat} {v0 v1 v2:Value} (h:Tri w R v0 v1 v2):Out w R :=
  ⟨fun i hi => by
    match i,hi with
    | 0,_ => exact ⟨_,h.c0⟩
    | 1,_ => exact ⟨_,h.c1⟩
    | 2,_ => exact ⟨_,h.c2⟩,
   fun i hi => by
    match i,hi with
    | 0,_ => exact h.f0
    | 1,_ => exact h.f1
    | 2,_ => exact h.f2,h.lt⟩
theorem Tri.chg {w w':World} {R S:Nat} {v0 v1 v2:Value} (h:Tri w R v0 v1 v2) (c:Chg (fun k => k = S) w w') (hne:R ≠ S):Tri w' R v0 v1 v2:=by
 have hb:=c.block R h.lt hne
 have hc:∀ i,w'.cell? ⟨R,i,none⟩ = w.cell? ⟨R,i,none⟩:=fun i => by unfold World.cell?; simp only; rw [hb]
 have hf:∀ i,w'.frozen? ⟨R,i,none⟩ = w.frozen? ⟨R,i,none⟩:=fun i => by unfold World.frozen?; simp only; rw [hb]
 exact ⟨(hc 0).trans h.c0,(hc 1).trans h.c1,(hc 2).trans h.c2,(hf 0).trans h.f0,(hf 1).trans h.f1,(hf 2).trans h.f2,Nat.lt_of_lt_of_le h.lt c.size⟩
theorem Tri.chgW {S:Nat → Prop} {w w':World} {R:Nat} {v0 v1 v2:Value} (h:Tri w R v0 v1 v2) (k:Chg S w w') (hs:¬ S R):Tri w' R v0 v1 v2:=by
 have hf:∀ i,w'.frozen? ⟨R,i,none⟩ = w.frozen? ⟨R,i,none⟩:=fun i => World.frozen?_of_block (w:=w) (k.block R h.lt hs)
 exact ⟨k.cell hs h.c0,k.cell hs h.c1,k.cell hs h.c2,(hf 0).trans h.f0,(hf 1).trans h.f1,(hf 2).trans h.f2,Nat.lt_of_lt_of_le h.lt k.size⟩
theorem GivR.own_lt {w:World} {B:Nat} {v0 v1:Value} {es:List Ent} {rs:Nat → Value} (h:GivR w B v0 v1 es rs) {k:Nat} (hk:Own B v0 v1 k):k < w.heap.size:=by
 rcases hk with rfl | hk | hk
 ·exact h.cell0.2.2.2.2
 ·exact (Go.Proofs.YtcajmdfcanopnaaDoor.own_ge h.own0 k hk).2
 ·exact (Go.Proofs.YtcajmdfcanopnaaDoor.own_ge h.own1 k hk).2
theorem GivR.own_ge {w:World} {B:Nat} {v0 v1:Value} {es:List Ent} {rs:Nat → Value} (h:GivR w B v0 v1 es rs) {k:Nat} (hk:Own B v0 v1 k):B ≤ k:=by
 rcases hk with rfl | hk | hk
 ·exact Nat.le_refl _
 ·have:=(Go.Proofs.YtcajmdfcanopnaaDoor.own_ge h.own0 k hk).1; omega
 ·have:=(Go.Proofs.YtcajmdfcanopnaaDoor.own_ge h.own1 k hk).1; omega
theorem GivR.setR {w w':World} {B:Nat} {v0 v1:Value} {es:List Ent} {rs:Nat → Value} (h:GivR w B v0 v1 es rs) {R:Nat} {b:Bool} (hR:w.cell? ⟨R,0,none⟩ = some (.bool b)) (hc:Chg (fun j => j = R) w w') (hO:¬ Own B v0 v1 R):GivR w' B v0 v1 es rs :=
 h.chg hc (fun e => hO (by rw [← e]; exact .inl rfl)) (fun k hk e => hO (by rw [← e]; exact .inr (.inl hk))) (fun k hk e => hO (by rw [← e]; exact .inr (.inr hk))) (fun e he => (h.ents e he).ne hR)

structure GrPost (w w':World) (B:Nat) (v0 v1 v0' v1':Value) (es:List Ent) (rs:Nat → Value) (x y:List Nat) (E1 E2:Ent):Prop where
 x1:E1.xs = x
 x2:E2.xs = y
 n1:w.heap.size ≤ E1.b ∧ w.heap.size ≤ E1.b0
 n2:w.heap.size ≤ E2.b ∧ w.heap.size ≤ E2.b0
 giv:GivR w' B v0' v1' (es ++ [E1] ++ [E2]) rs
 chg:Chg (Own B v0 v1) w w'
 safe:∀ k,k < w.heap.size → ¬ Own B v0 v1 k → ¬ Own B v0' v1' k

set_option maxRecDepth 100000 in
set_option maxHeartbeats 16000000 in
theorem gratR_any (B:Nat) (v0 v1:Value) (es:List Ent) (rs:Nat → Value) (g1:Bool) (a:Option Addr) (n c:Nat) (x:List Nat) (b:Option Addr) (m d:Nat) (y:List Nat) (w:World) (h:GivR w B v0 v1 es rs) (hx:Sl w a n c x) (hy:Sl w b m d y) (lo:∀ z,b = some z → y ≠ [] → z.block < B) (hn:n ≤ 35184372088000) (hm:m ≤ 35184372088000) (he:es.length ≤ 5700000000000) :
  Calls Tryd.prog 30 #[.pointer (some ⟨B,0,none⟩),ratV g1 a n c b m d] w fun e w' => ∃ v,e = .returned v ∧ ∃ v0' v1' E1 E2,v = ratV g1 (some ⟨Ent.b E1,0,none⟩) n E1.c (some ⟨Ent.b E2,0,none⟩) m E2.c ∧ GrPost w w' B v0 v1 v0' v1' es rs x y E1 E2:=by
 have bx:=Box.made w g1 a n c b m d
 obtain ⟨wa,hwa⟩:∃ wa,ratBox w g1 a n c b m d = wa:=⟨_,rfl⟩
 rw [hwa] at bx
 unfold ratBox at hwa
 have hba:=bx.bel
 obtain ⟨wo,hwo⟩:∃ x,wa.alloc (.cells #[.bool false,.slice none 0 0,.slice none 0 0] 64) = x:=⟨_,rfl⟩
 have hbo:Below wa.heap.size wa wo:=by rw [← hwo]; exact bAl
 have hT:Tri wo wa.heap.size (.bool false) (.slice none 0 0) (.slice none 0 0):=by rw [← hwo]; exact Tri.made _ _ _ _ _
 have bx2:=bx.keep hbo
 have hB:=hba.trans (hbo.mono hba.size)
 have hO:=h.below hB
 have p0:=bx2.d0
 have p1:=bx2.d1
 have p2:=bx2.d2
 have hlt:=bx.lt
 have hlt2:wa.heap.size < wo.heap.size:=hT.lt
 have hnb:¬ Own B v0 v1 w.heap.size:=fun ho => by have:=h.own_lt ho; omega
 have hnr:¬ Own B v0 v1 wa.heap.size:=fun ho => by have:=h.own_lt ho; omega
 have HK1:=Hj (fun (W:World) (hb:Below wo.heap.size wo W) => gnatR_any B v0 v1 es rs a n c x W (hO.below hb) ((hx.below hB).below hb) hn (by omega))
 have HY:=Hj (And.intro (hy.below hB) (fun z hz hne ho => by have:=h.own_ge ho; have:=lo z hz hne; omega:∀ z,b = some z → y ≠ [] → ¬ Own B v0 v1 z.block))
 have hne1:w.heap.size ≠ wa.heap.size:=by omega
 have hne3:wa.heap.size ≠ w.heap.size:=by omega
 have HW:=Hj (And.intro hB.size (And.intro hnb (And.intro hnr (And.intro hlt hlt2))))
 have HT:=Hj hT
 have HCB:=Hj (show Chg (Own B v0 v1) w wo from Chg.of_below hB)
 have HE:=Hj he
 clear bx bx2 hba hbo hB hnb hnr hT hO h hx hy lo he
 unfold ratV
 go_enter Tryd.func30,Tryd.ntmps30
 go_wp2_with fail
 go_region_held3 (fun w' => w'.cell? ⟨w.heap.size,0,none⟩ = some (.bool g1) ∧ w'.cell? ⟨w.heap.size,1,none⟩ = some (.slice a n c) ∧ w'.cell? ⟨w.heap.size,2,none⟩ = some (.slice b m d)) (first | go_keep | (exact ⟨k0,k1,k2⟩) | (exact ⟨j0,j1,j2⟩))
  (first
   | (go_at_call_of 43 (Value.slice a n c); refine (Uh HK1 _ (Below.refl _ _).drew).mono ?_; rintro _ wk ⟨u0,u1,E1,rfl,hx1,hE1,hL1,hc1,hs1⟩; have hcd:Chg (Own B v0 v1) wo wk:=(Chg.of_drew wo).trans hc1; have k0:=hcd.cell (Uh HW).2.1 p0; have k1:=hcd.cell (Uh HW).2.1 p1; have k2:=hcd.cell (Uh HW).2.1 p2; have hT1:Tri wk wa.heap.size (.bool false) (.slice none 0 0) (.slice none 0 0):=(Uh HT).chgW hcd (Uh HW).2.2.1; have HS1:=Hj (And.intro hL1 (And.intro (And.intro hx1 (show wo.heap.size ≤ E1.b ∧ wo.heap.size ≤ E1.b0 from hE1)) (And.intro (hs1 w.heap.size (by have:=(Uh HW).2.2.2; simp; omega) (Uh HW).2.1) (And.intro (hs1 wa.heap.size (by have:=(Uh HW).2.2.2; simp; omega) (Uh HW).2.2.1) (And.intro hT1 (And.intro hcd.size ((Uh HY).1.chg hcd (Uh HY).2))))))); have HC1:=Hj (And.intro hcd hs1); clear hL1 hx1 hE1 hc1 hs1 hcd hT1)
   | (go_at_call_of 43 (Value.slice b m d); refine (gnatR_any B u0 u1 (es ++ [E1]) rs b m d y _ (Uh HS1).1 (Uh HS1).2.2.2.2.2.2 hm (by have:=Uh HE; simp; omega)).mono ?_; rintro _ wj ⟨z0,z1,E2,rfl,hx2,hE2,hL2,hc2,hs2⟩; have j0:=hc2.cell (Uh HS1).2.2.1 k0; have j1:=hc2.cell (Uh HS1).2.2.1 k1; have j2:=hc2.cell (Uh HS1).2.2.1 k2; have hT2:Tri wj wa.heap.size (.bool false) (.slice none 0 0) (.slice none 0 0):=(Uh HS1).2.2.2.2.1.chgW hc2 (Uh HS1).2.2.2.1; have HO3:=Hj hT2; have q0:=hT2.c0; have q1:=hT2.c1; have q2:=hT2.c2; have r0:=hT2.f0; have r1:=hT2.f1; have r2:=hT2.f2; have HS2:=Hj (And.intro hL2 (And.intro (Uh HS1).2.1 (And.intro (And.intro hx2 (show wo.heap.size ≤ E2.b ∧ wo.heap.size ≤ E2.b0 from ⟨Nat.le_trans (Uh HS1).2.2.2.2.2.1 hE2.1,Nat.le_trans (Uh HS1).2.2.2.2.2.1 hE2.2⟩)) (hs2 wa.heap.size (Uh HS1).2.2.2.2.1.lt (Uh HS1).2.2.2.1)))); have HC2:=Hj (And.intro hc2 hs2); clear hL2 hx2 hE2 hc2 hs2 hT2))
 have H4:=Hj (three_set wj wa.heap.size (.bool g1) (.slice (some ⟨E1.b,0,none⟩) n E1.c) (.slice (some ⟨E2.b,0,none⟩) m E2.c) (Uh HO3).out.cells)
 clear q0 q1 q2 r0 r1 r2
 try go_wp2_with fail
 obtain ⟨t0,t1,t2,c4⟩:=Uh H4
 generalize ((wj.setCell ⟨wa.heap.size,0,none⟩ (.bool g1)).setCell ⟨wa.heap.size,1,none⟩ (.slice (some ⟨E1.b,0,none⟩) n E1.c)).setCell ⟨wa.heap.size,2,none⟩ (.slice (some ⟨E2.b,0,none⟩) m E2.c) = wf at *
 refine bodyPost_ret (by simp [results,Tryd.results30,go_sem,t0,t1,t2]; try rfl) rfl ?_
 obtain ⟨hL2,⟨hX1,hE1⟩,⟨hX2,hE2⟩,hNR⟩:=Uh HS2
 refine ⟨_,rfl,_,_,E1,E2,rfl,⟨hX1,hX2,?_,?_,hL2.setR (Uh HO3).c0 c4 hNR,?_,?_⟩⟩
 ·have:=(Uh HW).1; omega
 ·have:=(Uh HW).1; omega
 ·have hB:=Uh HCB
  have hcd:=(Uh HC1).1
  have hc2:=(Uh HC2).1
  refine ⟨c4.os.trans (hc2.os.trans (hcd.os.trans hB.os)),c4.tape.trans (hc2.tape.trans (hcd.tape.trans hB.tape)),c4.output.trans (hc2.output.trans (hcd.output.trans hB.output)),Nat.le_trans hB.size (Nat.le_trans hcd.size (Nat.le_trans hc2.size c4.size)),fun k hk hS => ?_⟩
  have k1:k < wo.heap.size:=Nat.lt_of_lt_of_le hk hB.size
  have k2:k < wk.heap.size:=Nat.lt_of_lt_of_le k1 hcd.size
  have k3:k < wj.heap.size:=Nat.lt_of_lt_of_le k2 hc2.size
  rw [c4.block k k3 (fun e => by have:=(Uh HW).2.2.2.1; omega),hc2.block k k2 ((Uh HC1).2 k k1 hS),hcd.block k k1 hS,hB.block k hk hS]
 ·intro k hk hS
  have k1:k < wo.heap.size:=Nat.lt_of_lt_of_le hk (Uh HCB).size
  exact (Uh HC2).2 k (Nat.lt_of_lt_of_le k1 (Uh HC1).1.size) ((Uh HC1).2 k k1 hS)
theorem newR_of {w wk wf:World} {R:Nat} {aN aD:Option Addr} {mN cN mD cD:Nat} {xs ys:List Nat} (hR:w.heap.size ≤ R) (hRk:R < wk.heap.size) (bel:Below w.heap.size w wk) (sN:Sl wk aN mN cN xs) (nN:NewAt (R + 1) aN) (sD:Sl wk aD mD cD ys) (nD:NewAt (R + 1) aD) (c4:Chg (fun j => j = R) wk wf) (g:Bool) :
  NewR w wf g xs ys (ratV g aN mN cN aD mD cD) :=
 ⟨aN,mN,cN,aD,mD,cD,rfl,sN.chg c4 (fun x hx _ h => by have:=nN x hx; omega),sD.chg c4 (fun x hx _ h => by have:=nD x hx; omega),fun x hx => by have:=nN x hx; omega,fun x hx => by have:=nD x hx; omega,bel.trans (c4.below bel.size (fun k hk => by omega))⟩
end Go.Proofs.YtcajmdfcanopnaaDoor
