/- Wi6 -/
import Derived.Test.YtmnlhnmlgncedaaGreatDoorWi5
namespace Go.Proofs.YtmnlhnmlgncedaaGreatDoor
open Go.RowKit Go.Deep
set_option linter.unusedVariables false
theorem Tryz.info_nat:(Tryz.prog.info? 23).map (fun i => (i.zero,i.size,i.bytes)) = some (some (.slice none 0 0),1,24):=by kernel_rfl
theorem make_wide (n:Nat) (hn:n ≤ 100000) (w:World):(Instr.makeSlice 117 (.int .i64 0) (.int .i64 ((n:Int) + 1))).run Tryz.prog w = .ok (.slice (some ⟨w.heap.size,0,none⟩) 0 (n + 1)) (w.alloc (.cells (madeCells #[.slice none 0 0] (n + 1)) 23)):=by
 obtain ⟨i,hi,hz,hs,hb⟩:=info_parts Tryz.info_nat
 have h:=run_makeSlice (w:=w) (P:=Tryz.prog) 117 23 i _ Tryz.underlying117 hi hz .i64 .i64 0 ((n:Int) + 1) (by omega) (by omega) (by rw [hs]; omega) (by rw [hb]; omega) (by omega)
 rw [hs,show ((n:Int) + 1).toNat = n + 1 by omega,Nat.mul_one] at h
 exact h
theorem row_start {w wa:World} {n:Nat} (hw:w.alloc (.cells (madeCells #[.slice none 0 0] (n + 1)) 23) = wa) (hn:n ≤ 100000):RowD w wa w.heap.size (n + 1) []:=by
 refine ⟨⟨rfl,.inr ⟨w.heap.size,n + 1,madeCells #[.slice none 0 0] (n + 1),rfl,Nat.le_refl _,?_,Nat.zero_le _,by unfold maxLen; omega,by simp [madeCells],by simp⟩⟩,(fun p hp => by cases hp),?_,?_,Nat.le_refl _⟩
 ·rw [← hw]; exact alloc_block _ _
 ·rw [← hw]; exact bAl
 ·rw [← hw]; simp
def WdPostN (N:Nat) (w w':World) (v:Nat) (e:Ending):Prop:=∃ a n c ps,e = .returned (.slice a n c) ∧ Wide w' a n c v ps ∧ n ≤ N ∧ Below w.heap.size w w'
structure PlI (w wr:World) (g N i:Nat) (f h:Nat → Nat) (acc:List Pc) (cy:Pc):Prop where
 row:RowD w wr g (N + 1) acc
 len:acc.length = i
 dig:Dig wr g cy
 small:val cy.xs ≤ 2
 sum:sF wD f i + sF wD h i = wv acc + wD ^ i * val cy.xs
theorem wD_two':4 ≤ wD:=by
 rw [wD_def]
 have:4294967296 ^ 1 ≤ 4294967296 ^ dLimbs:=Nat.pow_le_pow_right (by decide) (by rw [dL_eq]; decide)
 omega
theorem pl_zero (f h:Nat → Nat):sF wD f 0 + sF wD h 0 = wv [] + wD ^ 0 * val pcNil.xs:=by
 have e:val pcNil.xs = 0:=rfl
 rw [e,Nat.mul_zero]
 rfl
theorem cell_one {w:World} {v:Value} {e:TypeId}:∀ (j:Nat) (u:Value),[v][j]? = some u → (w.alloc (.cells #[v] e)).cell? (Addr.add ⟨w.heap.size,0,none⟩ j) = some u:=by
 intro j u hj
 match j,hj with
 | 0,hj => simp at hj; subst hj; simp [Addr.add]
 | j + 1,hj => simp at hj
theorem pl_step {f h:Nat → Nat} {i:Nat} {acc:List Pc} {C d0 d1:Nat} {p:Pc} (hl:acc.length = i) (hs:sF wD f i + sF wD h i = wv acc + wD ^ i * C) (hT:f i + h i + C = d0 + wD * d1) (hp:val p.xs = d0):sF wD f (i + 1) + sF wD h (i + 1) = wv (acc ++ [p]) + wD ^ (i + 1) * d1:=by
 simp only [sF]
 rw [wv_app,hl,hp,Nat.pow_succ]
 have e:wD ^ i * (f i + h i + C) = wD ^ i * (d0 + wD * d1):=by rw [hT]
 rw [Nat.mul_add,Nat.mul_add,Nat.mul_add] at e
 rw [Nat.mul_assoc]
 omega
theorem pl_end {w wr:World} {g N:Nat} {acc:List Pc} {cap m:Nat} {qs:List Pc} (h:RowD w wr g cap acc) (t:Trimmed acc qs m) (s:SlL wr (some ⟨g,0,none⟩) m cap qs):Wide wr (some ⟨g,0,none⟩) m cap (wv acc) qs:=by
 have hmem:∀ p ∈ qs,p ∈ acc:=fun p hp => List.mem_of_mem_take (by rw [← t.eq]; exact hp)
 refine ⟨s,fun p hp => (h.each p (hmem p hp)).norm,fun p hp => (h.each p (hmem p hp)).len,?_,t.wv⟩
 rcases t.top with e | ⟨p,hp,hx⟩
 ·left
  rw [t.eq,e]
  rfl
 ·by_cases hm:m = 0
  ·left; rw [t.eq,hm]; rfl
  ·right
   refine ⟨p,?_,hx⟩
   rw [t.eq,List.getLast?_eq_getElem?,List.length_take,Nat.min_eq_left t.le,List.getElem?_take_of_lt (by omega)]
   exact hp
theorem sll_three {w:World} {g:Nat} {p q r:Pc} (hp:Sl w p.a p.n p.c p.xs ∧ Ok p.xs) (hq:Sl w q.a q.n q.c q.xs ∧ Ok q.xs) (hr:Sl w r.a r.n r.c r.xs ∧ Ok r.xs) (c0:w.cell? ⟨g,0,none⟩ = some (.slice p.a p.n p.c)) (c1:w.cell? ⟨g,1,none⟩ = some (.slice q.a q.n q.c)) (c2:w.cell? ⟨g,2,none⟩ = some (.slice r.a r.n r.c)):SlL w (some ⟨g,0,none⟩) 3 3 [p,q,r]:=by
 refine ⟨rfl,Nat.le_refl _,.inr ⟨g,0,rfl,fun i s hs => ?_⟩,fun s hs => ?_⟩
 ·match i,hs with
  | 0,hs => cases hs; exact c0
  | 1,hs => cases hs; exact c1
  | 2,hs => cases hs; exact c2
  | i + 3,hs => simp at hs
 ·simp at hs
  rcases hs with rfl | rfl | rfl
  ·exact hp
  ·exact hq
  ·exact hr

set_option maxHeartbeats 8000000 in
set_option maxRecDepth 100000 in
theorem plus_any (a1 a2:Option Addr) (n1 c1 n2 c2 v1 v2:Nat) (ps qs:List Pc) (w:World) (h1:Wide w a1 n1 c1 v1 ps) (h2:Wide w a2 n2 c2 v2 qs) (hn1:n1 ≤ 1000) (hn2:n2 ≤ 1000) :
  Calls Tryz.prog 136 #[.slice a1 n1 c1,.slice a2 n2 c2] w fun e w' => WdPostN (max n1 n2 + 1) w w' (v1 + v2) e:=by
 by_cases h0:n1 = 0
 ·have hv:v1 = 0:=by
   have hl:=h1.sl.len
   rw [h0] at hl
   rw [← h1.val,List.length_eq_zero_iff.1 hl]
   rfl
  have H2:=Hj h2
  subst hv h0
  clear h1 h2
  go_enter Tryz.func136,Tryz.ntmps136
  go_wp2_with fail
  go_ret
  exact ⟨a2,n2,c2,qs,rfl,by rw [Nat.zero_add]; exact Uh H2,by omega,Below.refl _ _⟩
 ·obtain ⟨i24,hi,hz,hs,hb⟩:=info_parts Tryz.info_nat
  have HInf:=Hj (And.intro hi (And.intro hz (And.intro hs hb)))
  clear hi hz hs hb
  have e0:((n1:Int) == 0) = false:=by simp; omega
  have e9:decide (n1 = 0) = false:=by simpa using h0
  by_cases hlt:n1 < n2
  ·have hlt':(n1:Int) < (n2:Int):=by omega
   have e1:v1 = sF wD (fun i => val (dgP ps i).xs) n2:=by rw [← h1.val]; exact wv_sF ps n2 (by rw [h1.sl.len]; omega)
   have e2:v2 = sF wD (fun i => val (dgP qs i).xs) n2:=by rw [← h2.val]; exact wv_sF qs n2 (by rw [h2.sl.len]; omega)
   have H1:=Hj h1
   have H2:=Hj h2
   have HE:=Hj (And.intro e1 e2)
   have hN:n2 ≤ 1000:=by omega
   have hmx:max n1 n2 = n2:=by omega
   rw [hmx]
   clear h1 h2 e1 e2 hmx
   have hm:=make_wide n2 (by omega)
   obtain ⟨wa,hwa⟩:∃ x,w.alloc (.cells (madeCells #[.slice none 0 0] (n2 + 1)) 23) = x:=⟨_,rfl⟩
   have HR0:=Hj (row_start hwa (by omega))
   go_enter Tryz.func136,Tryz.ntmps136
   go_wp2_with fail
   clear hm hwa
   go_loopw [25,5,6,7,8] (fun cnt z cy _ _ wr => ∃ (i:Nat) (acc:List Pc) (C:Pc),i ≤ n2 ∧ cnt = .int .i64 (i:Int) ∧ z = .slice (some ⟨w.heap.size,0,none⟩) i (n2 + 1) ∧ cy = .slice C.a C.n C.c ∧ PlI w wr w.heap.size n2 i (fun i => val (dgP ps i).xs) (fun i => val (dgP qs i).xs) acc C) (fun cnt _ _ _ _ _ => n2 - (intOf cnt).toNat)
   case atStart => exact ⟨0,[],pcNil,Nat.zero_le _,rfl,rfl,rfl,⟨Uh HR0,rfl,dig_nil _ _,(by show (0:Nat) ≤ 2; omega),pl_zero _ _⟩⟩
   case round =>
    obtain ⟨i,acc,C,hi,rfl,rfl,rfl,hst⟩:=hrel
    have hgl:=hst.row.lt
    have HSt:=Hj hst
    by_cases hlti:i < n2
    ·have hlti':(i:Int) < (n2:Int):=by omega
     have W1:=(Uh H1).below hst.row.bel
     have W2:=(Uh H2).below hst.row.bel
     have K1:=wdigit_any a1 n1 c1 ps wr W1.sl i
     have K2:=wdigit_any a2 n2 c2 qs wr W2.sl i
     obtain ⟨s1,o1,m1,l1,d1⟩:=wide_dg W1 i
     obtain ⟨s2,o2,m2,l2,d2⟩:=wide_dg W2 i
     obtain ⟨P,hP⟩:∃ P,dgP ps i = P:=⟨_,rfl⟩
     obtain ⟨Q,hQ⟩:∃ P,dgP qs i = P:=⟨_,rfl⟩
     rw [hP] at K1 s1 o1 m1 l1 d1
     rw [hQ] at K2 s2 o2 m2 l2 d2
     obtain ⟨wb,hwb⟩:∃ x,wr.alloc (.cells #[.slice P.a P.n P.c,.slice Q.a Q.n Q.c,.slice C.a C.n C.c] 23) = x:=⟨_,rfl⟩
     have hbb:Below wr.heap.size wr wb:=by rw [← hwb]; exact bAl
     have hS3:SlL wb (some ⟨wr.heap.size,0,none⟩) 3 3 [P,Q,C]:=sll_three ⟨s1.below hbb,o1⟩ ⟨s2.below hbb,o2⟩ ⟨hst.dig.sl.below hbb,hst.dig.ok⟩ (by rw [← hwb]; simp) (by rw [← hwb]; simp) (by rw [← hwb]; simp)
     have KS:=nsum_any _ 3 3 [P,Q,C] wb hS3 (by decide)
     obtain ⟨T,hT⟩:∃ T,val P.xs + (val Q.xs + (val C.xs + 0)) = T:=⟨_,rfl⟩
     have hsm:=hst.small
     have hw4:=wD_two'
     have hTw:T < 3 * wD:=by omega
     have hTlt:T < wD * wD:=Nat.lt_of_lt_of_le hTw (Nat.mul_le_mul_right wD (by omega))
     have hlen:=len_two hTlt
     have hsum:sumL [P,Q,C] = (limbs T,0):=by
      unfold sumL
      rw [if_pos (by simp [mayB,dL_may s1.len m1 l1,dL_may s2.len m2 l2,dL_may hst.dig.sl.len hst.dig.norm hst.dig.len])]
      show fitL (val P.xs + (val Q.xs + (val C.xs + 0))) = _
      rw [hT]
      exact fitL_ok (by omega)
     rw [hsum] at KS
     have HKS:=Hj KS
     have HK1:=Hj K1
     have HK2:=Hj K2
     have hMay:MayL (limbs T) = true:=MayL.mk (limbs_rep T).norm hlen
     have HM:=Hj hMay
     have HPQ:=Hj (And.intro hP (And.intro hQ (And.intro hT (And.intro d1 (And.intro d2 hsm)))))
     have HBB:=Hj hbb
     have hgb:w.heap.size < wb.heap.size:=Nat.lt_of_lt_of_le hgl hbb.size
     clear K1 K2 KS W1 W2 s1 o1 m1 l1 d1 s2 o2 m2 l2 d2 hP hQ hS3 hT hTw hTlt hlen hsum hMay hbb hst hsm hw4
     go_wp2_with fail
     refine (Uh HK1).mono ?_
     rintro _ _ ⟨rfl,hw⟩
     obtain rfl:=hw.symm
     clear hw HK1
     go_wp2_with fail
     refine (Uh HK2).mono ?_
     rintro _ _ ⟨rfl,hw⟩
     obtain rfl:=hw.symm
     clear hw HK2
     go_wp2_with fail
     refine (Uh HKS).mono ?_
     rintro _ wc ⟨ad,md,cd,rfl,sd,nd,bd⟩
     have KF:=spread_any ad md cd (limbs T) wc sd (limbs_rep T).ok (Uh HM)
     rw [(limbs_rep T).val] at KF
     have HKF:=Hj KF
     have HND:=Hj nd
     have HBD:=Hj bd
     clear sd nd bd KF HKS
     go_wp2_with fail
     refine (sure_any _ _ _).mono ?_
     rintro _ _ ⟨rfl,hw⟩
     obtain rfl:=hw.symm
     clear hw
     go_wp2_with fail
     refine (Uh HKF).mono ?_
     rintro _ we ⟨ae,ne,ce,ss,rfl,hWe,hne2,hbe,hfe,hnw,_⟩
     have hbre:Below wr.heap.size wr we:=((Uh HBB).trans ((Uh HBD).mono (Uh HBB).size)).trans (hbe.mono (Nat.le_trans (Uh HBB).size (Uh HBD).size))
     have hadg:∀ y,ad = some y → y.block ≠ w.heap.size:=fun y hy => by have:=Uh HND y hy; omega
     have haeg:∀ y,ae = some y → y.block ≠ w.heap.size:=fun y hy => by have h1:=hnw y hy; have h2:=(Uh HBD).size; omega
     have hssg:∀ p ∈ ss,∀ x,p.a = some x → x.block ≠ w.heap.size:=fun p hp x hx => by obtain ⟨y,hy,e⟩:=hfe p hp x hx; rw [e]; exact hadg y hy
     have hd2:=wide_two hWe hne2
     have D0g:=wide_dg hWe 0
     have D1g:=wide_dg hWe 1
     have f0:=dg_from hfe 0
     have f1:=dg_from hfe 1
     have K0:=wdigit_any ae ne ce ss we hWe.sl 0
     obtain ⟨D0,hD0⟩:∃ P,dgP ss 0 = P:=⟨_,rfl⟩
     obtain ⟨D1,hD1⟩:∃ P,dgP ss 1 = P:=⟨_,rfl⟩
     rw [hD0] at K0 hd2 D0g f0
     rw [hD1] at hd2 D1g f1
     have hDig0:Dig we w.heap.size D0:=⟨D0g.1,D0g.2.1,D0g.2.2.1,D0g.2.2.2.1,fun _ x hx => by obtain ⟨y,hy,e⟩:=f0 x hx; rw [e]; exact hadg y hy⟩
     have hDig1:Dig we w.heap.size D1:=⟨D1g.1,D1g.2.1,D1g.2.2.1,D1g.2.2.2.1,fun _ x hx => by obtain ⟨y,hy,e⟩:=f1 x hx; rw [e]; exact hadg y hy⟩
     have hrow:=(Uh HSt).row.below hbre
     have hown:=hrow.own
     rw [(Uh HSt).len] at hown
     have HK0:=Hj K0
     have HRow:=Hj (And.intro hrow (And.intro hDig0 hDig1))
     have HOw:=Hj hown
     have HSs:=Hj (And.intro hWe.sl (And.intro haeg hssg))
     have HD:=Hj (And.intro hd2 hD1)
     clear K0 hrow hown hWe hne2 hbe hfe hnw hbre hadg haeg hssg D0g D1g f0 f1 hDig0 hDig1 hd2 hD0 hD1 HKF HND HBD HBB hwb
     go_wp2_with fail
     refine (Uh HK0).mono ?_
     rintro _ _ ⟨rfl,hw⟩
     obtain rfl:=hw.symm
     clear hw HK0
     go_wp2_with (at_builtin; refine wpList_append_fits _ rfl _ _ 117 rfl w.heap.size 23 i24 1 Tryz.underlying117 (Uh HInf).1 (Uh HInf).2.2.1 w.heap.size i (n2 + 1) (acc.map slV) rfl ((Uh HOw).alloc _) ⟨we.heap.size,0,none⟩ 1 1 [slV D0] rfl rfl ?c1 ?c2 ?c3 ?_)
     case c1 => exact cell_one (v:=slV D0)
     case c2 => intro u hu; simp at hu; subst hu; rfl
     case c3 => omega
     intro w4 hown4 hg4
     have hR4:=(Uh HRow).1.app (Uh HRow).2.1 (by rw [(Uh HSt).len]; exact hown4) hg4
     have hal:Below we.heap.size we (we.alloc (.cells #[.slice D0.a D0.n D0.c] 23)):=bAl
     have hD14:=((Uh HRow).2.2.below hal).grown hg4
     have hS4:=((Uh HSs).1.below hal).grownR hg4 (Uh HSs).2.1 (Uh HSs).2.2
     have K1:=wdigit_any ae ne ce ss w4 hS4 1
     rw [(Uh HD).2] at K1
     have HK1:=Hj K1
     have hsp:=(Uh HSt).sum
     have hlp:=(Uh HSt).len
     have HFin:=Hj (show PlI w w4 w.heap.size n2 (i + 1) (fun i => val (dgP ps i).xs) (fun i => val (dgP qs i).xs) (acc ++ [D0]) D1 from by
      obtain ⟨hP,hQ,hT,d1,d2,hsm⟩:=Uh HPQ
      have hd:=(Uh HD).1
      have hw4:=wD_two'
      have hT2:(fun i => val (dgP ps i).xs) i + (fun i => val (dgP qs i).xs) i + val C.xs = val D0.xs + wD * val D1.xs:=by
       simp only
       rw [hP,hQ,← hd,← hT]
       omega
      refine ⟨hR4,by rw [List.length_append,hlp]; rfl,hD14,?_,pl_step hlp hsp hT2 rfl⟩
      rcases Nat.lt_or_ge (val D1.xs) 3 with h | h
      ·omega
      ·have h3:wD * 3 ≤ wD * val D1.xs:=Nat.mul_le_mul_left wD h
       omega)
     clear hown4 hg4 hR4 hal hD14 hS4 K1 hsp hlp HRow HOw HSs HD
     go_wp2_with fail
     refine (Uh HK1).mono ?_
     rintro _ _ ⟨rfl,hw⟩
     obtain rfl:=hw.symm
     clear hw HK1
     go_wp2_with fail
     exact ⟨⟨i + 1,_,_,by omega,by go_num,rfl,rfl,Uh HFin⟩,by simp [intOf]; omega⟩
    ·have hlti':¬ (i:Int) < (n2:Int):=by omega
     have hiN:i = n2:=by omega
     have hown:=hst.row.own
     rw [hst.len] at hown
     have HOw:=Hj hown
     have HV:=Hj (show wv (acc ++ [C]) = v1 + v2 by rw [wv_app,hst.len,(Uh HE).1,(Uh HE).2,← hiN]; exact hst.sum.symm)
     have HL:=Hj (show (acc ++ [C]).length = i + 1 by rw [List.length_append,hst.len]; rfl)
     have hle9:i + 1 ≤ n2 + 1:=by omega
     clear hown hst hiN
     go_wp2_with (at_builtin; refine wpList_append_fits _ rfl _ _ 117 rfl w.heap.size 23 i24 1 Tryz.underlying117 (Uh HInf).1 (Uh HInf).2.2.1 w.heap.size i (n2 + 1) (acc.map slV) rfl ((Uh HOw).alloc _) ⟨wr.heap.size,0,none⟩ 1 1 [slV C] rfl rfl (cell_one (v:=slV C)) (by intro u hu; simp at hu; subst hu; rfl) hle9 ?_)
     intro w4 hown4 hg4
     have hR4:=(Uh HSt).row.app (Uh HSt).dig (by rw [(Uh HSt).len]; exact hown4) hg4
     have hsl:=hR4.sl
     rw [Uh HL] at hsl
     have KT:=wtrim_any (some ⟨w.heap.size,0,none⟩) (i + 1) (n2 + 1) (acc ++ [C]) w4 hsl (by omega)
     have HKT:=Hj KT
     have HR4:=Hj hR4
     clear hown4 hg4 hR4 hsl KT
     go_wp2_with fail
     refine (Uh HKT).mono ?_
     rintro _ _ ⟨m,qz,rfl,sz,tz,hw⟩
     obtain rfl:=hw.symm
     have hWd:=pl_end (N:=n2) (Uh HR4) tz sz
     rw [Uh HV] at hWd
     have hmle:=tz.le
     rw [Uh HL] at hmle
     have HFin:=Hj (And.intro hWd (And.intro hmle (Uh HR4).bel))
     clear hw sz tz hWd hmle HKT
     go_wp2_with fail
     go_ret
     exact ⟨_,_,_,qz,rfl,(Uh HFin).1,Nat.le_trans (Uh HFin).2.1 hle9,(Uh HFin).2.2⟩
  ·have hlt':¬ (n1:Int) < (n2:Int):=by omega
   have e1:v1 = sF wD (fun i => val (dgP ps i).xs) n1:=by rw [← h1.val]; exact wv_sF ps n1 (by rw [h1.sl.len]; omega)
   have e2:v2 = sF wD (fun i => val (dgP qs i).xs) n1:=by rw [← h2.val]; exact wv_sF qs n1 (by rw [h2.sl.len]; omega)
   have H1:=Hj h1
   have H2:=Hj h2
   have HE:=Hj (And.intro e1 e2)
   have hN:n1 ≤ 1000:=by omega
   have hmx:max n1 n2 = n1:=by omega
   rw [hmx]
   clear h1 h2 e1 e2 hmx
   have hm:=make_wide n1 (by omega)
   obtain ⟨wa,hwa⟩:∃ x,w.alloc (.cells (madeCells #[.slice none 0 0] (n1 + 1)) 23) = x:=⟨_,rfl⟩
   have HR0:=Hj (row_start hwa (by omega))
   go_enter Tryz.func136,Tryz.ntmps136
   go_wp2_with fail
   clear hm hwa
   go_loopw [25,5,6,7,8] (fun cnt z cy _ _ wr => ∃ (i:Nat) (acc:List Pc) (C:Pc),i ≤ n1 ∧ cnt = .int .i64 (i:Int) ∧ z = .slice (some ⟨w.heap.size,0,none⟩) i (n1 + 1) ∧ cy = .slice C.a C.n C.c ∧ PlI w wr w.heap.size n1 i (fun i => val (dgP ps i).xs) (fun i => val (dgP qs i).xs) acc C) (fun cnt _ _ _ _ _ => n1 - (intOf cnt).toNat)
   case atStart => exact ⟨0,[],pcNil,Nat.zero_le _,rfl,rfl,rfl,⟨Uh HR0,rfl,dig_nil _ _,(by show (0:Nat) ≤ 2; omega),pl_zero _ _⟩⟩
   case round =>
    obtain ⟨i,acc,C,hi,rfl,rfl,rfl,hst⟩:=hrel
    have hgl:=hst.row.lt
    have HSt:=Hj hst
    by_cases hlti:i < n1
    ·have hlti':(i:Int) < (n1:Int):=by omega
     have W1:=(Uh H1).below hst.row.bel
     have W2:=(Uh H2).below hst.row.bel
     have K1:=wdigit_any a1 n1 c1 ps wr W1.sl i
     have K2:=wdigit_any a2 n2 c2 qs wr W2.sl i
     obtain ⟨s1,o1,m1,l1,d1⟩:=wide_dg W1 i
     obtain ⟨s2,o2,m2,l2,d2⟩:=wide_dg W2 i
     obtain ⟨P,hP⟩:∃ P,dgP ps i = P:=⟨_,rfl⟩
     obtain ⟨Q,hQ⟩:∃ P,dgP qs i = P:=⟨_,rfl⟩
     rw [hP] at K1 s1 o1 m1 l1 d1
     rw [hQ] at K2 s2 o2 m2 l2 d2
     obtain ⟨wb,hwb⟩:∃ x,wr.alloc (.cells #[.slice P.a P.n P.c,.slice Q.a Q.n Q.c,.slice C.a C.n C.c] 23) = x:=⟨_,rfl⟩
     have hbb:Below wr.heap.size wr wb:=by rw [← hwb]; exact bAl
     have hS3:SlL wb (some ⟨wr.heap.size,0,none⟩) 3 3 [P,Q,C]:=sll_three ⟨s1.below hbb,o1⟩ ⟨s2.below hbb,o2⟩ ⟨hst.dig.sl.below hbb,hst.dig.ok⟩ (by rw [← hwb]; simp) (by rw [← hwb]; simp) (by rw [← hwb]; simp)
     have KS:=nsum_any _ 3 3 [P,Q,C] wb hS3 (by decide)
     obtain ⟨T,hT⟩:∃ T,val P.xs + (val Q.xs + (val C.xs + 0)) = T:=⟨_,rfl⟩
     have hsm:=hst.small
     have hw4:=wD_two'
     have hTw:T < 3 * wD:=by omega
     have hTlt:T < wD * wD:=Nat.lt_of_lt_of_le hTw (Nat.mul_le_mul_right wD (by omega))
     have hlen:=len_two hTlt
     have hsum:sumL [P,Q,C] = (limbs T,0):=by
      unfold sumL
      rw [if_pos (by simp [mayB,dL_may s1.len m1 l1,dL_may s2.len m2 l2,dL_may hst.dig.sl.len hst.dig.norm hst.dig.len])]
      show fitL (val P.xs + (val Q.xs + (val C.xs + 0))) = _
      rw [hT]
      exact fitL_ok (by omega)
     rw [hsum] at KS
     have HKS:=Hj KS
     have HK1:=Hj K1
     have HK2:=Hj K2
     have hMay:MayL (limbs T) = true:=MayL.mk (limbs_rep T).norm hlen
     have HM:=Hj hMay
     have HPQ:=Hj (And.intro hP (And.intro hQ (And.intro hT (And.intro d1 (And.intro d2 hsm)))))
     have HBB:=Hj hbb
     have hgb:w.heap.size < wb.heap.size:=Nat.lt_of_lt_of_le hgl hbb.size
     clear K1 K2 KS W1 W2 s1 o1 m1 l1 d1 s2 o2 m2 l2 d2 hP hQ hS3 hT hTw hTlt hlen hsum hMay hbb hst hsm hw4
     go_wp2_with fail
     refine (Uh HK1).mono ?_
     rintro _ _ ⟨rfl,hw⟩
     obtain rfl:=hw.symm
     clear hw HK1
     go_wp2_with fail
     refine (Uh HK2).mono ?_
     rintro _ _ ⟨rfl,hw⟩
     obtain rfl:=hw.symm
     clear hw HK2
     go_wp2_with fail
     refine (Uh HKS).mono ?_
     rintro _ wc ⟨ad,md,cd,rfl,sd,nd,bd⟩
     have KF:=spread_any ad md cd (limbs T) wc sd (limbs_rep T).ok (Uh HM)
     rw [(limbs_rep T).val] at KF
     have HKF:=Hj KF
     have HND:=Hj nd
     have HBD:=Hj bd
     clear sd nd bd KF HKS
     go_wp2_with fail
     refine (sure_any _ _ _).mono ?_
     rintro _ _ ⟨rfl,hw⟩
     obtain rfl:=hw.symm
     clear hw
     go_wp2_with fail
     refine (Uh HKF).mono ?_
     rintro _ we ⟨ae,ne,ce,ss,rfl,hWe,hne2,hbe,hfe,hnw,_⟩
     have hbre:Below wr.heap.size wr we:=((Uh HBB).trans ((Uh HBD).mono (Uh HBB).size)).trans (hbe.mono (Nat.le_trans (Uh HBB).size (Uh HBD).size))
     have hadg:∀ y,ad = some y → y.block ≠ w.heap.size:=fun y hy => by have:=Uh HND y hy; omega
     have haeg:∀ y,ae = some y → y.block ≠ w.heap.size:=fun y hy => by have h1:=hnw y hy; have h2:=(Uh HBD).size; omega
     have hssg:∀ p ∈ ss,∀ x,p.a = some x → x.block ≠ w.heap.size:=fun p hp x hx => by obtain ⟨y,hy,e⟩:=hfe p hp x hx; rw [e]; exact hadg y hy
     have hd2:=wide_two hWe hne2
     have D0g:=wide_dg hWe 0
     have D1g:=wide_dg hWe 1
     have f0:=dg_from hfe 0
     have f1:=dg_from hfe 1
     have K0:=wdigit_any ae ne ce ss we hWe.sl 0
     obtain ⟨D0,hD0⟩:∃ P,dgP ss 0 = P:=⟨_,rfl⟩
     obtain ⟨D1,hD1⟩:∃ P,dgP ss 1 = P:=⟨_,rfl⟩
     rw [hD0] at K0 hd2 D0g f0
     rw [hD1] at hd2 D1g f1
     have hDig0:Dig we w.heap.size D0:=⟨D0g.1,D0g.2.1,D0g.2.2.1,D0g.2.2.2.1,fun _ x hx => by obtain ⟨y,hy,e⟩:=f0 x hx; rw [e]; exact hadg y hy⟩
     have hDig1:Dig we w.heap.size D1:=⟨D1g.1,D1g.2.1,D1g.2.2.1,D1g.2.2.2.1,fun _ x hx => by obtain ⟨y,hy,e⟩:=f1 x hx; rw [e]; exact hadg y hy⟩
     have hrow:=(Uh HSt).row.below hbre
     have hown:=hrow.own
     rw [(Uh HSt).len] at hown
     have HK0:=Hj K0
     have HRow:=Hj (And.intro hrow (And.intro hDig0 hDig1))
     have HOw:=Hj hown
     have HSs:=Hj (And.intro hWe.sl (And.intro haeg hssg))
     have HD:=Hj (And.intro hd2 hD1)
     clear K0 hrow hown hWe hne2 hbe hfe hnw hbre hadg haeg hssg D0g D1g f0 f1 hDig0 hDig1 hd2 hD0 hD1 HKF HND HBD HBB hwb
     go_wp2_with fail
     refine (Uh HK0).mono ?_
     rintro _ _ ⟨rfl,hw⟩
     obtain rfl:=hw.symm
     clear hw HK0
     go_wp2_with (at_builtin; refine wpList_append_fits _ rfl _ _ 117 rfl w.heap.size 23 i24 1 Tryz.underlying117 (Uh HInf).1 (Uh HInf).2.2.1 w.heap.size i (n1 + 1) (acc.map slV) rfl ((Uh HOw).alloc _) ⟨we.heap.size,0,none⟩ 1 1 [slV D0] rfl rfl ?c1 ?c2 ?c3 ?_)
     case c1 => exact cell_one (v:=slV D0)
     case c2 => intro u hu; simp at hu; subst hu; rfl
     case c3 => omega
     intro w4 hown4 hg4
     have hR4:=(Uh HRow).1.app (Uh HRow).2.1 (by rw [(Uh HSt).len]; exact hown4) hg4
     have hal:Below we.heap.size we (we.alloc (.cells #[.slice D0.a D0.n D0.c] 23)):=bAl
     have hD14:=((Uh HRow).2.2.below hal).grown hg4
     have hS4:=((Uh HSs).1.below hal).grownR hg4 (Uh HSs).2.1 (Uh HSs).2.2
     have K1:=wdigit_any ae ne ce ss w4 hS4 1
     rw [(Uh HD).2] at K1
     have HK1:=Hj K1
     have hsp:=(Uh HSt).sum
     have hlp:=(Uh HSt).len
     have HFin:=Hj (show PlI w w4 w.heap.size n1 (i + 1) (fun i => val (dgP ps i).xs) (fun i => val (dgP qs i).xs) (acc ++ [D0]) D1 from by
      obtain ⟨hP,hQ,hT,d1,d2,hsm⟩:=Uh HPQ
      have hd:=(Uh HD).1
      have hw4:=wD_two'
      have hT2:(fun i => val (dgP ps i).xs) i + (fun i => val (dgP qs i).xs) i + val C.xs = val D0.xs + wD * val D1.xs:=by
       simp only
       rw [hP,hQ,← hd,← hT]
       omega
      refine ⟨hR4,by rw [List.length_append,hlp]; rfl,hD14,?_,pl_step hlp hsp hT2 rfl⟩
      rcases Nat.lt_or_ge (val D1.xs) 3 with h | h
      ·omega
      ·have h3:wD * 3 ≤ wD * val D1.xs:=Nat.mul_le_mul_left wD h
       omega)
     clear hown4 hg4 hR4 hal hD14 hS4 K1 hsp hlp HRow HOw HSs HD
     go_wp2_with fail
     refine (Uh HK1).mono ?_
     rintro _ _ ⟨rfl,hw⟩
     obtain rfl:=hw.symm
     clear hw HK1
     go_wp2_with fail
     exact ⟨⟨i + 1,_,_,by omega,by go_num,rfl,rfl,Uh HFin⟩,by simp [intOf]; omega⟩
    ·have hlti':¬ (i:Int) < (n1:Int):=by omega
     have hiN:i = n1:=by omega
     have hown:=hst.row.own
     rw [hst.len] at hown
     have HOw:=Hj hown
     have HV:=Hj (show wv (acc ++ [C]) = v1 + v2 by rw [wv_app,hst.len,(Uh HE).1,(Uh HE).2,← hiN]; exact hst.sum.symm)
     have HL:=Hj (show (acc ++ [C]).length = i + 1 by rw [List.length_append,hst.len]; rfl)
     have hle9:i + 1 ≤ n1 + 1:=by omega
     clear hown hst hiN
     go_wp2_with (at_builtin; refine wpList_append_fits _ rfl _ _ 117 rfl w.heap.size 23 i24 1 Tryz.underlying117 (Uh HInf).1 (Uh HInf).2.2.1 w.heap.size i (n1 + 1) (acc.map slV) rfl ((Uh HOw).alloc _) ⟨wr.heap.size,0,none⟩ 1 1 [slV C] rfl rfl (cell_one (v:=slV C)) (by intro u hu; simp at hu; subst hu; rfl) hle9 ?_)
     intro w4 hown4 hg4
     have hR4:=(Uh HSt).row.app (Uh HSt).dig (by rw [(Uh HSt).len]; exact hown4) hg4
     have hsl:=hR4.sl
     rw [Uh HL] at hsl
     have KT:=wtrim_any (some ⟨w.heap.size,0,none⟩) (i + 1) (n1 + 1) (acc ++ [C]) w4 hsl (by omega)
     have HKT:=Hj KT
     have HR4:=Hj hR4
     clear hown4 hg4 hR4 hsl KT
     go_wp2_with fail
     refine (Uh HKT).mono ?_
     rintro _ _ ⟨m,qz,rfl,sz,tz,hw⟩
     obtain rfl:=hw.symm
     have hWd:=pl_end (N:=n1) (Uh HR4) tz sz
     rw [Uh HV] at hWd
     have hmle:=tz.le
     rw [Uh HL] at hmle
     have HFin:=Hj (And.intro hWd (And.intro hmle (Uh HR4).bel))
     clear hw sz tz hWd hmle HKT
     go_wp2_with fail
     go_ret
     exact ⟨_,_,_,qz,rfl,(Uh HFin).1,Nat.le_trans (Uh HFin).2.1 hle9,(Uh HFin).2.2⟩
end Go.Proofs.YtmnlhnmlgncedaaGreatDoor
