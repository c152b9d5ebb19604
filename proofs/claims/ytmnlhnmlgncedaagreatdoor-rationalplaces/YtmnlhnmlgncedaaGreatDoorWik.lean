/- Wid -/
import Derived.Test.YtmnlhnmlgncedaaGreatDoorWic
import Derived.Test.YtmnlhnmlgncedaaGreatDoorGc
import Derived.Deep.LoopGhost
import Derived.Test.YtmnlhnmlgncedaaGreatDoorRa6
namespace Go.Proofs.YtmnlhnmlgncedaaGreatDoor
open Go.RowKit Go.Deep
set_option linter.unusedVariables false
def cmpR (g1:Bool) (x1 y1:List Nat) (g2:Bool) (x2 y2:List Nat):Int :=
 if signR g1 x1 < signR g2 x2 then -1 else if signR g2 x2 < signR g1 x1 then 1 else if g1 then cmpN (val x2 * val y1) (val x1 * val y2) else cmpN (val x1 * val y2) (val x2 * val y1)
theorem MayR.parts {g:Bool} {x y:List Nat} (h:MayR g x y = true):MayL x = true ∧ MayL y = true ∧ y ≠ [] ∧ (g = true → x ≠ []) ∧ Nat.gcd (val x) (val y) = 1:=by
 unfold MayR at h
 simp only [Bool.and_eq_true,Bool.not_eq_true',decide_eq_false_iff_not,decide_eq_true_eq] at h
 obtain ⟨⟨⟨⟨h1,h2⟩,h3⟩,h4⟩,h5⟩:=h
 refine ⟨h1,h2,h3,fun hg hx => ?_,h5⟩
 rw [hg,hx] at h4
 simp at h4
theorem sz_ok {g1 g2:Bool} {x1 y1 x2 y2:List Nat} (ox1:Ok x1) (oy1:Ok y1) (ox2:Ok x2) (oy2:Ok y2) (h1:MayR g1 x1 y1 = true) (h2:MayR g2 x2 y2 = true) (hs:signR g1 x1 = signR g2 x2):SzOk x1 y1 x2 y2:=by
 obtain ⟨a1,b1,c1,d1,e1⟩:=MayR.parts h1
 obtain ⟨a2,b2,c2,d2,e2⟩:=MayR.parts h2
 by_cases z1:x1 = []
 ·have g10:g1 = false:=by cases g1; rfl; exact absurd z1 (d1 rfl)
  have s1:signR g1 x1 = 0:=by rw [g10,z1]; rfl
  rw [s1] at hs
  have z2:x2 = []:=by
   unfold signR at hs
   cases g2
   ·simp at hs
    by_cases h:x2 = []
    ·exact h
    ·simp [h] at hs
   ·simp at hs
  have v1:val y1 = 1:=by rw [z1] at e1; simpa [val] using e1
  have v2:val y2 = 1:=by rw [z2] at e2; simpa [val] using e2
  have k1:=bitsN_mono oy1 oy2 (MayL.norm b1) (by omega)
  have k2:=bitsN_mono oy2 oy1 (MayL.norm b2) (by omega)
  rw [z1,z2]
  exact ⟨fun h => by omega,fun h => by omega⟩
 ·have z2:x2 ≠ []:=by
   intro z2
   have g20:g2 = false:=by cases g2; rfl; exact absurd z2 (d2 rfl)
   rw [g20,z2] at hs
   unfold signR at hs
   cases g1
   ·simp [z1] at hs
   ·simp at hs
  exact ⟨fun h => prod_less ox1 oy2 ox2 oy1 (MayL.norm a2) (MayL.norm b1) z2 c1 h,fun h => prod_less ox2 oy1 ox1 oy2 (MayL.norm a1) (MayL.norm b2) z1 c2 h⟩

set_option maxHeartbeats 8000000 in
set_option maxRecDepth 100000 in
theorem ratcompare_any (g1 g2:Bool) (a1 b1 a2 b2:Option Addr) (n1 c1 m1 d1 n2 c2 m2 d2:Nat) (x1 y1 x2 y2:List Nat) (w:World) (hx1:Sl w a1 n1 c1 x1) (hy1:Sl w b1 m1 d1 y1) (hx2:Sl w a2 n2 c2 x2) (hy2:Sl w b2 m2 d2 y2) (ox1:Ok x1) (oy1:Ok y1) (ox2:Ok x2) (oy2:Ok y2) (h1:MayR g1 x1 y1 = true) (h2:MayR g2 x2 y2 = true) :
  Calls Tryz.prog 57 #[ratV g1 a1 n1 c1 b1 m1 d1,ratV g2 a2 n2 c2 b2 m2 d2] w fun e w' => e = .returned (.int .i64 (cmpR g1 x1 y1 g2 x2 y2)) ∧ Below w.heap.size w w':=by
 have bx:=Box.made w g1 a1 n1 c1 b1 m1 d1
 obtain ⟨wa,hwa⟩:∃ wa,ratBox w g1 a1 n1 c1 b1 m1 d1 = wa:=⟨_,rfl⟩
 rw [hwa] at bx
 have by_:=Box.made wa g2 a2 n2 c2 b2 m2 d2
 obtain ⟨wb,hwb⟩:∃ wb,ratBox wa g2 a2 n2 c2 b2 m2 d2 = wb:=⟨_,rfl⟩
 rw [hwb] at by_
 have hba:Below w.heap.size w wa:=by rw [← hwa]; exact bAl
 have hbb:Below wa.heap.size wa wb:=by rw [← hwb]; exact bAl
 have bx2:=bx.keep hbb
 have hB:=hba.trans (hbb.mono hba.size)
 unfold ratBox at hwa hwb
 have p0:=bx2.d0
 have p1:=bx2.d1
 have p2:=bx2.d2
 have q0:=by_.d0
 have q1:=by_.d1
 have q2:=by_.d2
 obtain ⟨ka1,kb1,_,_,_⟩:=MayR.parts h1
 obtain ⟨ka2,kb2,_,_,_⟩:=MayR.parts h2
 have HS1:=Hj (fun (W:World) => rsign_any g1 a1 b1 n1 c1 m1 d1 x1 W hx1.len)
 have HS2:=Hj (fun (W:World) => rsign_any g2 a2 b2 n2 c2 m2 d2 x2 W hx2.len)
 have HSz:=Hj (fun hs => sz_ok ox1 oy1 ox2 oy2 h1 h2 hs)
 have HSz2:=Hj (fun hs => sz_ok ox2 oy2 ox1 oy1 h2 h1 hs)
 have HC1:=Hj (fun (W:World) (hb:Below wb.heap.size wb W) sz => compareSizes_any g1 g2 a1 b1 a2 b2 n1 c1 m1 d1 n2 c2 m2 d2 x1 y1 x2 y2 W ((hx1.below hB).below hb) ((hy1.below hB).below hb) ((hx2.below hB).below hb) ((hy2.below hB).below hb) ox1 oy1 ox2 oy2 ka1 kb1 ka2 kb2 sz)
 have HC2:=Hj (fun (W:World) (hb:Below wb.heap.size wb W) sz => compareSizes_any g2 g1 a2 b2 a1 b1 n2 c2 m2 d2 n1 c1 m1 d1 x2 y2 x1 y1 W ((hx2.below hB).below hb) ((hy2.below hB).below hb) ((hx1.below hB).below hb) ((hy1.below hB).below hb) ox2 oy2 ox1 oy1 ka2 kb2 ka1 kb1 sz)
 have HBB:=Hj hB
 have hX1:-1 ≤ signR g1 x1 ∧ signR g1 x1 ≤ 1:=by unfold signR; split; omega; split <;> omega
 have hX2:-1 ≤ signR g2 x2 ∧ signR g2 x2 ≤ 1:=by unfold signR; split; omega; split <;> omega
 obtain ⟨R,hR⟩:∃ R,cmpR g1 x1 y1 g2 x2 y2 = R:=⟨_,rfl⟩
 have HR:=Hj hR
 rw [hR]
 unfold cmpR at HR
 obtain ⟨X,hX⟩:∃ X,signR g1 x1 = X:=⟨_,rfl⟩
 obtain ⟨Y,hY⟩:∃ X,signR g2 x2 = X:=⟨_,rfl⟩
 rw [hX] at HS1 HSz HSz2 hX1 HR
 rw [hY] at HS2 HSz HSz2 hX2 HR
 unfold ratV at HS1 HS2 HC1 HC2 ⊢
 clear bx bx2 by_ hba hbb hB hx1 hy1 hx2 hy2 hX hY hR h1 h2 ka1 kb1 ka2 kb2
 have F0:=fun x:Ext wb => x.cell p0
 have F1:=fun x:Ext wb => x.cell p1
 have F2:=fun x:Ext wb => x.cell p2
 have G0:=fun x:Ext wb => x.cell q0
 have G1:=fun x:Ext wb => x.cell q1
 have G2:=fun x:Ext wb => x.cell q2
 have hNE:=Ext.ne wb
 go_enter Tryz.func57,Tryz.ntmps57
 go_wp2_with fail
 refine wp_region_ext (by kernel_rfl) (by kernel_rfl) ?_
 repeat (go_big_quiet_step (first
  | (go_at_call_of 84 (Value.agg #[Value.bool g1,Value.slice a1 n1 c1,Value.slice b1 m1 d1]); rename_i x; exact Ext.call (Uh HS1 x.w) (fun e w' h => h))
  | (go_at_call_of 84 (Value.agg #[Value.bool g2,Value.slice a2 n2 c2,Value.slice b2 m2 d2]); rename_i x; exact Ext.call (Uh HS2 x.w) (fun e w' h => h))))
 refine wpQuiet_nil ?_
 rintro _ ⟨xE,rfl⟩
 have HBE:=Hj xE.bel
 have r0:=xE.cell p0
 have r1:=xE.cell p1
 have r2:=xE.cell p2
 have s0:=xE.cell q0
 have s1:=xE.cell q1
 have s2:=xE.cell q2
 clear F0 F1 F2 G0 G1 G2 hNE p0 p1 p2 q0 q1 q2
 by_cases t1:X < Y
 ·have HR3:=Hj (show R = -1 by rw [← Uh HR,if_pos t1])
  clear HR
  go_wp2_with fail
  go_ret
  rw [Uh HR3]
  exact ⟨rfl,(Uh HBB).trans ((Uh HBE).mono (Uh HBB).size)⟩
 ·by_cases t2:Y < X
  ·have HR3:=Hj (show R = 1 by rw [← Uh HR,if_neg t1,if_pos t2])
   clear HR
   go_wp2_with fail
   go_ret
   rw [Uh HR3]
   exact ⟨rfl,(Uh HBB).trans ((Uh HBE).mono (Uh HBB).size)⟩
  ·have hXY:X = Y:=by omega
   cases g1
   ·have KS:=Hj (Uh HC1 xE.w (Uh HBE) (Uh HSz hXY))
    have HR3:=Hj (show R = cmpN (val x1 * val y2) (val x2 * val y1) by rw [← Uh HR,if_neg t1,if_neg t2]; rfl)
    clear HR HSz HSz2 HC1 HC2 HS1 HS2 hXY
    go_wp2_with fail
    refine (Uh KS).mono ?_
    rintro _ wz ⟨rfl,hbz⟩
    have HBz:=Hj ((Uh HBE).trans (hbz.mono (Uh HBE).size))
    clear hbz KS
    go_wp2_with fail
    go_ret
    rw [Uh HR3]
    exact ⟨rfl,(Uh HBB).trans ((Uh HBz).mono (Uh HBB).size)⟩
   ·have KS:=Hj (Uh HC2 xE.w (Uh HBE) (Uh HSz2 hXY.symm))
    have HR3:=Hj (show R = cmpN (val x2 * val y1) (val x1 * val y2) by rw [← Uh HR,if_neg t1,if_neg t2]; rfl)
    clear HR HSz HSz2 HC1 HC2 HS1 HS2 hXY
    go_wp2_with fail
    refine (Uh KS).mono ?_
    rintro _ wz ⟨rfl,hbz⟩
    have HBz:=Hj ((Uh HBE).trans (hbz.mono (Uh HBE).size))
    clear hbz KS
    go_wp2_with fail
    go_ret
    rw [Uh HR3]
    exact ⟨rfl,(Uh HBB).trans ((Uh HBz).mono (Uh HBB).size)⟩
def CmpF (g1:Bool) (x1 y1:List Nat) (g2:Bool) (x2 y2:List Nat):Int:=if MayR g1 x1 y1 && MayR g2 x2 y2 then cmpR g1 x1 y1 g2 x2 y2 else 0
set_option maxHeartbeats 8000000 in
set_option maxRecDepth 100000 in
theorem ratCmp_any (g1 g2:Bool) (a1 b1 a2 b2:Option Addr) (n1 c1 m1 d1 n2 c2 m2 d2:Nat) (x1 y1 x2 y2:List Nat) (w:World) (hx1:Sl w a1 n1 c1 x1) (hy1:Sl w b1 m1 d1 y1) (hx2:Sl w a2 n2 c2 x2) (hy2:Sl w b2 m2 d2 y2) (ox1:Ok x1) (oy1:Ok y1) (ox2:Ok x2) (oy2:Ok y2) (hT:Tab64 w) :
  Calls Tryz.prog 23 #[ratV g1 a1 n1 c1 b1 m1 d1,ratV g2 a2 n2 c2 b2 m2 d2] w fun e w' => e = .returned (.int .i64 (CmpF g1 x1 y1 g2 x2 y2)) ∧ Below w.heap.size w w':=by
 have bx:=Box.made w g1 a1 n1 c1 b1 m1 d1
 obtain ⟨wa,hwa⟩:∃ wa,ratBox w g1 a1 n1 c1 b1 m1 d1 = wa:=⟨_,rfl⟩
 rw [hwa] at bx
 have by_:=Box.made wa g2 a2 n2 c2 b2 m2 d2
 obtain ⟨wb,hwb⟩:∃ wb,ratBox wa g2 a2 n2 c2 b2 m2 d2 = wb:=⟨_,rfl⟩
 rw [hwb] at by_
 have hba:Below w.heap.size w wa:=by rw [← hwa]; exact bAl
 have hbb:Below wa.heap.size wa wb:=by rw [← hwb]; exact bAl
 have bx2:=bx.keep hbb
 have hB:=hba.trans (hbb.mono hba.size)
 unfold ratBox at hwa hwb
 have p0:=bx2.d0
 have p1:=bx2.d1
 have p2:=bx2.d2
 have q0:=by_.d0
 have q1:=by_.d1
 have q2:=by_.d2
 have HM1:=Hj (fun (W:World) (hb:Below wb.heap.size wb W) => ratMay_any g1 a1 b1 n1 c1 m1 d1 x1 y1 W ((hx1.below hB).below hb) ((hy1.below hB).below hb) ox1 oy1 ((hT.below hB).below hb))
 have HM2:=Hj (fun (W:World) (hb:Below wb.heap.size wb W) => ratMay_any g2 a2 b2 n2 c2 m2 d2 x2 y2 W ((hx2.below hB).below hb) ((hy2.below hB).below hb) ox2 oy2 ((hT.below hB).below hb))
 have HC:=Hj (fun (W:World) (hb:Below wb.heap.size wb W) h1 h2 => ratcompare_any g1 g2 a1 b1 a2 b2 n1 c1 m1 d1 n2 c2 m2 d2 x1 y1 x2 y2 W ((hx1.below hB).below hb) ((hy1.below hB).below hb) ((hx2.below hB).below hb) ((hy2.below hB).below hb) ox1 oy1 ox2 oy2 h1 h2)
 have HBx:=Hj (And.intro bx2 by_)
 have HBB:=Hj hB
 obtain ⟨R,hR⟩:∃ R,CmpF g1 x1 y1 g2 x2 y2 = R:=⟨_,rfl⟩
 have HR:=Hj hR
 rw [hR]
 unfold CmpF at HR
 unfold ratV at HM1 HM2 HC ⊢
 clear bx bx2 by_ hba hbb hB hx1 hy1 hx2 hy2 hT hR
 cases k1:MayR g1 x1 y1
 ·have HR3:=Hj (show R = 0 by rw [← Uh HR,k1]; rfl)
  have KM:=Hj (Uh HM1 wb (Below.refl _ _))
  rw [k1] at KM
  clear HR HM1 HM2 HC k1
  go_enter Tryz.func23,Tryz.ntmps23
  go_wp2_with fail
  refine (Uh KM).mono ?_
  rintro _ wc ⟨rfl,hbc⟩
  have HF:=Hj ((Uh HBB).trans (hbc.mono (Uh HBB).size))
  clear hbc KM
  go_wp2_with fail
  go_ret
  rw [Uh HR3]
  exact ⟨rfl,Uh HF⟩
 ·have KM:=Hj (Uh HM1 wb (Below.refl _ _))
  rw [k1] at KM
  cases k2:MayR g2 x2 y2
  ·have HR3:=Hj (show R = 0 by rw [← Uh HR,k1,k2]; rfl)
   have HM:=Hj (fun W hb => (by have K:=Uh HM2 W hb; rw [k2] at K; exact K:Calls Tryz.prog 6 #[.agg #[.bool g2,.slice a2 n2 c2,.slice b2 m2 d2]] W fun e w' => e = .returned (.bool false) ∧ Below W.heap.size W w'))
   clear HR HM1 HM2 HC k1 k2
   go_enter Tryz.func23,Tryz.ntmps23
   go_wp2_with fail
   refine (Uh KM).mono ?_
   rintro _ wc ⟨rfl,hbc⟩
   have b2:=(Uh HBx).2.keep hbc
   have r0:=b2.d0
   have r1:=b2.d1
   have r2:=b2.d2
   have KM2:=Hj (Uh HM wc hbc)
   have HBc:=Hj hbc
   clear hbc KM b2 HM p0 p1 p2 q0 q1 q2
   go_wp2_with fail
   refine (Uh KM2).mono ?_
   rintro _ wd ⟨rfl,hbd⟩
   have h9:=(Uh HBc).trans (hbd.mono (Uh HBc).size)
   have HF:=Hj ((Uh HBB).trans (h9.mono (Uh HBB).size))
   clear hbd KM2 h9
   go_wp2_with fail
   go_ret
   rw [Uh HR3]
   exact ⟨rfl,Uh HF⟩
  ·have HR3:=Hj (show R = cmpR g1 x1 y1 g2 x2 y2 by rw [← Uh HR,k1,k2]; rfl)
   have HM:=Hj (fun W hb => (by have K:=Uh HM2 W hb; rw [k2] at K; exact K:Calls Tryz.prog 6 #[.agg #[.bool g2,.slice a2 n2 c2,.slice b2 m2 d2]] W fun e w' => e = .returned (.bool true) ∧ Below W.heap.size W w'))
   have HCC:=Hj (fun W hb => Uh HC W hb k1 k2)
   clear HR HM1 HM2 HC k1 k2
   go_enter Tryz.func23,Tryz.ntmps23
   go_wp2_with fail
   refine (Uh KM).mono ?_
   rintro _ wc ⟨rfl,hbc⟩
   have b2:=(Uh HBx).2.keep hbc
   have b1_:=(Uh HBx).1.keep hbc
   have r0:=b2.d0
   have r1:=b2.d1
   have r2:=b2.d2
   have KM2:=Hj (Uh HM wc hbc)
   have HBc:=Hj hbc
   have HB2:=Hj (And.intro b1_ b2)
   clear hbc KM b2 b1_ HM p0 p1 p2 q0 q1 q2
   go_wp2_with fail
   refine (Uh KM2).mono ?_
   rintro _ wd ⟨rfl,hbd⟩
   have b3:=(Uh HB2).1.keep hbd
   have b4:=(Uh HB2).2.keep hbd
   have u0:=b3.d0
   have u1:=b3.d1
   have u2:=b3.d2
   have v0:=b4.d0
   have v1:=b4.d1
   have v2:=b4.d2
   have h9:=(Uh HBc).trans (hbd.mono (Uh HBc).size)
   have KC:=Hj (Uh HCC wd h9)
   have HD:=Hj h9
   clear hbd KM2 h9 b3 b4 HCC r0 r1 r2
   go_wp2_with fail
   refine (Uh KC).mono ?_
   rintro _ we ⟨rfl,hbe⟩
   have h9:=(Uh HD).trans (hbe.mono (Uh HD).size)
   have HF:=Hj ((Uh HBB).trans (h9.mono (Uh HBB).size))
   clear hbe KC h9
   go_wp2_with fail
   go_ret
   rw [Uh HR3]
   exact ⟨rfl,Uh HF⟩



def ByPost (N:Nat) (w w':World) (q r:Nat) (e:Ending):Prop:=∃ a n c ps a' m c',e = .returned (.tuple #[.slice a n c,.slice a' m c']) ∧ Wide w' a n c q ps ∧ n ≤ N ∧ Sl w' a' m c' (limbs r) ∧ Below w.heap.size w w'

theorem guess_ge {B d d1 d0 r x:Nat} (hB:0 < B) (hd:d = d1 * B + d0) (h1:0 < d1) (hx:x < B):(r * B + x) / d ≤ r / d1:=by
 rw [Nat.le_div_iff_mul_le h1]
 have hdp:0 < d:=by rw [hd]; exact Nat.lt_of_lt_of_le (Nat.mul_pos h1 hB) (Nat.le_add_right _ _)
 have hq:(r * B + x) / d * d ≤ r * B + x:=Nat.div_mul_le_self _ _
 generalize (r * B + x) / d = q at *
 have h2:q * d1 * B ≤ q * d:=by rw [hd,Nat.mul_add,Nat.mul_assoc]; exact Nat.le_add_right _ _
 have h3:q * d1 * B < (r + 1) * B:=by rw [Nat.add_mul]; omega
 exact Nat.le_of_lt_succ (Nat.lt_of_mul_lt_mul_right h3)
theorem digit_lt {B d r x:Nat} (hr:r < d) (hx:x < B):(r * B + x) / d < B:=by
 rw [Nat.div_lt_iff_lt_mul (by omega)]
 have h:(r + 1) * B ≤ d * B:=Nat.mul_le_mul_right _ hr
 rw [Nat.add_mul] at h
 rw [Nat.mul_comm B d]
 omega

theorem limbs_is_one {G:Nat}:limbs G = [1] ↔ G = 1:=by
 constructor
 ·intro h
  have:=(limbs_rep G).val
  rw [h] at this
  simpa [val] using this.symm
 ·intro h
  have:=limbs_val (xs:=[1]) (by intro x hx; simp at hx; subst hx; decide) (by simp [Norm])
  rw [h]
  simpa [val] using this

set_option maxHeartbeats 8000000 in
theorem cancel_any (N:Nat) (a1 a2:Option Addr) (n1 c1 n2 c2 v:Nat) (ps:List Pc) (ys:List Nat) (w:World) (h1:Wide w a1 n1 c1 v ps) (hn1:n1 ≤ N) (h2:Sl w a2 n2 c2 ys) (oy:Ok ys) (m2:MayL ys = true) (hy:ys ≠ []) (hT:Tab64 w)
  (hBy:∀ W a m c zs,Below w.heap.size w W → Sl W a m c zs → Ok zs → MayL zs = true → zs ≠ [] → Calls Tryz.prog 95 #[.slice a1 n1 c1,.slice a m c] W fun e w' => ByPost N W w' (v / val zs) (v % val zs) e) :
  Calls Tryz.prog 87 #[.slice a1 n1 c1,.slice a2 n2 c2] w fun e w' => ByPost N w w' (v / Nat.gcd v (val ys)) (val ys / Nat.gcd v (val ys)) e:=by
 have vy:=val_pos_of_may m2 hy
 have K1:=isOne_any a2 n2 c2 ys w h2 oy
 by_cases e1:ys = [1]
 ·rw [decide_eq_true e1] at K1
  have HE:=Hj (show v / Nat.gcd v (val ys) = v ∧ limbs (val ys / Nat.gcd v (val ys)) = ys from by
   have hv1:val ys = 1:=by rw [e1]; simp [val]
   refine ⟨by rw [hv1]; simp,?_⟩
   have:Nat.gcd v (val ys) = 1:=by rw [hv1]; simp
   rw [this,Nat.div_one]
   exact limbs_val oy (MayL.norm m2))
  have HK:=Hj K1
  have H:=Hj (And.intro h1 (And.intro hn1 h2))
  clear K1 e1 h1 h2 hBy hT
  go_enter Tryz.func87,Tryz.ntmps87
  go_wp2_with fail
  refine (Uh HK).mono ?_
  rintro _ _ ⟨rfl,hw⟩
  obtain rfl:=hw.symm
  clear hw
  go_wp2_with fail
  go_ret2
  exact ⟨a1,n1,c1,ps,a2,n2,c2,rfl,by rw [(Uh HE).1]; exact (Uh H).1,(Uh H).2.1,by rw [(Uh HE).2]; exact (Uh H).2.2,Below.refl _ _⟩
 ·rw [decide_eq_false e1] at K1
  have HK:=Hj K1
  have hgcd:Nat.gcd (v % val ys) (val ys) = Nat.gcd v (val ys):=by rw [Nat.gcd_comm v,Nat.gcd_rec (val ys) v]
  have mr:MayL (limbs (v % val ys)) = true:=may_small m2 oy (Nat.le_of_lt (Nat.mod_lt _ vy))
  have HB1:=Hj (hBy w a2 n2 c2 ys (Below.refl _ _) h2 oy m2 hy)
  have hgp:0 < Nat.gcd v (val ys):=Nat.gcd_pos_of_pos_right _ vy
  have mg:MayL (limbs (Nat.gcd v (val ys))) = true:=may_small m2 oy (Nat.gcd_le_right _ vy)
  obtain ⟨G,hG⟩:∃ G,Nat.gcd v (val ys) = G:=⟨_,rfl⟩
  rw [hG] at hgcd hgp mg ⊢
  have HG:=Hj hgcd
  clear K1 e1 hgcd hG
  go_enter Tryz.func87,Tryz.ntmps87
  go_wp2_with fail
  refine (Uh HK).mono ?_
  rintro _ _ ⟨rfl,hw⟩
  obtain rfl:=hw.symm
  clear hw
  go_wp2_with fail
  refine (Uh HB1).mono ?_
  rintro _ wb ⟨ab,nb,cb,bs,ar,mr_,cr,rfl,hWb,hnb,sr,hbb⟩
  have KD:=ratDivisor_any ar a2 mr_ cr n2 c2 (limbs (v % val ys)) ys wb sr (h2.below hbb) (limbs_rep _).ok oy mr m2 (hT.below hbb)
  rw [(limbs_rep _).val,Uh HG] at KD
  have HKD:=Hj KD
  have HBb:=Hj hbb
  clear KD hWb hnb sr hbb HB1 HK
  go_wp2_with fail
  refine (Uh HKD).mono ?_
  rintro _ wd ⟨ad,md,cd,rfl,sd,nd,bd⟩
  have hbd:=(Uh HBb).trans (bd.mono (Uh HBb).size)
  have KO:=isOne_any ad md cd (limbs G) wd sd (limbs_rep _).ok
  by_cases g1:G = 1
  ·rw [decide_eq_true (limbs_is_one.2 g1)] at KO
   have HKO:=Hj KO
   have H:=Hj (And.intro (h1.below hbd) (And.intro hn1 (And.intro (h2.below hbd) hbd)))
   have HL:=Hj (limbs_val oy (MayL.norm m2))
   clear KO HKD h1 h2 hBy hT sd nd bd hbd
   subst g1
   go_wp2_with fail
   refine (Uh HKO).mono ?_
   rintro _ _ ⟨rfl,hw⟩
   obtain rfl:=hw.symm
   clear hw
   go_wp2_with fail
   go_ret2
   exact ⟨a1,n1,c1,ps,a2,n2,c2,rfl,by rw [Nat.div_one]; exact (Uh H).1,(Uh H).2.1,by rw [Nat.div_one,Uh HL]; exact (Uh H).2.2.1,(Uh H).2.2.2⟩
  ·rw [decide_eq_false (fun h => g1 (limbs_is_one.1 h))] at KO
   have HKO:=Hj KO
   have nzG:limbs G ≠ []:=limbs_ne hgp
   have KB:=hBy wd ad md cd (limbs G) hbd sd (limbs_rep _).ok mg nzG
   rw [(limbs_rep _).val] at KB
   have HKB:=Hj KB
   have HQ:=Hj (fun (W:World) (hb:Below wd.heap.size wd W) => (by have K:=ratQuotient_any a2 ad n2 c2 md cd ys (limbs G) W ((h2.below hbd).below hb) (sd.below hb) oy (limbs_rep _).ok m2 mg nzG; rw [(limbs_rep _).val] at K; exact K:Calls Tryz.prog 80 #[.slice a2 n2 c2,.slice ad md cd] W fun e w' => OldN W w' a2 n2 c2 (val ys / G) e))
   have HBd:=Hj hbd
   clear KO KB HKD h1 h2 hBy hT sd nd bd hbd
   go_wp2_with fail
   refine (Uh HKO).mono ?_
   rintro _ _ ⟨rfl,hw⟩
   obtain rfl:=hw.symm
   clear hw HKO
   go_wp2_with fail
   refine (Uh HKB).mono ?_
   rintro _ we ⟨ae,ne,ce,es,as_,ms,cs,rfl,hWe,hne,ss,hbe⟩
   have HK2:=Hj (Uh HQ we hbe)
   have H:=Hj (And.intro hWe (And.intro hne hbe))
   clear hWe hne ss hbe HKB HQ
   go_wp2_with fail
   refine (Uh HK2).mono ?_
   rintro _ wf ⟨af,mf,cf,rfl,sf,of,bf⟩
   have H2:=Hj (And.intro sf bf)
   clear sf of bf HK2
   go_wp2_with fail
   go_ret2
   exact ⟨ae,ne,ce,es,af,mf,cf,rfl,(Uh H).1.below (Uh H2).2,(Uh H).2.1,(Uh H2).1,(Uh HBd).trans (((Uh H).2.2.trans ((Uh H2).2.mono (Uh H).2.2.size)).mono (Uh HBd).size)⟩
end Go.Proofs.YtmnlhnmlgncedaaGreatDoor
