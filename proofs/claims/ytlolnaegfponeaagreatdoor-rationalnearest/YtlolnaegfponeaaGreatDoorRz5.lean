/- Wid -/
import Derived.Test.YtlolnaegfponeaaGreatDoorWic
import Derived.Test.YtlolnaegfponeaaGreatDoorWi2
import Derived.Test.YtlolnaegfponeaaGreatDoorLawSt
import Derived.Laws.BitsAllLaws
import Derived.Test.YtlolnaegfponeaaGreatDoorDv7
import Derived.Deep.RegionHeld3
import Derived.Test.YtlolnaegfponeaaGreatDoorCmp
import Derived.Test.YtlolnaegfponeaaGreatDoorWra
import Derived.Test.YtlolnaegfponeaaGreatDoorMul
namespace Go.Proofs.YtlolnaegfponeaaGreatDoor
open Go.RowKit Go.Deep
set_option linter.unusedVariables false
def cmpR (g1:Bool) (x1 y1:List Nat) (g2:Bool) (x2 y2:List Nat):Int :=
 if signR g1 x1 < signR g2 x2 then -1 else if signR g2 x2 < signR g1 x1 then 1 else if g1 then cmpN (val x2 * val y1) (val x1 * val y2) else cmpN (val x1 * val y2) (val x2 * val y1)
theorem MayR.parts {g:Bool} {x y:List Nat} (h:MayR g x y = true):MayL x = true ∧ MayL y = true ∧ y ≠ [] ∧ (g = true → x ≠ []) ∧ Nat.gcd (val x) (val y) = 1:=by
 unfold MayR at h
 simp only [Bool.and_eq_true,Bool.not_eq_true',decide_eq_false_iff_not,decide_eq_true_eq] at h
 obtain ⟨⟨⟨⟨h1,h2⟩,h3⟩,h4⟩,h5⟩:=h
 refine ⟨h1,h2,h3,fun hg hx => ?_,h5⟩
 rw [hg,hx] at h4
 simp at h4
theorem sz_ok {g1 g2:Bool} {x1 y1 x2 y2:List Nat} (ox1:Ok x1) (oy1:Ok y1) (ox2:Ok x2) (oy2:Ok y2) (h1:MayR g1 x1 y1 = true) (h2:MayR g2 x2 y2 = true) (hs:signR g1 x1 = signR g2 x2):SzOk x1 y1 x2 y2:=by
 obtain ⟨a1,b1,c1,d1,e1⟩:=MayR.parts h1
 obtain ⟨a2,b2,c2,d2,e2⟩:=MayR.parts h2
 by_cases z1:x1 = []
 ·have g10:g1 = false:=by cases g1; rfl; exact absurd z1 (d1 rfl)
  have s1:signR g1 x1 = 0:=by rw [g10,z1]; rfl
  rw [s1] at hs
  have z2:x2 = []:=by
   unfold signR at hs
   cases g2
   ·simp at hs
    by_cases h:x2 = []
    ·exact h
    ·simp [h] at hs
   ·simp at hs
  have v1:val y1 = 1:=by rw [z1] at e1; simpa [val] using e1
  have v2:val y2 = 1:=by rw [z2] at e2; simpa [val] using e2
  have k1:=bitsN_mono oy1 oy2 (MayL.norm b1) (by omega)
  have k2:=bitsN_mono oy2 oy1 (MayL.norm b2) (by omega)
  rw [z1,z2]
  exact ⟨fun h => by omega,fun h => by omega⟩
 ·have z2:x2 ≠ []:=by
   intro z2
   have g20:g2 = false:=by cases g2; rfl; exact absurd z2 (d2 rfl)
   rw [g20,z2] at hs
   unfold signR at hs
   cases g1
   ·simp [z1] at hs
   ·simp at hs
  exact ⟨fun h => prod_less ox1 oy2 ox2 oy1 (MayL.norm a2) (MayL.norm b1) z2 c1 h,fun h => prod_less ox2 oy1 ox1 oy2 (MayL.norm a1) (MayL.norm b2) z1 c2 h⟩

set_option maxHeartbeats 8000000 in
set_option maxRecDepth 100000 in
theorem ratcompare_any (g1 g2:Bool) (a1 b1 a2 b2:Option Addr) (n1 c1 m1 d1 n2 c2 m2 d2:Nat) (x1 y1 x2 y2:List Nat) (w:World) (hx1:Sl w a1 n1 c1 x1) (hy1:Sl w b1 m1 d1 y1) (hx2:Sl w a2 n2 c2 x2) (hy2:Sl w b2 m2 d2 y2) (ox1:Ok x1) (oy1:Ok y1) (ox2:Ok x2) (oy2:Ok y2) (h1:MayR g1 x1 y1 = true) (h2:MayR g2 x2 y2 = true) :
  Calls Tryz.prog 42 #[ratV g1 a1 n1 c1 b1 m1 d1,ratV g2 a2 n2 c2 b2 m2 d2] w fun e w' => e = .returned (.int .i64 (cmpR g1 x1 y1 g2 x2 y2)) ∧ Below w.heap.size w w':=by
 have bx:=Box.made w g1 a1 n1 c1 b1 m1 d1
 obtain ⟨wa,hwa⟩:∃ wa,ratBox w g1 a1 n1 c1 b1 m1 d1 = wa:=⟨_,rfl⟩
 rw [hwa] at bx
 have by_:=Box.made wa g2 a2 n2 c2 b2 m2 d2
 obtain ⟨wb,hwb⟩:∃ wb,ratBox wa g2 a2 n2 c2 b2 m2 d2 = wb:=⟨_,rfl⟩
 rw [hwb] at by_
 have hba:Below w.heap.size w wa:=by rw [← hwa]; exact bAl
 have hbb:Below wa.heap.size wa wb:=by rw [← hwb]; exact bAl
 have bx2:=bx.keep hbb
 have hB:=hba.trans (hbb.mono hba.size)
 unfold ratBox at hwa hwb
 have p0:=bx2.d0
 have p1:=bx2.d1
 have p2:=bx2.d2
 have q0:=by_.d0
 have q1:=by_.d1
 have q2:=by_.d2
 obtain ⟨ka1,kb1,_,_,_⟩:=MayR.parts h1
 obtain ⟨ka2,kb2,_,_,_⟩:=MayR.parts h2
 have HS1:=Hd (fun (W:World) => rsign_any g1 a1 b1 n1 c1 m1 d1 x1 W hx1.len)
 have HS2:=Hd (fun (W:World) => rsign_any g2 a2 b2 n2 c2 m2 d2 x2 W hx2.len)
 have HSz:=Hd (fun hs => sz_ok ox1 oy1 ox2 oy2 h1 h2 hs)
 have HSz2:=Hd (fun hs => sz_ok ox2 oy2 ox1 oy1 h2 h1 hs)
 have HC1:=Hd (fun (W:World) (hb:Below wb.heap.size wb W) sz => compareSizes_any g1 g2 a1 b1 a2 b2 n1 c1 m1 d1 n2 c2 m2 d2 x1 y1 x2 y2 W ((hx1.below hB).below hb) ((hy1.below hB).below hb) ((hx2.below hB).below hb) ((hy2.below hB).below hb) ox1 oy1 ox2 oy2 ka1 kb1 ka2 kb2 sz)
 have HC2:=Hd (fun (W:World) (hb:Below wb.heap.size wb W) sz => compareSizes_any g2 g1 a2 b2 a1 b1 n2 c2 m2 d2 n1 c1 m1 d1 x2 y2 x1 y1 W ((hx2.below hB).below hb) ((hy2.below hB).below hb) ((hx1.below hB).below hb) ((hy1.below hB).below hb) ox2 oy2 ox1 oy1 ka2 kb2 ka1 kb1 sz)
 have HBB:=Hd hB
 have hX1:-1 ≤ signR g1 x1 ∧ signR g1 x1 ≤ 1:=by unfold signR; split; omega; split <;> omega
 have hX2:-1 ≤ signR g2 x2 ∧ signR g2 x2 ≤ 1:=by unfold signR; split; omega; split <;> omega
 obtain ⟨R,hR⟩:∃ R,cmpR g1 x1 y1 g2 x2 y2 = R:=⟨_,rfl⟩
 have HR:=Hd hR
 rw [hR]
 unfold cmpR at HR
 obtain ⟨X,hX⟩:∃ X,signR g1 x1 = X:=⟨_,rfl⟩
 obtain ⟨Y,hY⟩:∃ X,signR g2 x2 = X:=⟨_,rfl⟩
 rw [hX] at HS1 HSz HSz2 hX1 HR
 rw [hY] at HS2 HSz HSz2 hX2 HR
 unfold ratV at HS1 HS2 HC1 HC2 ⊢
 clear bx bx2 by_ hba hbb hB hx1 hy1 hx2 hy2 hX hY hR h1 h2 ka1 kb1 ka2 kb2
 have F0:=fun x:Ext wb => x.cell p0
 have F1:=fun x:Ext wb => x.cell p1
 have F2:=fun x:Ext wb => x.cell p2
 have G0:=fun x:Ext wb => x.cell q0
 have G1:=fun x:Ext wb => x.cell q1
 have G2:=fun x:Ext wb => x.cell q2
 have hNE:=Ext.ne wb
 go_enter Tryz.func42,Tryz.ntmps42
 go_wp2_with fail
 refine wp_region_ext (by kernel_rfl) (by kernel_rfl) ?_
 repeat (go_big_quiet_step (first
  | (go_at_call_of 35 (Value.agg #[Value.bool g1,Value.slice a1 n1 c1,Value.slice b1 m1 d1]); rename_i x; exact Ext.call (Uh HS1 x.w) (fun e w' h => h))
  | (go_at_call_of 35 (Value.agg #[Value.bool g2,Value.slice a2 n2 c2,Value.slice b2 m2 d2]); rename_i x; exact Ext.call (Uh HS2 x.w) (fun e w' h => h))))
 refine wpQuiet_nil ?_
 rintro _ ⟨xE,rfl⟩
 have HBE:=Hd xE.bel
 have r0:=xE.cell p0
 have r1:=xE.cell p1
 have r2:=xE.cell p2
 have s0:=xE.cell q0
 have s1:=xE.cell q1
 have s2:=xE.cell q2
 clear F0 F1 F2 G0 G1 G2 hNE p0 p1 p2 q0 q1 q2
 by_cases t1:X < Y
 ·have HR3:=Hd (show R = -1 by rw [← Uh HR,if_pos t1])
  clear HR
  go_wp2_with fail
  go_ret
  rw [Uh HR3]
  exact ⟨rfl,(Uh HBB).trans ((Uh HBE).mono (Uh HBB).size)⟩
 ·by_cases t2:Y < X
  ·have HR3:=Hd (show R = 1 by rw [← Uh HR,if_neg t1,if_pos t2])
   clear HR
   go_wp2_with fail
   go_ret
   rw [Uh HR3]
   exact ⟨rfl,(Uh HBB).trans ((Uh HBE).mono (Uh HBB).size)⟩
  ·have hXY:X = Y:=by omega
   cases g1
   ·have KS:=Hd (Uh HC1 xE.w (Uh HBE) (Uh HSz hXY))
    have HR3:=Hd (show R = cmpN (val x1 * val y2) (val x2 * val y1) by rw [← Uh HR,if_neg t1,if_neg t2]; rfl)
    clear HR HSz HSz2 HC1 HC2 HS1 HS2 hXY
    go_wp2_with fail
    refine (Uh KS).mono ?_
    rintro _ wz ⟨rfl,hbz⟩
    have HBz:=Hd ((Uh HBE).trans (hbz.mono (Uh HBE).size))
    clear hbz KS
    go_wp2_with fail
    go_ret
    rw [Uh HR3]
    exact ⟨rfl,(Uh HBB).trans ((Uh HBz).mono (Uh HBB).size)⟩
   ·have KS:=Hd (Uh HC2 xE.w (Uh HBE) (Uh HSz2 hXY.symm))
    have HR3:=Hd (show R = cmpN (val x2 * val y1) (val x1 * val y2) by rw [← Uh HR,if_neg t1,if_neg t2]; rfl)
    clear HR HSz HSz2 HC1 HC2 HS1 HS2 hXY
    go_wp2_with fail
    refine (Uh KS).mono ?_
    rintro _ wz ⟨rfl,hbz⟩
    have HBz:=Hd ((Uh HBE).trans (hbz.mono (Uh HBE).size))
    clear hbz KS
    go_wp2_with fail
    go_ret
    rw [Uh HR3]
    exact ⟨rfl,(Uh HBB).trans ((Uh HBz).mono (Uh HBB).size)⟩
def CmpF (g1:Bool) (x1 y1:List Nat) (g2:Bool) (x2 y2:List Nat):Int:=if MayR g1 x1 y1 && MayR g2 x2 y2 then cmpR g1 x1 y1 g2 x2 y2 else 0
def SignF (g:Bool) (x y:List Nat):Int:=if MayR g x y then signR g x else 0

set_option maxHeartbeats 8000000 in
theorem ratSign_any (g:Bool) (a b:Option Addr) (n c m d:Nat) (x y:List Nat) (w:World) (hx:Sl w a n c x) (hy:Sl w b m d y) (ox:Ok x) (oy:Ok y) (hT:Tab64 w) :
  Calls Tryz.prog 11 #[ratV g a n c b m d] w fun e w' => e = .returned (.int .i64 (SignF g x y)) ∧ Below w.heap.size w w':=by
 have bx:=Box.made w g a n c b m d
 obtain ⟨wa,hwa⟩:∃ wa,ratBox w g a n c b m d = wa:=⟨_,rfl⟩
 rw [hwa] at bx
 have hba:Below w.heap.size w wa:=by rw [← hwa]; exact bAl
 unfold ratBox at hwa
 have p0:=bx.d0
 have p1:=bx.d1
 have p2:=bx.d2
 have KM:=ratMay_any g a b n c m d x y wa (hx.below hba) (hy.below hba) ox oy (hT.below hba)
 have HS:=Hd (fun (W:World) => rsign_any g a b n c m d x W hx.len)
 have HBx:=Hd bx
 have HBa:=Hd hba
 obtain ⟨R,hR⟩:∃ R,SignF g x y = R:=⟨_,rfl⟩
 unfold SignF at hR
 have hF:SignF g x y = R:=by unfold SignF; exact hR
 rw [hF]
 unfold ratV at KM HS ⊢
 cases hm:MayR g x y
 ·rw [hm] at KM hR
  have HKM:=Hd KM
  have HR:=Hd (show R = 0 from hR.symm)
  clear KM hx hy hT bx hba hm hR hF
  go_enter Tryz.func11,Tryz.ntmps11
  go_wp2_with fail
  refine (Uh HKM).mono ?_
  rintro _ wb ⟨rfl,hbb⟩
  have HB:=Hd ((Uh HBa).trans (hbb.mono (Uh HBa).size))
  clear hbb HKM
  go_wp2_with fail
  go_ret
  rw [Uh HR]
  exact ⟨rfl,Uh HB⟩
 ·rw [hm] at KM hR
  have HKM:=Hd KM
  have HR:=Hd (show R = signR g x from hR.symm)
  clear KM hx hy hT bx hba hm hR hF
  go_enter Tryz.func11,Tryz.ntmps11
  go_wp2_with fail
  refine (Uh HKM).mono ?_
  rintro _ wb ⟨rfl,hbb⟩
  have b2:=(Uh HBx).keep hbb
  have r0:=b2.d0
  have r1:=b2.d1
  have r2:=b2.d2
  have HB:=Hd ((Uh HBa).trans (hbb.mono (Uh HBa).size))
  clear hbb HKM b2 p0 p1 p2
  go_wp2_with fail
  refine (Uh HS wb).mono ?_
  rintro _ wc ⟨rfl,hbc⟩
  have HC:=Hd ((Uh HB).trans (hbc.mono (Uh HB).size))
  clear hbc HS
  go_wp2_with fail
  go_ret
  rw [Uh HR]
  exact ⟨rfl,Uh HC⟩

set_option maxHeartbeats 8000000 in
set_option maxRecDepth 100000 in
theorem ratCmp_any (g1 g2:Bool) (a1 b1 a2 b2:Option Addr) (n1 c1 m1 d1 n2 c2 m2 d2:Nat) (x1 y1 x2 y2:List Nat) (w:World) (hx1:Sl w a1 n1 c1 x1) (hy1:Sl w b1 m1 d1 y1) (hx2:Sl w a2 n2 c2 x2) (hy2:Sl w b2 m2 d2 y2) (ox1:Ok x1) (oy1:Ok y1) (ox2:Ok x2) (oy2:Ok y2) (hT:Tab64 w) :
  Calls Tryz.prog 15 #[ratV g1 a1 n1 c1 b1 m1 d1,ratV g2 a2 n2 c2 b2 m2 d2] w fun e w' => e = .returned (.int .i64 (CmpF g1 x1 y1 g2 x2 y2)) ∧ Below w.heap.size w w':=by
 have bx:=Box.made w g1 a1 n1 c1 b1 m1 d1
 obtain ⟨wa,hwa⟩:∃ wa,ratBox w g1 a1 n1 c1 b1 m1 d1 = wa:=⟨_,rfl⟩
 rw [hwa] at bx
 have by_:=Box.made wa g2 a2 n2 c2 b2 m2 d2
 obtain ⟨wb,hwb⟩:∃ wb,ratBox wa g2 a2 n2 c2 b2 m2 d2 = wb:=⟨_,rfl⟩
 rw [hwb] at by_
 have hba:Below w.heap.size w wa:=by rw [← hwa]; exact bAl
 have hbb:Below wa.heap.size wa wb:=by rw [← hwb]; exact bAl
 have bx2:=bx.keep hbb
 have hB:=hba.trans (hbb.mono hba.size)
 unfold ratBox at hwa hwb
 have p0:=bx2.d0
 have p1:=bx2.d1
 have p2:=bx2.d2
 have q0:=by_.d0
 have q1:=by_.d1
 have q2:=by_.d2
 have HM1:=Hd (fun (W:World) (hb:Below wb.heap.size wb W) => ratMay_any g1 a1 b1 n1 c1 m1 d1 x1 y1 W ((hx1.below hB).below hb) ((hy1.below hB).below hb) ox1 oy1 ((hT.below hB).below hb))
 have HM2:=Hd (fun (W:World) (hb:Below wb.heap.size wb W) => ratMay_any g2 a2 b2 n2 c2 m2 d2 x2 y2 W ((hx2.below hB).below hb) ((hy2.below hB).below hb) ox2 oy2 ((hT.below hB).below hb))
 have HC:=Hd (fun (W:World) (hb:Below wb.heap.size wb W) h1 h2 => ratcompare_any g1 g2 a1 b1 a2 b2 n1 c1 m1 d1 n2 c2 m2 d2 x1 y1 x2 y2 W ((hx1.below hB).below hb) ((hy1.below hB).below hb) ((hx2.below hB).below hb) ((hy2.below hB).below hb) ox1 oy1 ox2 oy2 h1 h2)
 have HBx:=Hd (And.intro bx2 by_)
 have HBB:=Hd hB
 obtain ⟨R,hR⟩:∃ R,CmpF g1 x1 y1 g2 x2 y2 = R:=⟨_,rfl⟩
 have HR:=Hd hR
 rw [hR]
 unfold CmpF at HR
 unfold ratV at HM1 HM2 HC ⊢
 clear bx bx2 by_ hba hbb hB hx1 hy1 hx2 hy2 hT hR
 cases k1:MayR g1 x1 y1
 ·have HR3:=Hd (show R = 0 by rw [← Uh HR,k1]; rfl)
  have KM:=Hd (Uh HM1 wb (Below.refl _ _))
  rw [k1] at KM
  clear HR HM1 HM2 HC k1
  go_enter Tryz.func15,Tryz.ntmps15
  go_wp2_with fail
  refine (Uh KM).mono ?_
  rintro _ wc ⟨rfl,hbc⟩
  have HF:=Hd ((Uh HBB).trans (hbc.mono (Uh HBB).size))
  clear hbc KM
  go_wp2_with fail
  go_ret
  rw [Uh HR3]
  exact ⟨rfl,Uh HF⟩
 ·have KM:=Hd (Uh HM1 wb (Below.refl _ _))
  rw [k1] at KM
  cases k2:MayR g2 x2 y2
  ·have HR3:=Hd (show R = 0 by rw [← Uh HR,k1,k2]; rfl)
   have HM:=Hd (fun W hb => (by have K:=Uh HM2 W hb; rw [k2] at K; exact K:Calls Tryz.prog 7 #[.agg #[.bool g2,.slice a2 n2 c2,.slice b2 m2 d2]] W fun e w' => e = .returned (.bool false) ∧ Below W.heap.size W w'))
   clear HR HM1 HM2 HC k1 k2
   go_enter Tryz.func15,Tryz.ntmps15
   go_wp2_with fail
   refine (Uh KM).mono ?_
   rintro _ wc ⟨rfl,hbc⟩
   have b2:=(Uh HBx).2.keep hbc
   have r0:=b2.d0
   have r1:=b2.d1
   have r2:=b2.d2
   have KM2:=Hd (Uh HM wc hbc)
   have HBc:=Hd hbc
   clear hbc KM b2 HM p0 p1 p2 q0 q1 q2
   go_wp2_with fail
   refine (Uh KM2).mono ?_
   rintro _ wd ⟨rfl,hbd⟩
   have h9:=(Uh HBc).trans (hbd.mono (Uh HBc).size)
   have HF:=Hd ((Uh HBB).trans (h9.mono (Uh HBB).size))
   clear hbd KM2 h9
   go_wp2_with fail
   go_ret
   rw [Uh HR3]
   exact ⟨rfl,Uh HF⟩
  ·have HR3:=Hd (show R = cmpR g1 x1 y1 g2 x2 y2 by rw [← Uh HR,k1,k2]; rfl)
   have HM:=Hd (fun W hb => (by have K:=Uh HM2 W hb; rw [k2] at K; exact K:Calls Tryz.prog 7 #[.agg #[.bool g2,.slice a2 n2 c2,.slice b2 m2 d2]] W fun e w' => e = .returned (.bool true) ∧ Below W.heap.size W w'))
   have HCC:=Hd (fun W hb => Uh HC W hb k1 k2)
   clear HR HM1 HM2 HC k1 k2
   go_enter Tryz.func15,Tryz.ntmps15
   go_wp2_with fail
   refine (Uh KM).mono ?_
   rintro _ wc ⟨rfl,hbc⟩
   have b2:=(Uh HBx).2.keep hbc
   have b1_:=(Uh HBx).1.keep hbc
   have r0:=b2.d0
   have r1:=b2.d1
   have r2:=b2.d2
   have KM2:=Hd (Uh HM wc hbc)
   have HBc:=Hd hbc
   have HB2:=Hd (And.intro b1_ b2)
   clear hbc KM b2 b1_ HM p0 p1 p2 q0 q1 q2
   go_wp2_with fail
   refine (Uh KM2).mono ?_
   rintro _ wd ⟨rfl,hbd⟩
   have b3:=(Uh HB2).1.keep hbd
   have b4:=(Uh HB2).2.keep hbd
   have u0:=b3.d0
   have u1:=b3.d1
   have u2:=b3.d2
   have v0:=b4.d0
   have v1:=b4.d1
   have v2:=b4.d2
   have h9:=(Uh HBc).trans (hbd.mono (Uh HBc).size)
   have KC:=Hd (Uh HCC wd h9)
   have HD:=Hd h9
   clear hbd KM2 h9 b3 b4 HCC r0 r1 r2
   go_wp2_with fail
   refine (Uh KC).mono ?_
   rintro _ we ⟨rfl,hbe⟩
   have h9:=(Uh HD).trans (hbe.mono (Uh HD).size)
   have HF:=Hd ((Uh HBB).trans (h9.mono (Uh HBB).size))
   clear hbe KC h9
   go_wp2_with fail
   go_ret
   rw [Uh HR3]
   exact ⟨rfl,Uh HF⟩
def AnPost (w w':World) (neg:Bool) (a1:Option Addr) (n1 c1:Nat) (a2:Option Addr) (n2 c2:Nat) (er:Int) (e:Ending):Prop :=
 e = .returned (.tuple #[if er = 0 then ratV (neg && decide (0 < n1)) a1 n1 c1 a2 n2 c2 else ratV false none 0 0 none 0 0,.int .i64 er]) ∧ Below w.heap.size w w'

set_option maxHeartbeats 8000000 in
theorem answer_any (neg:Bool) (a1 a2:Option Addr) (n1 c1 n2 c2:Nat) (er:Int) (w:World) :
  Calls Tryz.prog 133 #[.bool neg,.slice a1 n1 c1,.slice a2 n2 c2,.int .i64 er] w fun e w' => AnPost w w' neg a1 n1 c1 a2 n2 c2 er e:=by
 obtain ⟨wb,hwb⟩:∃ wb,w.alloc (.cells #[.bool false,.slice none 0 0,.slice none 0 0] 25) = wb:=⟨_,rfl⟩
 have hbb:Below w.heap.size w wb:=by rw [← hwb]; exact bAl
 have hO:Out wb w.heap.size:=by rw [← hwb]; exact Out.made w
 have HO:=Hd hO
 have HB:=Hd hbb
 clear hbb
 by_cases he:er = 0
 ·subst he
  clear hO
  go_enter Tryz.func133,Tryz.ntmps133
  go_wp2_with fail
  refine (signed_any neg a1 a2 n1 c1 n2 c2 wb).mono ?_
  rintro _ w2 ⟨rfl,b2⟩
  have hO3:=(Uh HO).keep b2
  obtain ⟨x0,q0⟩:=hO3.cells 0 (by decide)
  obtain ⟨x1,q1⟩:=hO3.cells 1 (by decide)
  obtain ⟨x2,q2⟩:=hO3.cells 2 (by decide)
  have r0:=hO3.fz 0 (by decide)
  have r1:=hO3.fz 1 (by decide)
  have r2:=hO3.fz 2 (by decide)
  obtain ⟨SG,hSG⟩:∃ SG,(neg && decide (0 < n1)) = SG:=⟨_,rfl⟩
  rw [hSG]
  have HSG:=Hd hSG
  have H4:=Hd (three_set w2 w.heap.size (.bool SG) (.slice a1 n1 c1) (.slice a2 n2 c2) hO3.cells)
  have HB2:=Hd ((Uh HB).trans (b2.mono (Uh HB).size))
  unfold ratV
  clear hO3 b2 hSG
  go_wp2_with fail
  obtain ⟨p0,p1,p2,c4⟩:=Uh H4
  generalize ((w2.setCell ⟨w.heap.size,0,none⟩ (.bool SG)).setCell ⟨w.heap.size,1,none⟩ (.slice a1 n1 c1)).setCell ⟨w.heap.size,2,none⟩ (.slice a2 n2 c2) = wf at *
  refine bodyPost_ret (by simp [results,Tryz.results133,go_sem,p0,p1,p2]; try rfl) rfl ?_
  refine ⟨?_,(Uh HB2).trans (c4.below (Uh HB2).size (fun k hk => by omega))⟩
  rw [if_pos rfl,Uh HSG]
  rfl
 ·have t1:(er == 0) = false:=by simpa using he
  have t2:(er != 0) = true:=by simpa using he
  obtain ⟨x0,q0⟩:=hO.cells 0 (by decide)
  obtain ⟨x1,q1⟩:=hO.cells 1 (by decide)
  obtain ⟨x2,q2⟩:=hO.cells 2 (by decide)
  have r0:=hO.fz 0 (by decide)
  have r1:=hO.fz 1 (by decide)
  have r2:=hO.fz 2 (by decide)
  have H4:=Hd (three_set wb w.heap.size (.bool false) (.slice none 0 0) (.slice none 0 0) hO.cells)
  clear hO
  go_enter Tryz.func133,Tryz.ntmps133
  go_wp2_with fail
  obtain ⟨p0,p1,p2,c4⟩:=Uh H4
  generalize ((wb.setCell ⟨w.heap.size,0,none⟩ (.bool false)).setCell ⟨w.heap.size,1,none⟩ (.slice none 0 0)).setCell ⟨w.heap.size,2,none⟩ (.slice none 0 0) = wf at *
  refine bodyPost_ret (by simp [results,Tryz.results133,go_sem,p0,p1,p2]; try rfl) rfl ?_
  refine ⟨?_,(Uh HB).trans (c4.below (Uh HB).size (fun k hk => by omega))⟩
  rw [if_neg he]
  rfl
def mulN (x1 y1 x2 y2:List Nat):Nat:=(val x1 / Nat.gcd (val x1) (val y2)) * (val x2 / Nat.gcd (val x2) (val y1))
def mulD (x1 y1 x2 y2:List Nat):Nat:=(val y1 / Nat.gcd (val x2) (val y1)) * (val y2 / Nat.gcd (val x1) (val y2))
def bigN (v:Nat):Bool:=decide (2048 < (limbs v).length)
def MuPost (w w':World) (sg:Bool) (N M:Nat) (e:Ending):Prop:=if bigN N || bigN M then ResR w w' false [] [] 2 e else ResR w w' (sg && decide (N ≠ 0)) (limbs N) (limbs M) 0 e
def lowF (neg:Bool) (N D:Nat):(Bool × List Nat × List Nat) × Int :=
 if N = 0 then ((false,[],[1]),0) else if bigN (N / Nat.gcd N D) || bigN (D / Nat.gcd N D) then ((false,[],[]),2) else ((neg,limbs (N / Nat.gcd N D),limbs (D / Nat.gcd N D)),0)
def ResF (w w':World) (r:(Bool × List Nat × List Nat) × Int) (e:Ending):Prop:=ResR w w' r.1.1 r.1.2.1 r.1.2.2 r.2 e
def exB (b:Nat):Nat:=b / 4503599627370496 % 2048
def frB (b:Nat):Nat:=b % 4503599627370496
theorem exB_lt (b:Nat):exB b < 2048:=Nat.mod_lt _ (by decide)
theorem frB_lt (b:Nat):frB b < 4503599627370496:=Nat.mod_lt _ (by decide)
theorem ex_bits {b:Nat} (hb:b < 18446744073709551616):bits .and .u64 ((b:Int) / 4503599627370496) 2047 = (exB b:Int):=by
 have h:=u64_and_nat (b / 4503599627370496) 2047 (by omega) (by decide)
 rw [show (2047:Nat) = 2 ^ 11 - 1 from rfl,Nat.and_two_pow_sub_one_eq_mod] at h
 exact h
theorem fr_bits {b:Nat} (hb:b < 18446744073709551616):bits .and .u64 (b:Int) 4503599627370495 = (frB b:Int):=by
 have h:=u64_and_nat b 4503599627370495 hb (by decide)
 rw [show (4503599627370495:Nat) = 2 ^ 52 - 1 from rfl,Nat.and_two_pow_sub_one_eq_mod] at h
 exact h
def ffN (b:Nat):Nat:=if exB b = 0 then frB b else frB b + 4503599627370496
def ffE (b:Nat):Nat:=exB b - 1
def FfF (b:Nat):(Bool × List Nat × List Nat) × Int :=
 if exB b = 2047 then ((false,[],[]),1)
 else if 1074 ≤ ffE b then lowF (decide (9223372036854775808 ≤ b)) (ffN b * 2 ^ (ffE b - 1074)) 1
 else lowF (decide (9223372036854775808 ≤ b)) (ffN b) (2 ^ (1074 - ffE b))
theorem ffN_lt (b:Nat):ffN b < 9007199254740992:=by
 have:=frB_lt b
 unfold ffN
 split <;> omega
theorem wrap_small {n:Int} (h0:0 ≤ n) (h1:n < 9223372036854775808):wrap64 n = n:=by unfold wrap64; omega
def flQ (g:Bool) (X Y:Nat):Nat:=if g && decide (X % Y ≠ 0) then X / Y + 1 else X / Y
def flL (g:Bool) (X Y:Nat):Nat:=if g && decide (X % Y ≠ 0) then Y - X % Y else X % Y
theorem limbs_len0 {v:Nat} {m:Nat} (h:(limbs v).length = m):decide (0 < m) = decide (v ≠ 0):=by
 by_cases e:v = 0
 ·have hl:limbs v = []:=by
   have:=limbs_val (xs:=[]) (by intro x hx; cases hx) (by simp [Norm])
   rw [e]; simpa [val] using this
  rw [hl] at h
  simp at h
  simp [e,← h]
 ·have:limbs v ≠ []:=limbs_ne (by omega)
  have h2:=List.length_pos_iff.2 this
  rw [decide_eq_true (by omega),decide_eq_true e]

def rdQ (X Y:Nat):Nat:=if Y < X % Y + X % Y ∨ (Y = X % Y + X % Y ∧ X / Y % 2 = 1) then X / Y + 1 else X / Y
def kB:Nat:=1074
theorem kB_eq:kB = 1074:=rfl
theorem rd_ge {A B N:Nat} (hB:0 < B) (h:N * B ≤ A):N ≤ rdQ A B:=by
 have h1:N ≤ A / B:=(Nat.le_div_iff_mul_le hB).mpr h
 unfold rdQ
 split <;> omega
theorem rd_le {A B N:Nat} (hB:0 < B) (h:A < N * B):rdQ A B ≤ N:=by
 have h1:A / B < N:=(Nat.div_lt_iff_lt_mul hB).mpr h
 unfold rdQ
 split <;> omega
theorem rd_scale {A B c:Nat} (hc:0 < c):rdQ (A * c) (B * c) = rdQ A B:=by
 have e1:A * c / (B * c) = A / B:=Nat.mul_div_mul_right _ _ hc
 have e2:A * c % (B * c) = A % B * c:=Nat.mul_mod_mul_right _ _ _
 have e3:A % B * c + A % B * c = (A % B + A % B) * c:=by rw [Nat.add_mul]
 unfold rdQ
 rw [e1,e2,e3]
 have h1:(B * c < (A % B + A % B) * c) ↔ B < A % B + A % B:=Nat.mul_lt_mul_right hc
 have h2:(B * c = (A % B + A % B) * c) ↔ B = A % B + A % B:=Nat.mul_left_inj (Nat.ne_of_gt hc)
 simp only [h1,h2]
def rdE (X Y E:Nat):Nat:=rdQ (X * 2 ^ kB) (Y * 2 ^ E)
def flG (p q:Nat):Nat:=p + kB - (q + 53)
def flU (p q X Y:Nat):Nat:=if Y * 2 ^ (53 + flG p q) ≤ X * 2 ^ kB then flG p q + 1 else flG p q
def flN (p q X Y:Nat):Nat:=if 2045 < flU p q X Y then 9218868437227405312 else flU p q X Y * 4503599627370496 + rdE X Y (flU p q X Y)

theorem fl_ypos {q Y:Nat} (hY1:2 ^ q ≤ Y * 2) (E:Nat):0 < Y * 2 ^ E:=by
 have:=Nat.two_pow_pos q
 exact Nat.mul_pos (by omega) (Nat.two_pow_pos E)
theorem two52:(4503599627370496:Nat) = 2 ^ 52:=rfl
theorem two53:(9007199254740992:Nat) = 2 ^ 53:=rfl
theorem fl_above {p q X Y:Nat} (hX1:2 ^ p ≤ X * 2) (hY2:Y < 2 ^ q) {E j:Nat} (h:q + E + j + 1 ≤ p + kB):2 ^ j * (Y * 2 ^ E) ≤ X * 2 ^ kB:=by
 have h1:2 ^ j * (Y * 2 ^ E) * 2 ≤ 2 ^ j * (2 ^ q * 2 ^ E) * 2:=Nat.mul_le_mul_right _ (Nat.mul_le_mul_left _ (Nat.mul_le_mul_right _ (Nat.le_of_lt hY2)))
 have h2:2 ^ j * (2 ^ q * 2 ^ E) * 2 = 2 ^ (q + E + j + 1):=by
  rw [Nat.pow_succ,Nat.pow_add,Nat.pow_add]
  congr 1
  rw [Nat.mul_comm]
 have h3:2 ^ (q + E + j + 1) ≤ 2 ^ (p + kB):=Nat.pow_le_pow_right (by decide) h
 have h4:2 ^ (p + kB) ≤ X * 2 ^ kB * 2:=by
  rw [Nat.pow_add,Nat.mul_right_comm]
  exact Nat.mul_le_mul_right _ hX1
 omega
theorem fl_under {p q X Y:Nat} (hX2:X < 2 ^ p) (hY1:2 ^ q ≤ Y * 2) {E j:Nat} (h:p + kB + 1 ≤ q + E + j):X * 2 ^ kB < 2 ^ j * (Y * 2 ^ E):=by
 have h1:X * 2 ^ kB * 2 < 2 ^ p * 2 ^ kB * 2:=Nat.mul_lt_mul_of_pos_right (Nat.mul_lt_mul_of_pos_right hX2 (Nat.two_pow_pos _)) (by decide)
 have h2:2 ^ p * 2 ^ kB * 2 = 2 ^ (p + kB + 1):=by rw [Nat.pow_succ,Nat.pow_add]
 have h3:2 ^ (p + kB + 1) ≤ 2 ^ (q + E + j):=Nat.pow_le_pow_right (by decide) h
 have h4:2 ^ (q + E + j) ≤ 2 ^ j * (Y * 2 ^ E) * 2:=by
  rw [Nat.pow_add,Nat.pow_add]
  have:2 ^ j * (Y * 2 ^ E) * 2 = Y * 2 * 2 ^ E * 2 ^ j:=by
   rw [Nat.mul_comm (2 ^ j),Nat.mul_right_comm Y 2,Nat.mul_right_comm]
  rw [this]
  exact Nat.mul_le_mul_right _ (Nat.mul_le_mul_right _ hY1)
 omega
theorem fl_step {X Y:Nat}  {E:Nat} {N:Nat} (h:2 * N * (Y * 2 ^ E) ≤ X * 2 ^ kB):N * (Y * 2 ^ (E + 1)) ≤ X * 2 ^ kB:=by
 have:N * (Y * 2 ^ (E + 1)) = 2 * N * (Y * 2 ^ E):=by
  rw [Nat.pow_succ,← Nat.mul_assoc Y,← Nat.mul_assoc N,Nat.mul_comm _ 2,Nat.mul_assoc 2]
 rw [this]
 exact h
theorem flU_cases {p q X Y:Nat} :(flU p q X Y = flG p q + 1 ∧ 9007199254740992 * (Y * 2 ^ flG p q) ≤ X * 2 ^ kB) ∨ (flU p q X Y = flG p q ∧ X * 2 ^ kB < 9007199254740992 * (Y * 2 ^ flG p q)):=by
 have e:Y * 2 ^ (53 + flG p q) = 9007199254740992 * (Y * 2 ^ flG p q):=by
  rw [Nat.pow_add,two53,← Nat.mul_assoc,Nat.mul_comm Y,Nat.mul_assoc]
 unfold flU
 rw [e]
 split
 ·next h => exact .inl ⟨rfl,h⟩
 ·next h => exact .inr ⟨rfl,Nat.lt_of_not_le h⟩
theorem rdE_B' {p q X Y:Nat} (hX1:2 ^ p ≤ X * 2) (hX2:X < 2 ^ p) (hY1:2 ^ q ≤ Y * 2) (hY2:Y < 2 ^ q):X * 2 ^ kB < 9007199254740992 * (Y * 2 ^ flU p q X Y):=by
 rcases flU_cases (p:=p) (q:=q) (X:=X) (Y:=Y) with ⟨h1,h2⟩ | ⟨h1,h2⟩
 ·rw [h1,two53]
  refine fl_under hX2 hY1 ?_
  unfold flG
  omega
 ·rw [h1]; exact h2
theorem rdE_B {p q X Y:Nat} (hX1:2 ^ p ≤ X * 2) (hX2:X < 2 ^ p) (hY1:2 ^ q ≤ Y * 2) (hY2:Y < 2 ^ q):rdE X Y (flU p q X Y) ≤ 9007199254740992:=rd_le (fl_ypos hY1 _) (rdE_B' hX1 hX2 hY1 hY2)
theorem rdE_D {p q X Y:Nat} (hX1:2 ^ p ≤ X * 2) (hX2:X < 2 ^ p) (hY1:2 ^ q ≤ Y * 2) (hY2:Y < 2 ^ q) (h:0 < flU p q X Y):4503599627370496 ≤ rdE X Y (flU p q X Y):=by
 refine rd_ge (fl_ypos hY1 _) ?_
 rcases flU_cases (p:=p) (q:=q) (X:=X) (Y:=Y) with ⟨h1,h2⟩ | ⟨h1,h2⟩
 ·rw [h1]
  exact fl_step h2
 ·rw [h1,two52]
  refine fl_above hX1 hY2 ?_
  rw [h1] at h
  unfold flG at h ⊢
  omega
def FlF (g:Bool) (x y:List Nat):Nat × Int:=if MayR g x y then ((if g then 9223372036854775808 else 0) + (if x = [] then 0 else flN (bitsN x) (bitsN y) (val x) (val y)),0) else (0,40)
theorem bits_two {xs:List Nat} (ox:Ok xs) (kx:MayL xs = true) (h0:xs ≠ []):2 ^ bitsN xs ≤ val xs * 2 ∧ val xs < 2 ^ bitsN xs ∧ 1 ≤ bitsN xs ∧ bitsN xs ≤ 65536:=by
 obtain ⟨h1,h2,h3⟩:=bits_top ox (MayL.norm kx) h0 rfl
 have h4:=MayL.len kx
 refine ⟨?_,val_lt_bits ox,h2,by omega⟩
 obtain ⟨k,hk⟩:∃ k,bitsN xs = k + 1:=⟨bitsN xs - 1,by omega⟩
 rw [hk] at h3 ⊢
 rw [Nat.pow_succ]
 simp only [Nat.add_sub_cancel] at h3
 omega
theorem bits_ge {v k:Nat}:k < bitsN (limbs v) ↔ 2 ^ k ≤ v:=by
 constructor
 ·intro h
  have h0:limbs v ≠ []:=by intro e; rw [e] at h; simp [bitsN] at h
  obtain ⟨h1,h2,h3⟩:=bits_top (limbs_ok v) (limbs_norm v) h0 rfl
  rw [limbs_v] at h3
  exact Nat.le_trans (Nat.pow_le_pow_right (by decide) (by omega)) h3
 ·intro h
  have h1:=val_lt_bits (limbs_ok v)
  rw [limbs_v] at h1
  exact (Nat.pow_lt_pow_iff_right (by decide)).1 (Nat.lt_of_le_of_lt h h1)
end Go.Proofs.YtlolnaegfponeaaGreatDoor
