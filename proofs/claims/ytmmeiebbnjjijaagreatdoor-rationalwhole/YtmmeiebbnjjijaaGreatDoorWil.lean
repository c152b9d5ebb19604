/- Wid -/
import Derived.Test.YtmmeiebbnjjijaaGreatDoorWic
import Derived.Test.YtmmeiebbnjjijaaGreatDoorWi2
import Derived.Test.YtmmeiebbnjjijaaGreatDoorWin
namespace Go.Proofs.YtmmeiebbnjjijaaGreatDoor
open Go.RowKit Go.Deep
set_option linter.unusedVariables false
def cmpR (g1:Bool) (x1 y1:List Nat) (g2:Bool) (x2 y2:List Nat):Int :=
 if signR g1 x1 < signR g2 x2 then -1 else if signR g2 x2 < signR g1 x1 then 1 else if g1 then cmpN (val x2 * val y1) (val x1 * val y2) else cmpN (val x1 * val y2) (val x2 * val y1)
theorem MayR.parts {g:Bool} {x y:List Nat} (h:MayR g x y = true):MayL x = true ∧ MayL y = true ∧ y ≠ [] ∧ (g = true → x ≠ []) ∧ Nat.gcd (val x) (val y) = 1:=by
 unfold MayR at h
 simp only [Bool.and_eq_true,Bool.not_eq_true',decide_eq_false_iff_not,decide_eq_true_eq] at h
 obtain ⟨⟨⟨⟨h1,h2⟩,h3⟩,h4⟩,h5⟩:=h
 refine ⟨h1,h2,h3,fun hg hx => ?_,h5⟩
 rw [hg,hx] at h4
 simp at h4
theorem sz_ok {g1 g2:Bool} {x1 y1 x2 y2:List Nat} (ox1:Ok x1) (oy1:Ok y1) (ox2:Ok x2) (oy2:Ok y2) (h1:MayR g1 x1 y1 = true) (h2:MayR g2 x2 y2 = true) (hs:signR g1 x1 = signR g2 x2):SzOk x1 y1 x2 y2:=by
 obtain ⟨a1,b1,c1,d1,e1⟩:=MayR.parts h1
 obtain ⟨a2,b2,c2,d2,e2⟩:=MayR.parts h2
 by_cases z1:x1 = []
 ·have g10:g1 = false:=by cases g1; rfl; exact absurd z1 (d1 rfl)
  have s1:signR g1 x1 = 0:=by rw [g10,z1]; rfl
  rw [s1] at hs
  have z2:x2 = []:=by
   unfold signR at hs
   cases g2
   ·simp at hs
    by_cases h:x2 = []
    ·exact h
    ·simp [h] at hs
   ·simp at hs
  have v1:val y1 = 1:=by rw [z1] at e1; simpa [val] using e1
  have v2:val y2 = 1:=by rw [z2] at e2; simpa [val] using e2
  have k1:=bitsN_mono oy1 oy2 (MayL.norm b1) (by omega)
  have k2:=bitsN_mono oy2 oy1 (MayL.norm b2) (by omega)
  rw [z1,z2]
  exact ⟨fun h => by omega,fun h => by omega⟩
 ·have z2:x2 ≠ []:=by
   intro z2
   have g20:g2 = false:=by cases g2; rfl; exact absurd z2 (d2 rfl)
   rw [g20,z2] at hs
   unfold signR at hs
   cases g1
   ·simp [z1] at hs
   ·simp at hs
  exact ⟨fun h => prod_less ox1 oy2 ox2 oy1 (MayL.norm a2) (MayL.norm b1) z2 c1 h,fun h => prod_less ox2 oy1 ox1 oy2 (MayL.norm a1) (MayL.norm b2) z1 c2 h⟩

set_option maxHeartbeats 8000000 in
set_option maxRecDepth 100000 in
theorem ratcompare_any (g1 g2:Bool) (a1 b1 a2 b2:Option Addr) (n1 c1 m1 d1 n2 c2 m2 d2:Nat) (x1 y1 x2 y2:List Nat) (w:World) (hx1:Sl w a1 n1 c1 x1) (hy1:Sl w b1 m1 d1 y1) (hx2:Sl w a2 n2 c2 x2) (hy2:Sl w b2 m2 d2 y2) (ox1:Ok x1) (oy1:Ok y1) (ox2:Ok x2) (oy2:Ok y2) (h1:MayR g1 x1 y1 = true) (h2:MayR g2 x2 y2 = true) :
  Calls Tryz.prog 44 #[ratV g1 a1 n1 c1 b1 m1 d1,ratV g2 a2 n2 c2 b2 m2 d2] w fun e w' => e = .returned (.int .i64 (cmpR g1 x1 y1 g2 x2 y2)) ∧ Below w.heap.size w w':=by
 have bx:=Box.made w g1 a1 n1 c1 b1 m1 d1
 obtain ⟨wa,hwa⟩:∃ wa,ratBox w g1 a1 n1 c1 b1 m1 d1 = wa:=⟨_,rfl⟩
 rw [hwa] at bx
 have by_:=Box.made wa g2 a2 n2 c2 b2 m2 d2
 obtain ⟨wb,hwb⟩:∃ wb,ratBox wa g2 a2 n2 c2 b2 m2 d2 = wb:=⟨_,rfl⟩
 rw [hwb] at by_
 have hba:Below w.heap.size w wa:=by rw [← hwa]; exact bAl
 have hbb:Below wa.heap.size wa wb:=by rw [← hwb]; exact bAl
 have bx2:=bx.keep hbb
 have hB:=hba.trans (hbb.mono hba.size)
 unfold ratBox at hwa hwb
 have p0:=bx2.d0
 have p1:=bx2.d1
 have p2:=bx2.d2
 have q0:=by_.d0
 have q1:=by_.d1
 have q2:=by_.d2
 obtain ⟨ka1,kb1,_,_,_⟩:=MayR.parts h1
 obtain ⟨ka2,kb2,_,_,_⟩:=MayR.parts h2
 have HS1:=Hd (fun (W:World) => rsign_any g1 a1 b1 n1 c1 m1 d1 x1 W hx1.len)
 have HS2:=Hd (fun (W:World) => rsign_any g2 a2 b2 n2 c2 m2 d2 x2 W hx2.len)
 have HSz:=Hd (fun hs => sz_ok ox1 oy1 ox2 oy2 h1 h2 hs)
 have HSz2:=Hd (fun hs => sz_ok ox2 oy2 ox1 oy1 h2 h1 hs)
 have HC1:=Hd (fun (W:World) (hb:Below wb.heap.size wb W) sz => compareSizes_any g1 g2 a1 b1 a2 b2 n1 c1 m1 d1 n2 c2 m2 d2 x1 y1 x2 y2 W ((hx1.below hB).below hb) ((hy1.below hB).below hb) ((hx2.below hB).below hb) ((hy2.below hB).below hb) ox1 oy1 ox2 oy2 ka1 kb1 ka2 kb2 sz)
 have HC2:=Hd (fun (W:World) (hb:Below wb.heap.size wb W) sz => compareSizes_any g2 g1 a2 b2 a1 b1 n2 c2 m2 d2 n1 c1 m1 d1 x2 y2 x1 y1 W ((hx2.below hB).below hb) ((hy2.below hB).below hb) ((hx1.below hB).below hb) ((hy1.below hB).below hb) ox2 oy2 ox1 oy1 ka2 kb2 ka1 kb1 sz)
 have HBB:=Hd hB
 have hX1:-1 ≤ signR g1 x1 ∧ signR g1 x1 ≤ 1:=by unfold signR; split; omega; split <;> omega
 have hX2:-1 ≤ signR g2 x2 ∧ signR g2 x2 ≤ 1:=by unfold signR; split; omega; split <;> omega
 obtain ⟨R,hR⟩:∃ R,cmpR g1 x1 y1 g2 x2 y2 = R:=⟨_,rfl⟩
 have HR:=Hd hR
 rw [hR]
 unfold cmpR at HR
 obtain ⟨X,hX⟩:∃ X,signR g1 x1 = X:=⟨_,rfl⟩
 obtain ⟨Y,hY⟩:∃ X,signR g2 x2 = X:=⟨_,rfl⟩
 rw [hX] at HS1 HSz HSz2 hX1 HR
 rw [hY] at HS2 HSz HSz2 hX2 HR
 unfold ratV at HS1 HS2 HC1 HC2 ⊢
 clear bx bx2 by_ hba hbb hB hx1 hy1 hx2 hy2 hX hY hR h1 h2 ka1 kb1 ka2 kb2
 have F0:=fun x:Ext wb => x.cell p0
 have F1:=fun x:Ext wb => x.cell p1
 have F2:=fun x:Ext wb => x.cell p2
 have G0:=fun x:Ext wb => x.cell q0
 have G1:=fun x:Ext wb => x.cell q1
 have G2:=fun x:Ext wb => x.cell q2
 have hNE:=Ext.ne wb
 go_enter Tryz.func44,Tryz.ntmps44
 go_wp2_with fail
 refine wp_region_ext (by kernel_rfl) (by kernel_rfl) ?_
 repeat (go_big_quiet_step (first
  | (go_at_call_of 43 (Value.agg #[Value.bool g1,Value.slice a1 n1 c1,Value.slice b1 m1 d1]); rename_i x; exact Ext.call (Uh HS1 x.w) (fun e w' h => h))
  | (go_at_call_of 43 (Value.agg #[Value.bool g2,Value.slice a2 n2 c2,Value.slice b2 m2 d2]); rename_i x; exact Ext.call (Uh HS2 x.w) (fun e w' h => h))))
 refine wpQuiet_nil ?_
 rintro _ ⟨xE,rfl⟩
 have HBE:=Hd xE.bel
 have r0:=xE.cell p0
 have r1:=xE.cell p1
 have r2:=xE.cell p2
 have s0:=xE.cell q0
 have s1:=xE.cell q1
 have s2:=xE.cell q2
 clear F0 F1 F2 G0 G1 G2 hNE p0 p1 p2 q0 q1 q2
 by_cases t1:X < Y
 ·have HR3:=Hd (show R = -1 by rw [← Uh HR,if_pos t1])
  clear HR
  go_wp2_with fail
  go_ret
  rw [Uh HR3]
  exact ⟨rfl,(Uh HBB).trans ((Uh HBE).mono (Uh HBB).size)⟩
 ·by_cases t2:Y < X
  ·have HR3:=Hd (show R = 1 by rw [← Uh HR,if_neg t1,if_pos t2])
   clear HR
   go_wp2_with fail
   go_ret
   rw [Uh HR3]
   exact ⟨rfl,(Uh HBB).trans ((Uh HBE).mono (Uh HBB).size)⟩
  ·have hXY:X = Y:=by omega
   cases g1
   ·have KS:=Hd (Uh HC1 xE.w (Uh HBE) (Uh HSz hXY))
    have HR3:=Hd (show R = cmpN (val x1 * val y2) (val x2 * val y1) by rw [← Uh HR,if_neg t1,if_neg t2]; rfl)
    clear HR HSz HSz2 HC1 HC2 HS1 HS2 hXY
    go_wp2_with fail
    refine (Uh KS).mono ?_
    rintro _ wz ⟨rfl,hbz⟩
    have HBz:=Hd ((Uh HBE).trans (hbz.mono (Uh HBE).size))
    clear hbz KS
    go_wp2_with fail
    go_ret
    rw [Uh HR3]
    exact ⟨rfl,(Uh HBB).trans ((Uh HBz).mono (Uh HBB).size)⟩
   ·have KS:=Hd (Uh HC2 xE.w (Uh HBE) (Uh HSz2 hXY.symm))
    have HR3:=Hd (show R = cmpN (val x2 * val y1) (val x1 * val y2) by rw [← Uh HR,if_neg t1,if_neg t2]; rfl)
    clear HR HSz HSz2 HC1 HC2 HS1 HS2 hXY
    go_wp2_with fail
    refine (Uh KS).mono ?_
    rintro _ wz ⟨rfl,hbz⟩
    have HBz:=Hd ((Uh HBE).trans (hbz.mono (Uh HBE).size))
    clear hbz KS
    go_wp2_with fail
    go_ret
    rw [Uh HR3]
    exact ⟨rfl,(Uh HBB).trans ((Uh HBz).mono (Uh HBB).size)⟩
def CmpF (g1:Bool) (x1 y1:List Nat) (g2:Bool) (x2 y2:List Nat):Int:=if MayR g1 x1 y1 && MayR g2 x2 y2 then cmpR g1 x1 y1 g2 x2 y2 else 0
set_option maxHeartbeats 8000000 in
set_option maxRecDepth 100000 in
theorem ratCmp_any (g1 g2:Bool) (a1 b1 a2 b2:Option Addr) (n1 c1 m1 d1 n2 c2 m2 d2:Nat) (x1 y1 x2 y2:List Nat) (w:World) (hx1:Sl w a1 n1 c1 x1) (hy1:Sl w b1 m1 d1 y1) (hx2:Sl w a2 n2 c2 x2) (hy2:Sl w b2 m2 d2 y2) (ox1:Ok x1) (oy1:Ok y1) (ox2:Ok x2) (oy2:Ok y2) (hT:Tab64 w) :
  Calls Tryz.prog 13 #[ratV g1 a1 n1 c1 b1 m1 d1,ratV g2 a2 n2 c2 b2 m2 d2] w fun e w' => e = .returned (.int .i64 (CmpF g1 x1 y1 g2 x2 y2)) ∧ Below w.heap.size w w':=by
 have bx:=Box.made w g1 a1 n1 c1 b1 m1 d1
 obtain ⟨wa,hwa⟩:∃ wa,ratBox w g1 a1 n1 c1 b1 m1 d1 = wa:=⟨_,rfl⟩
 rw [hwa] at bx
 have by_:=Box.made wa g2 a2 n2 c2 b2 m2 d2
 obtain ⟨wb,hwb⟩:∃ wb,ratBox wa g2 a2 n2 c2 b2 m2 d2 = wb:=⟨_,rfl⟩
 rw [hwb] at by_
 have hba:Below w.heap.size w wa:=by rw [← hwa]; exact bAl
 have hbb:Below wa.heap.size wa wb:=by rw [← hwb]; exact bAl
 have bx2:=bx.keep hbb
 have hB:=hba.trans (hbb.mono hba.size)
 unfold ratBox at hwa hwb
 have p0:=bx2.d0
 have p1:=bx2.d1
 have p2:=bx2.d2
 have q0:=by_.d0
 have q1:=by_.d1
 have q2:=by_.d2
 have HM1:=Hd (fun (W:World) (hb:Below wb.heap.size wb W) => ratMay_any g1 a1 b1 n1 c1 m1 d1 x1 y1 W ((hx1.below hB).below hb) ((hy1.below hB).below hb) ox1 oy1 ((hT.below hB).below hb))
 have HM2:=Hd (fun (W:World) (hb:Below wb.heap.size wb W) => ratMay_any g2 a2 b2 n2 c2 m2 d2 x2 y2 W ((hx2.below hB).below hb) ((hy2.below hB).below hb) ox2 oy2 ((hT.below hB).below hb))
 have HC:=Hd (fun (W:World) (hb:Below wb.heap.size wb W) h1 h2 => ratcompare_any g1 g2 a1 b1 a2 b2 n1 c1 m1 d1 n2 c2 m2 d2 x1 y1 x2 y2 W ((hx1.below hB).below hb) ((hy1.below hB).below hb) ((hx2.below hB).below hb) ((hy2.below hB).below hb) ox1 oy1 ox2 oy2 h1 h2)
 have HBx:=Hd (And.intro bx2 by_)
 have HBB:=Hd hB
 obtain ⟨R,hR⟩:∃ R,CmpF g1 x1 y1 g2 x2 y2 = R:=⟨_,rfl⟩
 have HR:=Hd hR
 rw [hR]
 unfold CmpF at HR
 unfold ratV at HM1 HM2 HC ⊢
 clear bx bx2 by_ hba hbb hB hx1 hy1 hx2 hy2 hT hR
 cases k1:MayR g1 x1 y1
 ·have HR3:=Hd (show R = 0 by rw [← Uh HR,k1]; rfl)
  have KM:=Hd (Uh HM1 wb (Below.refl _ _))
  rw [k1] at KM
  clear HR HM1 HM2 HC k1
  go_enter Tryz.func13,Tryz.ntmps13
  go_wp2_with fail
  refine (Uh KM).mono ?_
  rintro _ wc ⟨rfl,hbc⟩
  have HF:=Hd ((Uh HBB).trans (hbc.mono (Uh HBB).size))
  clear hbc KM
  go_wp2_with fail
  go_ret
  rw [Uh HR3]
  exact ⟨rfl,Uh HF⟩
 ·have KM:=Hd (Uh HM1 wb (Below.refl _ _))
  rw [k1] at KM
  cases k2:MayR g2 x2 y2
  ·have HR3:=Hd (show R = 0 by rw [← Uh HR,k1,k2]; rfl)
   have HM:=Hd (fun W hb => (by have K:=Uh HM2 W hb; rw [k2] at K; exact K:Calls Tryz.prog 7 #[.agg #[.bool g2,.slice a2 n2 c2,.slice b2 m2 d2]] W fun e w' => e = .returned (.bool false) ∧ Below W.heap.size W w'))
   clear HR HM1 HM2 HC k1 k2
   go_enter Tryz.func13,Tryz.ntmps13
   go_wp2_with fail
   refine (Uh KM).mono ?_
   rintro _ wc ⟨rfl,hbc⟩
   have b2:=(Uh HBx).2.keep hbc
   have r0:=b2.d0
   have r1:=b2.d1
   have r2:=b2.d2
   have KM2:=Hd (Uh HM wc hbc)
   have HBc:=Hd hbc
   clear hbc KM b2 HM p0 p1 p2 q0 q1 q2
   go_wp2_with fail
   refine (Uh KM2).mono ?_
   rintro _ wd ⟨rfl,hbd⟩
   have h9:=(Uh HBc).trans (hbd.mono (Uh HBc).size)
   have HF:=Hd ((Uh HBB).trans (h9.mono (Uh HBB).size))
   clear hbd KM2 h9
   go_wp2_with fail
   go_ret
   rw [Uh HR3]
   exact ⟨rfl,Uh HF⟩
  ·have HR3:=Hd (show R = cmpR g1 x1 y1 g2 x2 y2 by rw [← Uh HR,k1,k2]; rfl)
   have HM:=Hd (fun W hb => (by have K:=Uh HM2 W hb; rw [k2] at K; exact K:Calls Tryz.prog 7 #[.agg #[.bool g2,.slice a2 n2 c2,.slice b2 m2 d2]] W fun e w' => e = .returned (.bool true) ∧ Below W.heap.size W w'))
   have HCC:=Hd (fun W hb => Uh HC W hb k1 k2)
   clear HR HM1 HM2 HC k1 k2
   go_enter Tryz.func13,Tryz.ntmps13
   go_wp2_with fail
   refine (Uh KM).mono ?_
   rintro _ wc ⟨rfl,hbc⟩
   have b2:=(Uh HBx).2.keep hbc
   have b1_:=(Uh HBx).1.keep hbc
   have r0:=b2.d0
   have r1:=b2.d1
   have r2:=b2.d2
   have KM2:=Hd (Uh HM wc hbc)
   have HBc:=Hd hbc
   have HB2:=Hd (And.intro b1_ b2)
   clear hbc KM b2 b1_ HM p0 p1 p2 q0 q1 q2
   go_wp2_with fail
   refine (Uh KM2).mono ?_
   rintro _ wd ⟨rfl,hbd⟩
   have b3:=(Uh HB2).1.keep hbd
   have b4:=(Uh HB2).2.keep hbd
   have u0:=b3.d0
   have u1:=b3.d1
   have u2:=b3.d2
   have v0:=b4.d0
   have v1:=b4.d1
   have v2:=b4.d2
   have h9:=(Uh HBc).trans (hbd.mono (Uh HBc).size)
   have KC:=Hd (Uh HCC wd h9)
   have HD:=Hd h9
   clear hbd KM2 h9 b3 b4 HCC r0 r1 r2
   go_wp2_with fail
   refine (Uh KC).mono ?_
   rintro _ we ⟨rfl,hbe⟩
   have h9:=(Uh HD).trans (hbe.mono (Uh HD).size)
   have HF:=Hd ((Uh HBB).trans (h9.mono (Uh HBB).size))
   clear hbe KC h9
   go_wp2_with fail
   go_ret
   rw [Uh HR3]
   exact ⟨rfl,Uh HF⟩
def AnPost (w w':World) (neg:Bool) (a1:Option Addr) (n1 c1:Nat) (a2:Option Addr) (n2 c2:Nat) (er:Int) (e:Ending):Prop :=
 e = .returned (.tuple #[if er = 0 then ratV (neg && decide (0 < n1)) a1 n1 c1 a2 n2 c2 else ratV false none 0 0 none 0 0,.int .i64 er]) ∧ Below w.heap.size w w'

set_option maxHeartbeats 8000000 in
theorem answer_any (neg:Bool) (a1 a2:Option Addr) (n1 c1 n2 c2:Nat) (er:Int) (w:World) :
  Calls Tryz.prog 142 #[.bool neg,.slice a1 n1 c1,.slice a2 n2 c2,.int .i64 er] w fun e w' => AnPost w w' neg a1 n1 c1 a2 n2 c2 er e:=by
 obtain ⟨wb,hwb⟩:∃ wb,w.alloc (.cells #[.bool false,.slice none 0 0,.slice none 0 0] 25) = wb:=⟨_,rfl⟩
 have hbb:Below w.heap.size w wb:=by rw [← hwb]; exact bAl
 have hO:Out wb w.heap.size:=by rw [← hwb]; exact Out.made w
 have HO:=Hd hO
 have HB:=Hd hbb
 clear hbb
 by_cases he:er = 0
 ·subst he
  clear hO
  go_enter Tryz.func142,Tryz.ntmps142
  go_wp2_with fail
  refine (signed_any neg a1 a2 n1 c1 n2 c2 wb).mono ?_
  rintro _ w2 ⟨rfl,b2⟩
  have hO3:=(Uh HO).keep b2
  obtain ⟨x0,q0⟩:=hO3.cells 0 (by decide)
  obtain ⟨x1,q1⟩:=hO3.cells 1 (by decide)
  obtain ⟨x2,q2⟩:=hO3.cells 2 (by decide)
  have r0:=hO3.fz 0 (by decide)
  have r1:=hO3.fz 1 (by decide)
  have r2:=hO3.fz 2 (by decide)
  obtain ⟨SG,hSG⟩:∃ SG,(neg && decide (0 < n1)) = SG:=⟨_,rfl⟩
  rw [hSG]
  have HSG:=Hd hSG
  have H4:=Hd (three_set w2 w.heap.size (.bool SG) (.slice a1 n1 c1) (.slice a2 n2 c2) hO3.cells)
  have HB2:=Hd ((Uh HB).trans (b2.mono (Uh HB).size))
  unfold ratV
  clear hO3 b2 hSG
  go_wp2_with fail
  obtain ⟨p0,p1,p2,c4⟩:=Uh H4
  generalize ((w2.setCell ⟨w.heap.size,0,none⟩ (.bool SG)).setCell ⟨w.heap.size,1,none⟩ (.slice a1 n1 c1)).setCell ⟨w.heap.size,2,none⟩ (.slice a2 n2 c2) = wf at *
  refine bodyPost_ret (by simp [results,Tryz.results142,go_sem,p0,p1,p2]; try rfl) rfl ?_
  refine ⟨?_,(Uh HB2).trans (c4.below (Uh HB2).size (fun k hk => by omega))⟩
  rw [if_pos rfl,Uh HSG]
  rfl
 ·have t1:(er == 0) = false:=by simpa using he
  have t2:(er != 0) = true:=by simpa using he
  obtain ⟨x0,q0⟩:=hO.cells 0 (by decide)
  obtain ⟨x1,q1⟩:=hO.cells 1 (by decide)
  obtain ⟨x2,q2⟩:=hO.cells 2 (by decide)
  have r0:=hO.fz 0 (by decide)
  have r1:=hO.fz 1 (by decide)
  have r2:=hO.fz 2 (by decide)
  have H4:=Hd (three_set wb w.heap.size (.bool false) (.slice none 0 0) (.slice none 0 0) hO.cells)
  clear hO
  go_enter Tryz.func142,Tryz.ntmps142
  go_wp2_with fail
  obtain ⟨p0,p1,p2,c4⟩:=Uh H4
  generalize ((wb.setCell ⟨w.heap.size,0,none⟩ (.bool false)).setCell ⟨w.heap.size,1,none⟩ (.slice none 0 0)).setCell ⟨w.heap.size,2,none⟩ (.slice none 0 0) = wf at *
  refine bodyPost_ret (by simp [results,Tryz.results142,go_sem,p0,p1,p2]; try rfl) rfl ?_
  refine ⟨?_,(Uh HB).trans (c4.below (Uh HB).size (fun k hk => by omega))⟩
  rw [if_neg he]
  rfl
def bigN (v:Nat):Bool:=decide (2048 < (limbs v).length)
def MuPost (w w':World) (sg:Bool) (N M:Nat) (e:Ending):Prop:=if bigN N || bigN M then ResR w w' false [] [] 2 e else ResR w w' (sg && decide (N ≠ 0)) (limbs N) (limbs M) 0 e


def adG (y1 y2:List Nat):Nat:=Nat.gcd (val y1) (val y2)
def adS (g1:Bool) (x1 y1:List Nat) (g2:Bool) (x2 y2:List Nat):Nat × Bool:=cmbV g1 (val x1 * (val y2 / adG y1 y2)) g2 (val x2 * (val y1 / adG y1 y2))
def adC (g1:Bool) (x1 y1:List Nat) (g2:Bool) (x2 y2:List Nat):Nat:=Nat.gcd (adS g1 x1 y1 g2 x2 y2).1 (adG y1 y2)
def adN (g1:Bool) (x1 y1:List Nat) (g2:Bool) (x2 y2:List Nat):Nat:=(adS g1 x1 y1 g2 x2 y2).1 / adC g1 x1 y1 g2 x2 y2
def adD (g1:Bool) (x1 y1:List Nat) (g2:Bool) (x2 y2:List Nat):Nat:=(val y1 / adG y1 y2) * (val y2 / adG y1 y2) * (adG y1 y2 / adC g1 x1 y1 g2 x2 y2)
theorem sll_3of {w:World} {g:Nat} {p q r:Pc} (hs:Sl w p.a p.n p.c p.xs) (ok:Ok p.xs) (hs2:Sl w q.a q.n q.c q.xs) (ok2:Ok q.xs) (hs3:Sl w r.a r.n r.c r.xs) (ok3:Ok r.xs) (hc:w.cell? ⟨g,0,none⟩ = some (.slice p.a p.n p.c)) (hc2:w.cell? ⟨g,1,none⟩ = some (.slice q.a q.n q.c)) (hc3:w.cell? ⟨g,2,none⟩ = some (.slice r.a r.n r.c)):SlL w (some ⟨g,0,none⟩) 3 3 [p,q,r]:=by
 refine ⟨rfl,Nat.le_refl _,.inr ⟨g,0,rfl,fun i t ht => ?_⟩,fun t ht => ?_⟩
 ·match i,ht with
  | 0,ht => cases ht; exact hc
  | 1,ht => cases ht; exact hc2
  | 2,ht => cases ht; exact hc3
  | i + 3,ht => simp at ht
 ·simp at ht
  rcases ht with rfl | rfl | rfl
  ·exact ⟨hs,ok⟩
  ·exact ⟨hs2,ok2⟩
  ·exact ⟨hs3,ok3⟩
theorem prod_three {A B E:Nat} {p q r:Pc} (hp:p.xs = limbs A) (hq:q.xs = limbs B) (hr:r.xs = limbs E) (mA:MayL (limbs A) = true) (mB:MayL (limbs B) = true) (mE:MayL (limbs E) = true) (zE:0 < E):prodL [p,q,r] = fitL (A * B * E):=by
 unfold prodL
 rw [if_pos (by simp [mayB,hp,hq,hr,mA,mB,mE])]
 have h1:=MayL.len mA
 simp only [prodF,hp,hq,hr,(limbs_rep _).val,Nat.one_mul]
 rw [if_neg (by omega)]
 by_cases h2:2048 < (limbs (A * B)).length
 ·rw [if_pos h2]
  have h3:(limbs (A * B)).length ≤ (limbs (A * B * E)).length:=limbs_len_monoF (Nat.le_mul_of_pos_right _ zE)
  exact (fitL_big (by omega)).symm
 ·rw [if_neg h2]
  rfl
theorem may_lt {xs:List Nat} (m:MayL xs = true) (ox:Ok xs):val xs < wD * wD:=by
 have h1:=val_lt ox
 have h2:=MayL.len m
 have e:=dL_eq
 have h3:4294967296 ^ xs.length ≤ 4294967296 ^ (dLimbs + dLimbs):=pow_mono (by omega)
 rw [Nat.pow_add,← wD_def] at h3
 omega
theorem wD_two_le:2 ≤ wD:=by
 have e0:dLimbs = 1 + (dLimbs - 1):=by have:=dL_eq; omega
 have e:wD = 4294967296 ^ 1 * 4294967296 ^ (dLimbs - 1):=by rw [← Nat.pow_add,← e0]; exact wD_def
 rw [e]
 have h:=Nat.pow_pos (n:=dLimbs - 1) (show 0 < 4294967296 by decide)
 have h2:4294967296 ^ 1 * 1 ≤ 4294967296 ^ 1 * 4294967296 ^ (dLimbs - 1):=Nat.mul_le_mul_left _ h
 omega
theorem wide_len10 {w:World} {a:Option Addr} {n c v:Nat} {ps:List Pc} (h:Wide w a n c v ps) (hv:v < wD ^ 5):n ≤ 10:=by
 rcases Nat.lt_or_ge 10 n with k | k
 ·have h1:=wide_ge h (by omega)
  have h2:wD ^ 5 ≤ wD ^ (n - 1):=Nat.pow_le_pow_right wD_pos (by omega)
  omega
 ·exact k
theorem cmb_small {g1 g2:Bool} {x1 x2 A B:Nat} (h1:x1 < wD * wD) (hB:B < wD * wD) (h2:x2 < wD * wD) (hA:A < wD * wD):(cmbV g1 (x1 * B) g2 (x2 * A)).1 < wD ^ 5:=by
 have k1:x1 * B ≤ wD * wD * (wD * wD):=Nat.mul_le_mul (Nat.le_of_lt h1) (Nat.le_of_lt hB)
 have k2:x2 * A < wD * wD * (wD * wD):=Nat.mul_lt_mul_of_lt_of_le h2 (Nat.le_of_lt hA) (by omega)
 have e5:wD ^ 5 = wD * (wD * wD * (wD * wD)):=by rw [Nat.pow_succ,Nat.mul_comm]; simp only [Nat.pow_succ,Nat.pow_zero,Nat.one_mul,Nat.mul_assoc]
 have k3:2 * (wD * wD * (wD * wD)) ≤ wD * (wD * wD * (wD * wD)):=Nat.mul_le_mul_right _ wD_two_le
 rw [e5]
 generalize wD * (wD * wD * (wD * wD)) = F at *
 generalize wD * wD * (wD * wD) = E at *
 unfold cmbV
 split
 ·show x1 * B + x2 * A < F
  omega
 ·split
  ·show x2 * A - x1 * B < F
   omega
  ·show x1 * B - x2 * A < F
   omega
def ByAll (w:World):Prop:=∀ W a1 n1 c1 v ps a m c zs,Below w.heap.size w W → Wide W a1 n1 c1 v ps → n1 ≤ 10 → Sl W a m c zs → Ok zs → MayL zs = true → zs ≠ [] → Calls Tryz.prog 106 #[.slice a1 n1 c1,.slice a m c] W fun e w' => ByPost 10 W w' (v / val zs) (v % val zs) e

set_option maxHeartbeats 8000000 in
set_option maxRecDepth 100000 in
theorem ratadd_any (g1 g2:Bool) (a1 b1 a2 b2:Option Addr) (n1 c1 m1 d1 n2 c2 m2 d2:Nat) (x1 y1 x2 y2:List Nat) (w:World) (hx1:Sl w a1 n1 c1 x1) (hy1:Sl w b1 m1 d1 y1) (hx2:Sl w a2 n2 c2 x2) (hy2:Sl w b2 m2 d2 y2) (ox1:Ok x1) (oy1:Ok y1) (ox2:Ok x2) (oy2:Ok y2) (kx1:MayL x1 = true) (ky1:MayL y1 = true) (kx2:MayL x2 = true) (ky2:MayL y2 = true) (ey1:y1 ≠ []) (ey2:y2 ≠ []) (hT:Tab64 w) (hBy:ByAll w) :
  Calls Tryz.prog 95 #[ratV g1 a1 n1 c1 b1 m1 d1,ratV g2 a2 n2 c2 b2 m2 d2] w fun e w' => MuPost w w' (adS g1 x1 y1 g2 x2 y2).2 (adN g1 x1 y1 g2 x2 y2) (adD g1 x1 y1 g2 x2 y2) e:=by
 have bx:=Box.made w g1 a1 n1 c1 b1 m1 d1
 obtain ⟨wa,hwa⟩:∃ wa,ratBox w g1 a1 n1 c1 b1 m1 d1 = wa:=⟨_,rfl⟩
 rw [hwa] at bx
 have by_:=Box.made wa g2 a2 n2 c2 b2 m2 d2
 obtain ⟨wb,hwb⟩:∃ wb,ratBox wa g2 a2 n2 c2 b2 m2 d2 = wb:=⟨_,rfl⟩
 rw [hwb] at by_
 obtain ⟨wo,hwo⟩:∃ x,wb.alloc (.cells #[.bool false,.slice none 0 0,.slice none 0 0] 25) = x:=⟨_,rfl⟩
 have hba:Below w.heap.size w wa:=by rw [← hwa]; exact bAl
 have hbb:Below wa.heap.size wa wb:=by rw [← hwb]; exact bAl
 have hbo:Below wb.heap.size wb wo:=by rw [← hwo]; exact bAl
 have hO:Out wo wb.heap.size:=by rw [← hwo]; exact Out.made wb
 have bx2:=(bx.keep hbb).keep hbo
 have by2:=by_.keep hbo
 have hB:=(hba.trans (hbb.mono hba.size)).trans (hbo.mono (Nat.le_trans hba.size hbb.size))
 have Hwb:=Hd (show w.heap.size ≤ wb.heap.size from Nat.le_trans hba.size hbb.size)
 unfold ratBox at hwa hwb
 have p0:=bx2.d0
 have p1:=bx2.d1
 have p2:=bx2.d2
 have p3:=by2.d0
 have p4:=by2.d1
 have p5:=by2.d2
 have vy1:=val_pos_of_may ky1 ey1
 have vy2:=val_pos_of_may ky2 ey2
 have HKD1:=Hd (fun (W:World) (hb:Below wo.heap.size wo W) => ratDivisor_any b1 b2 m1 d1 m2 d2 y1 y2 W ((hy1.below hB).below hb) ((hy2.below hB).below hb) oy1 oy2 ky1 ky2 ((hT.below hB).below hb))
 obtain ⟨R,hR⟩:∃ R,adS g1 x1 y1 g2 x2 y2 = R:=⟨_,rfl⟩
 obtain ⟨N,hN⟩:∃ N,adN g1 x1 y1 g2 x2 y2 = N:=⟨_,rfl⟩
 obtain ⟨M,hM⟩:∃ M,adD g1 x1 y1 g2 x2 y2 = M:=⟨_,rfl⟩
 rw [hN,hM,hR]
 unfold adN adC at hN
 unfold adD adC at hM
 rw [hR] at hN hM
 unfold adS at hR
 have hGp:0 < adG y1 y2:=Nat.gcd_pos_of_pos_right _ vy2
 have mG1:MayL (limbs (adG y1 y2)) = true:=may_small ky2 oy2 (Nat.gcd_le_right _ vy2)
 unfold adG at hN hM hR hGp mG1
 have hGl:=And.intro (Nat.gcd_le_left (val y2) vy1) (Nat.gcd_le_right (val y1) vy2)
 obtain ⟨G,hG⟩:∃ G,Nat.gcd (val y1) (val y2) = G:=⟨_,rfl⟩
 rw [hG] at HKD1 hN hM hR hGp mG1 hGl
 have HGl:=Hd hGl
 have HhN:=Hd hN
 have HhM:=Hd hM
 have HhR:=Hd hR
 clear hN hM hR hG
 unfold ratV
 go_enter Tryz.func95,Tryz.ntmps95
 go_wp2_with fail
 refine (Uh HKD1 wo (Below.refl _ _)).mono ?_
 rintro _ wc ⟨aC,mC,cC,rfl,sC,nC,bC⟩
 have k0:=(ck bC p0); have k1:=(ck bC p1); have k2:=(ck bC p2); have k3:=(ck bC p3); have k4:=(ck bC p4); have k5:=(ck bC p5)
 have hbc:=bC
 have hBc:=hB.trans (hbc.mono hB.size)
 have nzG:limbs G ≠ []:=limbs_ne hGp
 have HQ1:=Hd (fun (W:World) (hb:Below wc.heap.size wc W) => (by have K:=ratQuotient_any b1 aC m1 d1 mC cC y1 (limbs G) W ((hy1.below hBc).below hb) (sC.below hb) oy1 (limbs_rep G).ok ky1 mG1 nzG; rw [(limbs_rep G).val] at K; exact K:Calls Tryz.prog 56 #[.slice b1 m1 d1,.slice aC mC cC] W fun e w' => OldN W w' b1 m1 d1 (val y1 / G) e))
 have HQ2:=Hd (fun (W:World) (hb:Below wc.heap.size wc W) => (by have K:=ratQuotient_any b2 aC m2 d2 mC cC y2 (limbs G) W ((hy2.below hBc).below hb) (sC.below hb) oy2 (limbs_rep G).ok ky2 mG1 nzG; rw [(limbs_rep G).val] at K; exact K:Calls Tryz.prog 56 #[.slice b2 m2 d2,.slice aC mC cC] W fun e w' => OldN W w' b2 m2 d2 (val y2 / G) e))
 have mA:MayL (limbs (val y1 / G)) = true:=may_div ky1 oy1 _
 have mB:MayL (limbs (val y2 / G)) = true:=may_div ky2 oy2 _
 have zA:0 < val y1 / G:=Nat.div_pos (Uh HGl).1 hGp
 have zB:0 < val y2 / G:=Nat.div_pos (Uh HGl).2 hGp
 obtain ⟨A,hA⟩:∃ A,val y1 / G = A:=⟨_,rfl⟩
 obtain ⟨B,hBq⟩:∃ B,val y2 / G = B:=⟨_,rfl⟩
 rw [hA] at HQ1 mA HhM HhR zA
 rw [hBq] at HQ2 mB HhM HhR zB
 have HP:=Hd (And.intro (hx1.below hBc) (And.intro (hx2.below hBc) (And.intro (hT.below hBc) (And.intro sC (And.intro hBc (hO.keep hbc))))))
 have HBy:=Hd hBy
 clear hGl hx1 hx2 hy1 hy2 hT hBy sC nC bC hbc hBc hB hO HKD1 bx bx2 by_ by2 hba hbb hbo hwa hwb hwo p0 p1 p2 p3 p4 p5 hA hBq HGl
 go_wp2_with fail
 go_region_held3 (fun w' => w'.cell? ⟨w.heap.size,0,none⟩ = some (.bool g1) ∧ w'.cell? ⟨w.heap.size,1,none⟩ = some (.slice a1 n1 c1) ∧ w'.cell? ⟨w.heap.size,2,none⟩ = some (.slice b1 m1 d1) ∧ w'.cell? ⟨wa.heap.size,0,none⟩ = some (.bool g2) ∧ w'.cell? ⟨wa.heap.size,1,none⟩ = some (.slice a2 n2 c2) ∧ w'.cell? ⟨wa.heap.size,2,none⟩ = some (.slice b2 m2 d2)) (first | go_keep | (exact ⟨e0,e1,e2,e3,e4,e5⟩) | (exact ⟨f0,f1,f2,f3,f4,f5⟩))
  (first
   | (go_at_call_of 56 (Value.slice b1 m1 d1); refine (Uh HQ1 _ (Below.refl _ _).drew).mono ?_; rintro _ we ⟨ae,me,ce,rfl,sE,oE,bE⟩; have hbe:Below wc.heap.size wc we:=(Below.refl _ _).drew.trans bE; have e0:=(ck hbe k0); have e1:=(ck hbe k1); have e2:=(ck hbe k2); have e3:=(ck hbe k3); have e4:=(ck hbe k4); have e5:=(ck hbe k5); have He:=Hd (And.intro sE hbe); clear sE oE bE hbe)
   | (go_at_call_of 56 (Value.slice b2 m2 d2); refine (Uh HQ2 _ (Uh He).2).mono ?_; rintro _ wf ⟨af,mf,cf,rfl,sF_,oF,bF⟩; have f0:=(ck bF e0); have f1:=(ck bF e1); have f2:=(ck bF e2); have f3:=(ck bF e3); have f4:=(ck bF e4); have f5:=(ck bF e5); have Hf:=Hd (And.intro ((Uh He).1.below bF) (And.intro sF_ ((Uh He).2.trans (bF.mono (Uh He).2.size)))); clear sF_ oF bF He))
 obtain ⟨pA,pB,pb⟩:=Uh Hf
 have HP2:=Hd (And.intro ((Uh HP).1.below pb) (And.intro ((Uh HP).2.1.below pb) (And.intro ((Uh HP).2.2.1.below pb) (And.intro ((Uh HP).2.2.2.1.below pb) (And.intro ((Uh HP).2.2.2.2.1.trans (pb.mono (Uh HP).2.2.2.2.1.size)) ((Uh HP).2.2.2.2.2.keep pb))))))
 have HAB:=Hd (And.intro pA pB)
 have HX1:=Hd (fun (W:World) (hb:Below wf.heap.size wf W) => (by have K:=product_any a1 af n1 c1 mf cf x1 (limbs B) W ((Uh HP2).1.below hb) ((Uh HAB).2.below hb) ox1 (limbs_rep B).ok kx1 mB; rw [(limbs_rep B).val] at K; exact K:Calls Tryz.prog 58 #[.slice a1 n1 c1,.slice af mf cf] W fun e w' => WdPostN 200 W w' (val x1 * B) e))
 have HX2:=Hd (fun (W:World) (hb:Below wf.heap.size wf W) => (by have K:=product_any a2 ae n2 c2 me ce x2 (limbs A) W ((Uh HP2).2.1.below hb) ((Uh HAB).1.below hb) ox2 (limbs_rep A).ok kx2 mA; rw [(limbs_rep A).val] at K; exact K:Calls Tryz.prog 58 #[.slice a2 n2 c2,.slice ae me ce] W fun e w' => WdPostN 200 W w' (val x2 * A) e))
 clear k0 k1 k2 k3 k4 k5 e0 e1 e2 e3 e4 e5 Hf HP HQ1 HQ2 pA pB pb
 try go_wp2_with fail
 go_region_held3 (fun w' => w'.cell? ⟨w.heap.size,0,none⟩ = some (.bool g1) ∧ w'.cell? ⟨w.heap.size,1,none⟩ = some (.slice a1 n1 c1) ∧ w'.cell? ⟨w.heap.size,2,none⟩ = some (.slice b1 m1 d1) ∧ w'.cell? ⟨wa.heap.size,0,none⟩ = some (.bool g2) ∧ w'.cell? ⟨wa.heap.size,1,none⟩ = some (.slice a2 n2 c2) ∧ w'.cell? ⟨wa.heap.size,2,none⟩ = some (.slice b2 m2 d2)) (first | go_keep | (exact ⟨u0,u1,u2,u3,u4,u5⟩) | (exact ⟨v0,v1,v2,v3,v4,v5⟩) | (exact ⟨z0,z1,z2,z3,z4,z5⟩))
  (first
   | (go_at_call_of 58 (Value.slice a1 n1 c1); refine (Uh HX1 _ (Below.refl _ _).drew).mono ?_; rintro _ wu ⟨au,nu,cu,us,rfl,hWu,hnu,bU⟩; have hbu:Below wf.heap.size wf wu:=(Below.refl _ _).drew.trans bU; have u0:=(ck hbu f0); have u1:=(ck hbu f1); have u2:=(ck hbu f2); have u3:=(ck hbu f3); have u4:=(ck hbu f4); have u5:=(ck hbu f5); have Hu:=Hd (And.intro hWu (And.intro hnu hbu)); clear hWu hnu bU hbu)
   | (go_at_call_of 58 (Value.slice a2 n2 c2); refine (Uh HX2 _ (Uh Hu).2.2).mono ?_; rintro _ wv_ ⟨av,nv,cv,vs,rfl,hWv,hnv,bV⟩; have v0:=(ck bV u0); have v1:=(ck bV u1); have v2:=(ck bV u2); have v3:=(ck bV u3); have v4:=(ck bV u4); have v5:=(ck bV u5); have KC:=combine_any g1 g2 au av nu cu nv cv (val x1 * B) (val x2 * A) us vs wv_ ((Uh Hu).1.below bV) hWv (Nat.le_trans (Uh Hu).2.1 (by decide)) (Nat.le_trans hnv (by decide)); rw [Uh HhR] at KC; have HKC:=Hd KC; have Hv:=Hd ((Uh Hu).2.2.trans (bV.mono (Uh Hu).2.2.size)); clear hWv hnv bV KC Hu)
   | (go_at_call 140; refine (Uh HKC).mono ?_; rintro _ wz ⟨az,nz,cz,zs,rfl,hWz,hnz,bZ⟩; have z0:=(ck bZ v0); have z1:=(ck bZ v1); have z2:=(ck bZ v2); have z3:=(ck bZ v3); have z4:=(ck bZ v4); have z5:=(ck bZ v5); have Hz:=Hd (And.intro hWz (And.intro (True.intro) ((Uh Hv).trans (bZ.mono (Uh Hv).size)))); clear hWz hnz bZ HKC))
 obtain ⟨hWz,_,hbz⟩:=Uh Hz
 have hnz:nz ≤ 10:=wide_len10 hWz (by have h:=cmb_small (g1:=g1) (g2:=g2) (may_lt kx1 ox1) (by have:=may_lt mB (limbs_rep B).ok; rwa [(limbs_rep B).val] at this) (may_lt kx2 ox2) (by have:=may_lt mA (limbs_rep A).ok; rwa [(limbs_rep A).val] at this); rwa [Uh HhR] at h)
 have hBz:=(Uh HP2).2.2.2.2.1.trans (hbz.mono (Uh HP2).2.2.2.2.1.size)
 have KK:=cancel_any 10 az aC nz cz mC cC R.1 zs (limbs G) wz hWz hnz ((Uh HP2).2.2.2.1.below hbz) (limbs_rep G).ok mG1 nzG ((Uh HP2).2.2.1.below hbz) (fun W a m c ys hb hs ok mm ne => Uh HBy W az nz cz R.1 zs a m c ys (hBz.trans (hb.mono hBz.size)) (hWz.below hb) hnz hs ok mm ne)
 rw [(limbs_rep G).val,Uh HhN] at KK
 have hCp:0 < Nat.gcd R.1 G:=Nat.gcd_pos_of_pos_right _ hGp
 have hGC:0 < G / Nat.gcd R.1 G:=Nat.div_pos (Nat.gcd_le_right _ hGp) hCp
 have mGC:MayL (limbs (G / Nat.gcd R.1 G)) = true:=by have:=may_div mG1 (limbs_rep G).ok (Nat.gcd R.1 G); rw [(limbs_rep G).val] at this; exact this
 obtain ⟨E,hE⟩:∃ E,G / Nat.gcd R.1 G = E:=⟨_,rfl⟩
 rw [hE] at KK HhM hGC mGC
 have HKK:=Hd KK
 have HQ:=Hd (And.intro ((Uh HAB).1.below hbz) (And.intro ((Uh HAB).2.below hbz) (And.intro hBz ((Uh HP2).2.2.2.2.2.keep hbz))))
 clear f0 f1 f2 f3 f4 f5 u0 u1 u2 u3 u4 u5 v0 v1 v2 v3 v4 v5 z0 z1 z2 z3 z4 z5 HX1 HX2 Hv Hz hWz hnz hbz hBz KK hCp hE HBy HP2 HAB nzG mG1 hGp ox1 ox2 oy1 oy2 kx1 kx2 ky1 ky2 ey1 ey2 vy1 vy2
 go_wp2_with fail
 refine (Uh HKK).mono ?_
 rintro _ wg ⟨ag,ng,cg,gs,ah,mh,ch,rfl,hWg,hng,sh,hbg⟩
 have HKN:=Hd (narrow_any ag ng cg N gs wg hWg)
 have HR:=Hd (And.intro ((Uh HQ).1.below hbg) (And.intro ((Uh HQ).2.1.below hbg) (And.intro sh (And.intro ((Uh HQ).2.2.1.trans (hbg.mono (Uh HQ).2.2.1.size)) ((Uh HQ).2.2.2.keep hbg)))))
 clear hWg hng sh hbg HKK HQ
 go_wp2_with fail
 refine (Uh HKN).mono ?_
 rintro _ wn ⟨aq,mq,cq,rfl,sn,nn,bn⟩
 obtain ⟨wp_,hwp⟩:∃ x,wn.alloc (.cells #[.slice ae me ce,.slice af mf cf,.slice ah mh ch] 23) = x:=⟨_,rfl⟩
 have hbp:Below wn.heap.size wn wp_:=by rw [← hwp]; exact bAl
 have hp0:wp_.cell? ⟨wn.heap.size,0,none⟩ = some (.slice ae me ce):=by rw [← hwp]; simp
 have hp1:wp_.cell? ⟨wn.heap.size,1,none⟩ = some (.slice af mf cf):=by rw [← hwp]; simp
 have hp2:wp_.cell? ⟨wn.heap.size,2,none⟩ = some (.slice ah mh ch):=by rw [← hwp]; simp
 have hbq:=bn.trans (hbp.mono bn.size)
 have KPr:=nprod_any (some ⟨wn.heap.size,0,none⟩) 3 3 [⟨ae,me,ce,limbs A⟩,⟨af,mf,cf,limbs B⟩,⟨ah,mh,ch,limbs E⟩] wp_ (sll_3of (p:=⟨ae,me,ce,limbs A⟩) (q:=⟨af,mf,cf,limbs B⟩) (r:=⟨ah,mh,ch,limbs E⟩) ((Uh HR).1.below hbq) (limbs_rep _).ok ((Uh HR).2.1.below hbq) (limbs_rep _).ok ((Uh HR).2.2.1.below hbq) (limbs_rep _).ok hp0 hp1 hp2) (by decide)
 rw [prod_three rfl rfl rfl mA mB mGC hGC,Uh HhM] at KPr
 have HPr:=Hd KPr
 have HT:=Hd (And.intro (sn.below hbp) (And.intro nn (And.intro hbq hbp.size)))
 clear sn nn bn hbp hp0 hp1 hp2 hbq KPr HKN
 go_wp2_with fail
 refine (Uh HPr).mono ?_
 rintro _ wt ⟨at_,mt,ct,rfl,st,nt,bt⟩
 have hBp:Below w.heap.size w wp_:=(Uh HR).2.2.2.1.trans ((Uh HT).2.2.1.mono (Uh HR).2.2.2.1.size)
 have hBt:=hBp.trans (bt.mono hBp.size)
 have hO2:=((Uh HR).2.2.2.2.keep (Uh HT).2.2.1).keep bt
 have hlt9:wb.heap.size < wg.heap.size:=(Uh HR).2.2.2.2.lt
 have HY:=Hd (And.intro (fun x hx => by have h1:=(Uh HT).2.1 x hx; omega:∀ x,aq = some x → x.block ≠ wb.heap.size) (fun x hx => by have h1:=nt x hx; have h2:=(Uh HT).2.2.1.size; omega:∀ x,at_ = some x → x.block ≠ wb.heap.size))
 have HX:=Hd (And.intro ((Uh HT).1.below bt) (And.intro st (And.intro (fun x hx => Nat.le_trans (Uh HR).2.2.2.1.size ((Uh HT).2.1 x hx):NewAt w.heap.size aq) (And.intro (fun x hx => Nat.le_trans hBp.size (nt x hx):NewAt w.heap.size at_) (And.intro hBt hO2)))))
 clear st nt bt hBp hBt hO2 hlt9 HT HR HPr hwp mA mB mGC hGC zA zB HhN HhM HhR
 cases hbN:bigN N
 ·have eN:fitL N = (limbs N,0):=fitL_ok (by unfold bigN at hbN; simpa using hbN)
  rw [eN] at HX ⊢
  cases hbM:bigN M
  ·have eM:fitL M = (limbs M,0):=fitL_ok (by unfold bigN at hbM; simpa using hbM)
   rw [eM] at HX ⊢
   dsimp only at HX ⊢
   clear eN eM
   have K:=answer_any R.2 aq at_ mq cq mt ct 0 wt
   unfold AnPost at K
   rw [if_pos rfl] at K
   unfold ratV at K
   obtain ⟨SG,hSG⟩:∃ SG,(R.2 && decide (0 < mq)) = SG:=⟨_,rfl⟩
   rw [hSG] at K
   have HSG:=Hd hSG
   clear hSG
   have HK:=Hd K
   have HbN:=Hd hbN
   have HbM:=Hd hbM
   clear K hbN hbM
   go_wp2_with fail
   refine (Uh HK).mono ?_
   rintro _ wy ⟨rfl,hby⟩
   have hO3:=(Uh HX).2.2.2.2.2.keep hby
   obtain ⟨i0,o0⟩:=hO3.cells 0 (by decide)
   obtain ⟨i1,o1⟩:=hO3.cells 1 (by decide)
   obtain ⟨i2,o2⟩:=hO3.cells 2 (by decide)
   have r0:=hO3.fz 0 (by decide)
   have r1:=hO3.fz 1 (by decide)
   have r2:=hO3.fz 2 (by decide)
   have H4:=Hd (three_set wy wb.heap.size (.bool SG) (.slice aq mq cq) (.slice at_ mt ct) hO3.cells)
   have HBy:=Hd hby
   clear hO3 hby HK
   go_wp2_with fail
   obtain ⟨t0,t1,t2,c4⟩:=Uh H4
   generalize ((wy.setCell ⟨wb.heap.size,0,none⟩ (.bool SG)).setCell ⟨wb.heap.size,1,none⟩ (.slice aq mq cq)).setCell ⟨wb.heap.size,2,none⟩ (.slice at_ mt ct) = wk at *
   refine bodyPost_ret (by simp [results,Tryz.results95,go_sem,t0,t1,t2]; try rfl) rfl ?_
   unfold MuPost
   rw [Uh HbN,Uh HbM]
   have hBy:Below w.heap.size w wy:=(Uh HX).2.2.2.2.1.trans ((Uh HBy).mono (Uh HX).2.2.2.2.1.size)
   have hBk:Below w.heap.size w wk:=hBy.trans (c4.below hBy.size (fun k hk => by have:=Uh Hwb; omega))
   refine ⟨_,rfl,aq,mq,cq,at_,mt,ct,?_,((Uh HX).1.below (Uh HBy)).chg c4 (fun x hx _ h => (Uh HY).1 x hx h),((Uh HX).2.1.below (Uh HBy)).chg c4 (fun x hx _ h => (Uh HY).2 x hx h),(Uh HX).2.2.1,(Uh HX).2.2.2.1,hBk⟩
   rw [← Uh HSG]
   show ratV _ aq mq cq at_ mt ct = ratV _ aq mq cq at_ mt ct
   refine ratV_congr ?_
   have hl:=(Uh HX).1.len
   have e:decide (0 < mq) = decide (N ≠ 0):=by
    rw [Bool.eq_iff_iff]
    simp only [decide_eq_true_eq]
    rw [← hl]
    constructor
    ·intro h h0
     rw [h0] at h
     exact absurd h (by decide)
    ·intro h
     rcases Nat.eq_zero_or_pos (limbs N).length with k | k
     ·exfalso
      have:=(limbs_rep N).val
      rw [List.length_eq_zero_iff.1 k] at this
      exact h this.symm
     ·exact k
   rw [e]
  ·have eM:fitL M = ([],2):=fitL_big (by unfold bigN at hbM; simpa using hbM)
   rw [eM] at HX ⊢
   dsimp only at HX ⊢
   clear eN eM
   have K:=answer_any R.2 aq at_ mq cq mt ct 2 wt
   unfold AnPost at K
   rw [if_neg (by decide)] at K
   unfold ratV at K
   have HK:=Hd K
   have HbN:=Hd hbN
   have HbM:=Hd hbM
   clear K hbN hbM
   go_wp2_with fail
   refine (Uh HK).mono ?_
   rintro _ wy ⟨rfl,hby⟩
   have hO3:=(Uh HX).2.2.2.2.2.keep hby
   obtain ⟨i0,o0⟩:=hO3.cells 0 (by decide)
   obtain ⟨i1,o1⟩:=hO3.cells 1 (by decide)
   obtain ⟨i2,o2⟩:=hO3.cells 2 (by decide)
   have r0:=hO3.fz 0 (by decide)
   have r1:=hO3.fz 1 (by decide)
   have r2:=hO3.fz 2 (by decide)
   have H4:=Hd (three_set wy wb.heap.size (.bool false) (.slice none 0 0) (.slice none 0 0) hO3.cells)
   have HBy:=Hd hby
   clear hO3 hby HK
   go_wp2_with fail
   obtain ⟨t0,t1,t2,c4⟩:=Uh H4
   generalize ((wy.setCell ⟨wb.heap.size,0,none⟩ (.bool false)).setCell ⟨wb.heap.size,1,none⟩ (.slice none 0 0)).setCell ⟨wb.heap.size,2,none⟩ (.slice none 0 0) = wk at *
   refine bodyPost_ret (by simp [results,Tryz.results95,go_sem,t0,t1,t2]; try rfl) rfl ?_
   unfold MuPost
   rw [Uh HbN,Uh HbM]
   have hBy:Below w.heap.size w wy:=(Uh HX).2.2.2.2.1.trans ((Uh HBy).mono (Uh HX).2.2.2.2.1.size)
   have hBk:Below w.heap.size w wk:=hBy.trans (c4.below hBy.size (fun k hk => by have:=Uh Hwb; omega))
   exact ⟨_,rfl,none,0,0,none,0,0,rfl,⟨rfl,Nat.le_refl _,Nat.zero_le _,.inl rfl⟩,⟨rfl,Nat.le_refl _,Nat.zero_le _,.inl rfl⟩,(fun x hx => by cases hx),(fun x hx => by cases hx),hBk⟩
 ·have eN:fitL N = ([],2):=fitL_big (by unfold bigN at hbN; simpa using hbN)
  rw [eN] at HX ⊢
  cases hbM:bigN M
  ·have eM:fitL M = (limbs M,0):=fitL_ok (by unfold bigN at hbM; simpa using hbM)
   rw [eM] at HX ⊢
   dsimp only at HX ⊢
   clear eN eM
   have K:=answer_any R.2 aq at_ mq cq mt ct 2 wt
   unfold AnPost at K
   rw [if_neg (by decide)] at K
   unfold ratV at K
   have HK:=Hd K
   have HbN:=Hd hbN
   have HbM:=Hd hbM
   clear K hbN hbM
   go_wp2_with fail
   refine (Uh HK).mono ?_
   rintro _ wy ⟨rfl,hby⟩
   have hO3:=(Uh HX).2.2.2.2.2.keep hby
   obtain ⟨i0,o0⟩:=hO3.cells 0 (by decide)
   obtain ⟨i1,o1⟩:=hO3.cells 1 (by decide)
   obtain ⟨i2,o2⟩:=hO3.cells 2 (by decide)
   have r0:=hO3.fz 0 (by decide)
   have r1:=hO3.fz 1 (by decide)
   have r2:=hO3.fz 2 (by decide)
   have H4:=Hd (three_set wy wb.heap.size (.bool false) (.slice none 0 0) (.slice none 0 0) hO3.cells)
   have HBy:=Hd hby
   clear hO3 hby HK
   go_wp2_with fail
   obtain ⟨t0,t1,t2,c4⟩:=Uh H4
   generalize ((wy.setCell ⟨wb.heap.size,0,none⟩ (.bool false)).setCell ⟨wb.heap.size,1,none⟩ (.slice none 0 0)).setCell ⟨wb.heap.size,2,none⟩ (.slice none 0 0) = wk at *
   refine bodyPost_ret (by simp [results,Tryz.results95,go_sem,t0,t1,t2]; try rfl) rfl ?_
   unfold MuPost
   rw [Uh HbN,Uh HbM]
   have hBy:Below w.heap.size w wy:=(Uh HX).2.2.2.2.1.trans ((Uh HBy).mono (Uh HX).2.2.2.2.1.size)
   have hBk:Below w.heap.size w wk:=hBy.trans (c4.below hBy.size (fun k hk => by have:=Uh Hwb; omega))
   exact ⟨_,rfl,none,0,0,none,0,0,rfl,⟨rfl,Nat.le_refl _,Nat.zero_le _,.inl rfl⟩,⟨rfl,Nat.le_refl _,Nat.zero_le _,.inl rfl⟩,(fun x hx => by cases hx),(fun x hx => by cases hx),hBk⟩
  ·have eM:fitL M = ([],2):=fitL_big (by unfold bigN at hbM; simpa using hbM)
   rw [eM] at HX ⊢
   dsimp only at HX ⊢
   clear eN eM
   have K:=answer_any R.2 aq at_ mq cq mt ct 2 wt
   unfold AnPost at K
   rw [if_neg (by decide)] at K
   unfold ratV at K
   have HK:=Hd K
   have HbN:=Hd hbN
   have HbM:=Hd hbM
   clear K hbN hbM
   go_wp2_with fail
   refine (Uh HK).mono ?_
   rintro _ wy ⟨rfl,hby⟩
   have hO3:=(Uh HX).2.2.2.2.2.keep hby
   obtain ⟨i0,o0⟩:=hO3.cells 0 (by decide)
   obtain ⟨i1,o1⟩:=hO3.cells 1 (by decide)
   obtain ⟨i2,o2⟩:=hO3.cells 2 (by decide)
   have r0:=hO3.fz 0 (by decide)
   have r1:=hO3.fz 1 (by decide)
   have r2:=hO3.fz 2 (by decide)
   have H4:=Hd (three_set wy wb.heap.size (.bool false) (.slice none 0 0) (.slice none 0 0) hO3.cells)
   have HBy:=Hd hby
   clear hO3 hby HK
   go_wp2_with fail
   obtain ⟨t0,t1,t2,c4⟩:=Uh H4
   generalize ((wy.setCell ⟨wb.heap.size,0,none⟩ (.bool false)).setCell ⟨wb.heap.size,1,none⟩ (.slice none 0 0)).setCell ⟨wb.heap.size,2,none⟩ (.slice none 0 0) = wk at *
   refine bodyPost_ret (by simp [results,Tryz.results95,go_sem,t0,t1,t2]; try rfl) rfl ?_
   unfold MuPost
   rw [Uh HbN,Uh HbM]
   have hBy:Below w.heap.size w wy:=(Uh HX).2.2.2.2.1.trans ((Uh HBy).mono (Uh HX).2.2.2.2.1.size)
   have hBk:Below w.heap.size w wk:=hBy.trans (c4.below hBy.size (fun k hk => by have:=Uh Hwb; omega))
   exact ⟨_,rfl,none,0,0,none,0,0,rfl,⟨rfl,Nat.le_refl _,Nat.zero_le _,.inl rfl⟩,⟨rfl,Nat.le_refl _,Nat.zero_le _,.inl rfl⟩,(fun x hx => by cases hx),(fun x hx => by cases hx),hBk⟩
end Go.Proofs.YtmmeiebbnjjijaaGreatDoor
