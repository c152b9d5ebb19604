/- Wid -/
import Derived.Test.YtmmeiebbnjjijaaGreatDoorWic
import Derived.Test.YtmmeiebbnjjijaaGreatDoorWi2
namespace Go.Proofs.YtmmeiebbnjjijaaGreatDoor
open Go.RowKit Go.Deep
set_option linter.unusedVariables false
def cmpR (g1:Bool) (x1 y1:List Nat) (g2:Bool) (x2 y2:List Nat):Int :=
 if signR g1 x1 < signR g2 x2 then -1 else if signR g2 x2 < signR g1 x1 then 1 else if g1 then cmpN (val x2 * val y1) (val x1 * val y2) else cmpN (val x1 * val y2) (val x2 * val y1)
theorem MayR.parts {g:Bool} {x y:List Nat} (h:MayR g x y = true):MayL x = true ∧ MayL y = true ∧ y ≠ [] ∧ (g = true → x ≠ []) ∧ Nat.gcd (val x) (val y) = 1:=by
 unfold MayR at h
 simp only [Bool.and_eq_true,Bool.not_eq_true',decide_eq_false_iff_not,decide_eq_true_eq] at h
 obtain ⟨⟨⟨⟨h1,h2⟩,h3⟩,h4⟩,h5⟩:=h
 refine ⟨h1,h2,h3,fun hg hx => ?_,h5⟩
 rw [hg,hx] at h4
 simp at h4
theorem sz_ok {g1 g2:Bool} {x1 y1 x2 y2:List Nat} (ox1:Ok x1) (oy1:Ok y1) (ox2:Ok x2) (oy2:Ok y2) (h1:MayR g1 x1 y1 = true) (h2:MayR g2 x2 y2 = true) (hs:signR g1 x1 = signR g2 x2):SzOk x1 y1 x2 y2:=by
 obtain ⟨a1,b1,c1,d1,e1⟩:=MayR.parts h1
 obtain ⟨a2,b2,c2,d2,e2⟩:=MayR.parts h2
 by_cases z1:x1 = []
 ·have g10:g1 = false:=by cases g1; rfl; exact absurd z1 (d1 rfl)
  have s1:signR g1 x1 = 0:=by rw [g10,z1]; rfl
  rw [s1] at hs
  have z2:x2 = []:=by
   unfold signR at hs
   cases g2
   ·simp at hs
    by_cases h:x2 = []
    ·exact h
    ·simp [h] at hs
   ·simp at hs
  have v1:val y1 = 1:=by rw [z1] at e1; simpa [val] using e1
  have v2:val y2 = 1:=by rw [z2] at e2; simpa [val] using e2
  have k1:=bitsN_mono oy1 oy2 (MayL.norm b1) (by omega)
  have k2:=bitsN_mono oy2 oy1 (MayL.norm b2) (by omega)
  rw [z1,z2]
  exact ⟨fun h => by omega,fun h => by omega⟩
 ·have z2:x2 ≠ []:=by
   intro z2
   have g20:g2 = false:=by cases g2; rfl; exact absurd z2 (d2 rfl)
   rw [g20,z2] at hs
   unfold signR at hs
   cases g1
   ·simp [z1] at hs
   ·simp at hs
  exact ⟨fun h => prod_less ox1 oy2 ox2 oy1 (MayL.norm a2) (MayL.norm b1) z2 c1 h,fun h => prod_less ox2 oy1 ox1 oy2 (MayL.norm a1) (MayL.norm b2) z1 c2 h⟩

set_option maxHeartbeats 8000000 in
set_option maxRecDepth 100000 in
theorem ratcompare_any (g1 g2:Bool) (a1 b1 a2 b2:Option Addr) (n1 c1 m1 d1 n2 c2 m2 d2:Nat) (x1 y1 x2 y2:List Nat) (w:World) (hx1:Sl w a1 n1 c1 x1) (hy1:Sl w b1 m1 d1 y1) (hx2:Sl w a2 n2 c2 x2) (hy2:Sl w b2 m2 d2 y2) (ox1:Ok x1) (oy1:Ok y1) (ox2:Ok x2) (oy2:Ok y2) (h1:MayR g1 x1 y1 = true) (h2:MayR g2 x2 y2 = true) :
  Calls Tryz.prog 44 #[ratV g1 a1 n1 c1 b1 m1 d1,ratV g2 a2 n2 c2 b2 m2 d2] w fun e w' => e = .returned (.int .i64 (cmpR g1 x1 y1 g2 x2 y2)) ∧ Below w.heap.size w w':=by
 have bx:=Box.made w g1 a1 n1 c1 b1 m1 d1
 obtain ⟨wa,hwa⟩:∃ wa,ratBox w g1 a1 n1 c1 b1 m1 d1 = wa:=⟨_,rfl⟩
 rw [hwa] at bx
 have by_:=Box.made wa g2 a2 n2 c2 b2 m2 d2
 obtain ⟨wb,hwb⟩:∃ wb,ratBox wa g2 a2 n2 c2 b2 m2 d2 = wb:=⟨_,rfl⟩
 rw [hwb] at by_
 have hba:Below w.heap.size w wa:=by rw [← hwa]; exact bAl
 have hbb:Below wa.heap.size wa wb:=by rw [← hwb]; exact bAl
 have bx2:=bx.keep hbb
 have hB:=hba.trans (hbb.mono hba.size)
 unfold ratBox at hwa hwb
 have p0:=bx2.d0
 have p1:=bx2.d1
 have p2:=bx2.d2
 have q0:=by_.d0
 have q1:=by_.d1
 have q2:=by_.d2
 obtain ⟨ka1,kb1,_,_,_⟩:=MayR.parts h1
 obtain ⟨ka2,kb2,_,_,_⟩:=MayR.parts h2
 have HS1:=Hd (fun (W:World) => rsign_any g1 a1 b1 n1 c1 m1 d1 x1 W hx1.len)
 have HS2:=Hd (fun (W:World) => rsign_any g2 a2 b2 n2 c2 m2 d2 x2 W hx2.len)
 have HSz:=Hd (fun hs => sz_ok ox1 oy1 ox2 oy2 h1 h2 hs)
 have HSz2:=Hd (fun hs => sz_ok ox2 oy2 ox1 oy1 h2 h1 hs)
 have HC1:=Hd (fun (W:World) (hb:Below wb.heap.size wb W) sz => compareSizes_any g1 g2 a1 b1 a2 b2 n1 c1 m1 d1 n2 c2 m2 d2 x1 y1 x2 y2 W ((hx1.below hB).below hb) ((hy1.below hB).below hb) ((hx2.below hB).below hb) ((hy2.below hB).below hb) ox1 oy1 ox2 oy2 ka1 kb1 ka2 kb2 sz)
 have HC2:=Hd (fun (W:World) (hb:Below wb.heap.size wb W) sz => compareSizes_any g2 g1 a2 b2 a1 b1 n2 c2 m2 d2 n1 c1 m1 d1 x2 y2 x1 y1 W ((hx2.below hB).below hb) ((hy2.below hB).below hb) ((hx1.below hB).below hb) ((hy1.below hB).below hb) ox2 oy2 ox1 oy1 ka2 kb2 ka1 kb1 sz)
 have HBB:=Hd hB
 have hX1:-1 ≤ signR g1 x1 ∧ signR g1 x1 ≤ 1:=by unfold signR; split; omega; split <;> omega
 have hX2:-1 ≤ signR g2 x2 ∧ signR g2 x2 ≤ 1:=by unfold signR; split; omega; split <;> omega
 obtain ⟨R,hR⟩:∃ R,cmpR g1 x1 y1 g2 x2 y2 = R:=⟨_,rfl⟩
 have HR:=Hd hR
 rw [hR]
 unfold cmpR at HR
 obtain ⟨X,hX⟩:∃ X,signR g1 x1 = X:=⟨_,rfl⟩
 obtain ⟨Y,hY⟩:∃ X,signR g2 x2 = X:=⟨_,rfl⟩
 rw [hX] at HS1 HSz HSz2 hX1 HR
 rw [hY] at HS2 HSz HSz2 hX2 HR
 unfold ratV at HS1 HS2 HC1 HC2 ⊢
 clear bx bx2 by_ hba hbb hB hx1 hy1 hx2 hy2 hX hY hR h1 h2 ka1 kb1 ka2 kb2
 have F0:=fun x:Ext wb => x.cell p0
 have F1:=fun x:Ext wb => x.cell p1
 have F2:=fun x:Ext wb => x.cell p2
 have G0:=fun x:Ext wb => x.cell q0
 have G1:=fun x:Ext wb => x.cell q1
 have G2:=fun x:Ext wb => x.cell q2
 have hNE:=Ext.ne wb
 go_enter Tryz.func44,Tryz.ntmps44
 go_wp2_with fail
 refine wp_region_ext (by kernel_rfl) (by kernel_rfl) ?_
 repeat (go_big_quiet_step (first
  | (go_at_call_of 43 (Value.agg #[Value.bool g1,Value.slice a1 n1 c1,Value.slice b1 m1 d1]); rename_i x; exact Ext.call (Uh HS1 x.w) (fun e w' h => h))
  | (go_at_call_of 43 (Value.agg #[Value.bool g2,Value.slice a2 n2 c2,Value.slice b2 m2 d2]); rename_i x; exact Ext.call (Uh HS2 x.w) (fun e w' h => h))))
 refine wpQuiet_nil ?_
 rintro _ ⟨xE,rfl⟩
 have HBE:=Hd xE.bel
 have r0:=xE.cell p0
 have r1:=xE.cell p1
 have r2:=xE.cell p2
 have s0:=xE.cell q0
 have s1:=xE.cell q1
 have s2:=xE.cell q2
 clear F0 F1 F2 G0 G1 G2 hNE p0 p1 p2 q0 q1 q2
 by_cases t1:X < Y
 ·have HR3:=Hd (show R = -1 by rw [← Uh HR,if_pos t1])
  clear HR
  go_wp2_with fail
  go_ret
  rw [Uh HR3]
  exact ⟨rfl,(Uh HBB).trans ((Uh HBE).mono (Uh HBB).size)⟩
 ·by_cases t2:Y < X
  ·have HR3:=Hd (show R = 1 by rw [← Uh HR,if_neg t1,if_pos t2])
   clear HR
   go_wp2_with fail
   go_ret
   rw [Uh HR3]
   exact ⟨rfl,(Uh HBB).trans ((Uh HBE).mono (Uh HBB).size)⟩
  ·have hXY:X = Y:=by omega
   cases g1
   ·have KS:=Hd (Uh HC1 xE.w (Uh HBE) (Uh HSz hXY))
    have HR3:=Hd (show R = cmpN (val x1 * val y2) (val x2 * val y1) by rw [← Uh HR,if_neg t1,if_neg t2]; rfl)
    clear HR HSz HSz2 HC1 HC2 HS1 HS2 hXY
    go_wp2_with fail
    refine (Uh KS).mono ?_
    rintro _ wz ⟨rfl,hbz⟩
    have HBz:=Hd ((Uh HBE).trans (hbz.mono (Uh HBE).size))
    clear hbz KS
    go_wp2_with fail
    go_ret
    rw [Uh HR3]
    exact ⟨rfl,(Uh HBB).trans ((Uh HBz).mono (Uh HBB).size)⟩
   ·have KS:=Hd (Uh HC2 xE.w (Uh HBE) (Uh HSz2 hXY.symm))
    have HR3:=Hd (show R = cmpN (val x2 * val y1) (val x1 * val y2) by rw [← Uh HR,if_neg t1,if_neg t2]; rfl)
    clear HR HSz HSz2 HC1 HC2 HS1 HS2 hXY
    go_wp2_with fail
    refine (Uh KS).mono ?_
    rintro _ wz ⟨rfl,hbz⟩
    have HBz:=Hd ((Uh HBE).trans (hbz.mono (Uh HBE).size))
    clear hbz KS
    go_wp2_with fail
    go_ret
    rw [Uh HR3]
    exact ⟨rfl,(Uh HBB).trans ((Uh HBz).mono (Uh HBB).size)⟩
def CmpF (g1:Bool) (x1 y1:List Nat) (g2:Bool) (x2 y2:List Nat):Int:=if MayR g1 x1 y1 && MayR g2 x2 y2 then cmpR g1 x1 y1 g2 x2 y2 else 0
set_option maxHeartbeats 8000000 in
set_option maxRecDepth 100000 in
theorem ratCmp_any (g1 g2:Bool) (a1 b1 a2 b2:Option Addr) (n1 c1 m1 d1 n2 c2 m2 d2:Nat) (x1 y1 x2 y2:List Nat) (w:World) (hx1:Sl w a1 n1 c1 x1) (hy1:Sl w b1 m1 d1 y1) (hx2:Sl w a2 n2 c2 x2) (hy2:Sl w b2 m2 d2 y2) (ox1:Ok x1) (oy1:Ok y1) (ox2:Ok x2) (oy2:Ok y2) (hT:Tab64 w) :
  Calls Tryz.prog 13 #[ratV g1 a1 n1 c1 b1 m1 d1,ratV g2 a2 n2 c2 b2 m2 d2] w fun e w' => e = .returned (.int .i64 (CmpF g1 x1 y1 g2 x2 y2)) ∧ Below w.heap.size w w':=by
 have bx:=Box.made w g1 a1 n1 c1 b1 m1 d1
 obtain ⟨wa,hwa⟩:∃ wa,ratBox w g1 a1 n1 c1 b1 m1 d1 = wa:=⟨_,rfl⟩
 rw [hwa] at bx
 have by_:=Box.made wa g2 a2 n2 c2 b2 m2 d2
 obtain ⟨wb,hwb⟩:∃ wb,ratBox wa g2 a2 n2 c2 b2 m2 d2 = wb:=⟨_,rfl⟩
 rw [hwb] at by_
 have hba:Below w.heap.size w wa:=by rw [← hwa]; exact bAl
 have hbb:Below wa.heap.size wa wb:=by rw [← hwb]; exact bAl
 have bx2:=bx.keep hbb
 have hB:=hba.trans (hbb.mono hba.size)
 unfold ratBox at hwa hwb
 have p0:=bx2.d0
 have p1:=bx2.d1
 have p2:=bx2.d2
 have q0:=by_.d0
 have q1:=by_.d1
 have q2:=by_.d2
 have HM1:=Hd (fun (W:World) (hb:Below wb.heap.size wb W) => ratMay_any g1 a1 b1 n1 c1 m1 d1 x1 y1 W ((hx1.below hB).below hb) ((hy1.below hB).below hb) ox1 oy1 ((hT.below hB).below hb))
 have HM2:=Hd (fun (W:World) (hb:Below wb.heap.size wb W) => ratMay_any g2 a2 b2 n2 c2 m2 d2 x2 y2 W ((hx2.below hB).below hb) ((hy2.below hB).below hb) ox2 oy2 ((hT.below hB).below hb))
 have HC:=Hd (fun (W:World) (hb:Below wb.heap.size wb W) h1 h2 => ratcompare_any g1 g2 a1 b1 a2 b2 n1 c1 m1 d1 n2 c2 m2 d2 x1 y1 x2 y2 W ((hx1.below hB).below hb) ((hy1.below hB).below hb) ((hx2.below hB).below hb) ((hy2.below hB).below hb) ox1 oy1 ox2 oy2 h1 h2)
 have HBx:=Hd (And.intro bx2 by_)
 have HBB:=Hd hB
 obtain ⟨R,hR⟩:∃ R,CmpF g1 x1 y1 g2 x2 y2 = R:=⟨_,rfl⟩
 have HR:=Hd hR
 rw [hR]
 unfold CmpF at HR
 unfold ratV at HM1 HM2 HC ⊢
 clear bx bx2 by_ hba hbb hB hx1 hy1 hx2 hy2 hT hR
 cases k1:MayR g1 x1 y1
 ·have HR3:=Hd (show R = 0 by rw [← Uh HR,k1]; rfl)
  have KM:=Hd (Uh HM1 wb (Below.refl _ _))
  rw [k1] at KM
  clear HR HM1 HM2 HC k1
  go_enter Tryz.func13,Tryz.ntmps13
  go_wp2_with fail
  refine (Uh KM).mono ?_
  rintro _ wc ⟨rfl,hbc⟩
  have HF:=Hd ((Uh HBB).trans (hbc.mono (Uh HBB).size))
  clear hbc KM
  go_wp2_with fail
  go_ret
  rw [Uh HR3]
  exact ⟨rfl,Uh HF⟩
 ·have KM:=Hd (Uh HM1 wb (Below.refl _ _))
  rw [k1] at KM
  cases k2:MayR g2 x2 y2
  ·have HR3:=Hd (show R = 0 by rw [← Uh HR,k1,k2]; rfl)
   have HM:=Hd (fun W hb => (by have K:=Uh HM2 W hb; rw [k2] at K; exact K:Calls Tryz.prog 7 #[.agg #[.bool g2,.slice a2 n2 c2,.slice b2 m2 d2]] W fun e w' => e = .returned (.bool false) ∧ Below W.heap.size W w'))
   clear HR HM1 HM2 HC k1 k2
   go_enter Tryz.func13,Tryz.ntmps13
   go_wp2_with fail
   refine (Uh KM).mono ?_
   rintro _ wc ⟨rfl,hbc⟩
   have b2:=(Uh HBx).2.keep hbc
   have r0:=b2.d0
   have r1:=b2.d1
   have r2:=b2.d2
   have KM2:=Hd (Uh HM wc hbc)
   have HBc:=Hd hbc
   clear hbc KM b2 HM p0 p1 p2 q0 q1 q2
   go_wp2_with fail
   refine (Uh KM2).mono ?_
   rintro _ wd ⟨rfl,hbd⟩
   have h9:=(Uh HBc).trans (hbd.mono (Uh HBc).size)
   have HF:=Hd ((Uh HBB).trans (h9.mono (Uh HBB).size))
   clear hbd KM2 h9
   go_wp2_with fail
   go_ret
   rw [Uh HR3]
   exact ⟨rfl,Uh HF⟩
  ·have HR3:=Hd (show R = cmpR g1 x1 y1 g2 x2 y2 by rw [← Uh HR,k1,k2]; rfl)
   have HM:=Hd (fun W hb => (by have K:=Uh HM2 W hb; rw [k2] at K; exact K:Calls Tryz.prog 7 #[.agg #[.bool g2,.slice a2 n2 c2,.slice b2 m2 d2]] W fun e w' => e = .returned (.bool true) ∧ Below W.heap.size W w'))
   have HCC:=Hd (fun W hb => Uh HC W hb k1 k2)
   clear HR HM1 HM2 HC k1 k2
   go_enter Tryz.func13,Tryz.ntmps13
   go_wp2_with fail
   refine (Uh KM).mono ?_
   rintro _ wc ⟨rfl,hbc⟩
   have b2:=(Uh HBx).2.keep hbc
   have b1_:=(Uh HBx).1.keep hbc
   have r0:=b2.d0
   have r1:=b2.d1
   have r2:=b2.d2
   have KM2:=Hd (Uh HM wc hbc)
   have HBc:=Hd hbc
   have HB2:=Hd (And.intro b1_ b2)
   clear hbc KM b2 b1_ HM p0 p1 p2 q0 q1 q2
   go_wp2_with fail
   refine (Uh KM2).mono ?_
   rintro _ wd ⟨rfl,hbd⟩
   have b3:=(Uh HB2).1.keep hbd
   have b4:=(Uh HB2).2.keep hbd
   have u0:=b3.d0
   have u1:=b3.d1
   have u2:=b3.d2
   have v0:=b4.d0
   have v1:=b4.d1
   have v2:=b4.d2
   have h9:=(Uh HBc).trans (hbd.mono (Uh HBc).size)
   have KC:=Hd (Uh HCC wd h9)
   have HD:=Hd h9
   clear hbd KM2 h9 b3 b4 HCC r0 r1 r2
   go_wp2_with fail
   refine (Uh KC).mono ?_
   rintro _ we ⟨rfl,hbe⟩
   have h9:=(Uh HD).trans (hbe.mono (Uh HD).size)
   have HF:=Hd ((Uh HBB).trans (h9.mono (Uh HBB).size))
   clear hbe KC h9
   go_wp2_with fail
   go_ret
   rw [Uh HR3]
   exact ⟨rfl,Uh HF⟩
def AnPost (w w':World) (neg:Bool) (a1:Option Addr) (n1 c1:Nat) (a2:Option Addr) (n2 c2:Nat) (er:Int) (e:Ending):Prop :=
 e = .returned (.tuple #[if er = 0 then ratV (neg && decide (0 < n1)) a1 n1 c1 a2 n2 c2 else ratV false none 0 0 none 0 0,.int .i64 er]) ∧ Below w.heap.size w w'

set_option maxHeartbeats 8000000 in
theorem answer_any (neg:Bool) (a1 a2:Option Addr) (n1 c1 n2 c2:Nat) (er:Int) (w:World) :
  Calls Tryz.prog 142 #[.bool neg,.slice a1 n1 c1,.slice a2 n2 c2,.int .i64 er] w fun e w' => AnPost w w' neg a1 n1 c1 a2 n2 c2 er e:=by
 obtain ⟨wb,hwb⟩:∃ wb,w.alloc (.cells #[.bool false,.slice none 0 0,.slice none 0 0] 25) = wb:=⟨_,rfl⟩
 have hbb:Below w.heap.size w wb:=by rw [← hwb]; exact bAl
 have hO:Out wb w.heap.size:=by rw [← hwb]; exact Out.made w
 have HO:=Hd hO
 have HB:=Hd hbb
 clear hbb
 by_cases he:er = 0
 ·subst he
  clear hO
  go_enter Tryz.func142,Tryz.ntmps142
  go_wp2_with fail
  refine (signed_any neg a1 a2 n1 c1 n2 c2 wb).mono ?_
  rintro _ w2 ⟨rfl,b2⟩
  have hO3:=(Uh HO).keep b2
  obtain ⟨x0,q0⟩:=hO3.cells 0 (by decide)
  obtain ⟨x1,q1⟩:=hO3.cells 1 (by decide)
  obtain ⟨x2,q2⟩:=hO3.cells 2 (by decide)
  have r0:=hO3.fz 0 (by decide)
  have r1:=hO3.fz 1 (by decide)
  have r2:=hO3.fz 2 (by decide)
  obtain ⟨SG,hSG⟩:∃ SG,(neg && decide (0 < n1)) = SG:=⟨_,rfl⟩
  rw [hSG]
  have HSG:=Hd hSG
  have H4:=Hd (three_set w2 w.heap.size (.bool SG) (.slice a1 n1 c1) (.slice a2 n2 c2) hO3.cells)
  have HB2:=Hd ((Uh HB).trans (b2.mono (Uh HB).size))
  unfold ratV
  clear hO3 b2 hSG
  go_wp2_with fail
  obtain ⟨p0,p1,p2,c4⟩:=Uh H4
  generalize ((w2.setCell ⟨w.heap.size,0,none⟩ (.bool SG)).setCell ⟨w.heap.size,1,none⟩ (.slice a1 n1 c1)).setCell ⟨w.heap.size,2,none⟩ (.slice a2 n2 c2) = wf at *
  refine bodyPost_ret (by simp [results,Tryz.results142,go_sem,p0,p1,p2]; try rfl) rfl ?_
  refine ⟨?_,(Uh HB2).trans (c4.below (Uh HB2).size (fun k hk => by omega))⟩
  rw [if_pos rfl,Uh HSG]
  rfl
 ·have t1:(er == 0) = false:=by simpa using he
  have t2:(er != 0) = true:=by simpa using he
  obtain ⟨x0,q0⟩:=hO.cells 0 (by decide)
  obtain ⟨x1,q1⟩:=hO.cells 1 (by decide)
  obtain ⟨x2,q2⟩:=hO.cells 2 (by decide)
  have r0:=hO.fz 0 (by decide)
  have r1:=hO.fz 1 (by decide)
  have r2:=hO.fz 2 (by decide)
  have H4:=Hd (three_set wb w.heap.size (.bool false) (.slice none 0 0) (.slice none 0 0) hO.cells)
  clear hO
  go_enter Tryz.func142,Tryz.ntmps142
  go_wp2_with fail
  obtain ⟨p0,p1,p2,c4⟩:=Uh H4
  generalize ((wb.setCell ⟨w.heap.size,0,none⟩ (.bool false)).setCell ⟨w.heap.size,1,none⟩ (.slice none 0 0)).setCell ⟨w.heap.size,2,none⟩ (.slice none 0 0) = wf at *
  refine bodyPost_ret (by simp [results,Tryz.results142,go_sem,p0,p1,p2]; try rfl) rfl ?_
  refine ⟨?_,(Uh HB).trans (c4.below (Uh HB).size (fun k hk => by omega))⟩
  rw [if_neg he]
  rfl
def mulN (x1 y1 x2 y2:List Nat):Nat:=(val x1 / Nat.gcd (val x1) (val y2)) * (val x2 / Nat.gcd (val x2) (val y1))
def mulD (x1 y1 x2 y2:List Nat):Nat:=(val y1 / Nat.gcd (val x2) (val y1)) * (val y2 / Nat.gcd (val x1) (val y2))
def bigN (v:Nat):Bool:=decide (2048 < (limbs v).length)
def MuPost (w w':World) (sg:Bool) (N M:Nat) (e:Ending):Prop:=if bigN N || bigN M then ResR w w' false [] [] 2 e else ResR w w' (sg && decide (N ≠ 0)) (limbs N) (limbs M) 0 e

set_option maxHeartbeats 8000000 in
set_option maxRecDepth 100000 in
theorem ratmultiply_any (g1 g2:Bool) (a1 b1 a2 b2:Option Addr) (n1 c1 m1 d1 n2 c2 m2 d2:Nat) (x1 y1 x2 y2:List Nat) (w:World) (hx1:Sl w a1 n1 c1 x1) (hy1:Sl w b1 m1 d1 y1) (hx2:Sl w a2 n2 c2 x2) (hy2:Sl w b2 m2 d2 y2) (ox1:Ok x1) (oy1:Ok y1) (ox2:Ok x2) (oy2:Ok y2) (kx1:MayL x1 = true) (ky1:MayL y1 = true) (kx2:MayL x2 = true) (ky2:MayL y2 = true) (ey1:y1 ≠ []) (ey2:y2 ≠ []) (hT:Tab64 w) :
  Calls Tryz.prog 115 #[ratV g1 a1 n1 c1 b1 m1 d1,ratV g2 a2 n2 c2 b2 m2 d2] w fun e w' => MuPost w w' (g1 != g2) (mulN x1 y1 x2 y2) (mulD x1 y1 x2 y2) e:=by
 have bx:=Box.made w g1 a1 n1 c1 b1 m1 d1
 obtain ⟨wa,hwa⟩:∃ wa,ratBox w g1 a1 n1 c1 b1 m1 d1 = wa:=⟨_,rfl⟩
 rw [hwa] at bx
 have by_:=Box.made wa g2 a2 n2 c2 b2 m2 d2
 obtain ⟨wb,hwb⟩:∃ wb,ratBox wa g2 a2 n2 c2 b2 m2 d2 = wb:=⟨_,rfl⟩
 rw [hwb] at by_
 obtain ⟨wo,hwo⟩:∃ x,wb.alloc (.cells #[.bool false,.slice none 0 0,.slice none 0 0] 25) = x:=⟨_,rfl⟩
 have hba:Below w.heap.size w wa:=by rw [← hwa]; exact bAl
 have hbb:Below wa.heap.size wa wb:=by rw [← hwb]; exact bAl
 have hbo:Below wb.heap.size wb wo:=by rw [← hwo]; exact bAl
 have hO:Out wo wb.heap.size:=by rw [← hwo]; exact Out.made wb
 have bx2:=(bx.keep hbb).keep hbo
 have by2:=by_.keep hbo
 have hB:=(hba.trans (hbb.mono hba.size)).trans (hbo.mono (Nat.le_trans hba.size hbb.size))
 have Hwb:=Hd (show w.heap.size ≤ wb.heap.size from Nat.le_trans hba.size hbb.size)
 unfold ratBox at hwa hwb
 have p0:=bx2.d0
 have p1:=bx2.d1
 have p2:=bx2.d2
 have p3:=by2.d0
 have p4:=by2.d1
 have p5:=by2.d2
 have vy1:=val_pos_of_may ky1 ey1
 have vy2:=val_pos_of_may ky2 ey2
 have HKD1:=Hd (fun (W:World) (hb:Below wo.heap.size wo W) => ratDivisor_any a1 b2 n1 c1 m2 d2 x1 y2 W ((hx1.below hB).below hb) ((hy2.below hB).below hb) ox1 oy2 kx1 ky2 ((hT.below hB).below hb))
 have HKD2:=Hd (fun (W:World) (hb:Below wo.heap.size wo W) => ratDivisor_any a2 b1 n2 c2 m1 d1 x2 y1 W ((hx2.below hB).below hb) ((hy1.below hB).below hb) ox2 oy1 kx2 ky1 ((hT.below hB).below hb))
 obtain ⟨N,hN⟩:∃ N,mulN x1 y1 x2 y2 = N:=⟨_,rfl⟩
 obtain ⟨M,hM⟩:∃ M,mulD x1 y1 x2 y2 = M:=⟨_,rfl⟩
 rw [hN,hM]
 have HhN:=Hd hN
 have HhM:=Hd hM
 clear hN hM
 unfold ratV
 go_enter Tryz.func115,Tryz.ntmps115
 go_wp2_with fail
 go_region_held3 (fun w' => w'.cell? ⟨w.heap.size,0,none⟩ = some (.bool g1) ∧ w'.cell? ⟨w.heap.size,1,none⟩ = some (.slice a1 n1 c1) ∧ w'.cell? ⟨w.heap.size,2,none⟩ = some (.slice b1 m1 d1) ∧ w'.cell? ⟨wa.heap.size,0,none⟩ = some (.bool g2) ∧ w'.cell? ⟨wa.heap.size,1,none⟩ = some (.slice a2 n2 c2) ∧ w'.cell? ⟨wa.heap.size,2,none⟩ = some (.slice b2 m2 d2)) (first | go_keep | (exact ⟨k0,k1,k2,k3,k4,k5⟩) | (exact ⟨j0,j1,j2,j3,j4,j5⟩))
  (first
   | (go_at_call_of 37 (Value.slice a1 n1 c1); refine (Uh HKD1 _ (Below.refl _ _).drew).mono ?_; rintro _ wc ⟨aC,mC,cC,rfl,sC,nC,bC⟩; have hbc:Below wo.heap.size wo wc:=(Below.refl _ _).drew.trans bC; have k0:=(ck hbc p0); have k1:=(ck hbc p1); have k2:=(ck hbc p2); have k3:=(ck hbc p3); have k4:=(ck hbc p4); have k5:=(ck hbc p5); have HC:=Hd (And.intro sC hbc); clear sC nC bC hbc)
   | (go_at_call_of 37 (Value.slice a2 n2 c2); refine (Uh HKD2 _ (Uh HC).2).mono ?_; rintro _ wd ⟨aD,mD,cD,rfl,sD,nD,bD⟩; have j0:=(ck bD k0); have j1:=(ck bD k1); have j2:=(ck bD k2); have j3:=(ck bD k3); have j4:=(ck bD k4); have j5:=(ck bD k5); have HD:=Hd (And.intro ((Uh HC).1.below bD) (And.intro sD ((Uh HC).2.trans (bD.mono (Uh HC).2.size)))); clear sD nD bD HC))
 have hGC:0 < Nat.gcd (val x1) (val y2):=Nat.gcd_pos_of_pos_right _ vy2
 have hGD:0 < Nat.gcd (val x2) (val y1):=Nat.gcd_pos_of_pos_right _ vy1
 have mC1:MayL (limbs (Nat.gcd (val x1) (val y2))) = true:=may_small ky2 oy2 (Nat.gcd_le_right _ vy2)
 have mD1:MayL (limbs (Nat.gcd (val x2) (val y1))) = true:=may_small ky1 oy1 (Nat.gcd_le_right _ vy1)
 have HN:=Hd (show mulN x1 y1 x2 y2 = (val x1 / Nat.gcd (val x1) (val y2)) * (val x2 / Nat.gcd (val x2) (val y1)) from rfl)
 have HMd:=Hd (show mulD x1 y1 x2 y2 = (val y1 / Nat.gcd (val x2) (val y1)) * (val y2 / Nat.gcd (val x1) (val y2)) from rfl)
 obtain ⟨C,hC⟩:∃ C,Nat.gcd (val x1) (val y2) = C:=⟨_,rfl⟩
 obtain ⟨D,hD⟩:∃ D,Nat.gcd (val x2) (val y1) = D:=⟨_,rfl⟩
 rw [hC] at HD hGC mC1 HN HMd
 rw [hD] at HD hGD mD1 HN HMd
 obtain ⟨sC,sD,hbd⟩:=Uh HD
 have nzC:limbs C ≠ []:=fun h => by have:=(limbs_rep C).val; rw [h] at this; simp [val] at this; omega
 have nzD:limbs D ≠ []:=fun h => by have:=(limbs_rep D).val; rw [h] at this; simp [val] at this; omega
 have HBd:=Hd hbd
 have hBd:=hB.trans (hbd.mono hB.size)
 have HQ1:=Hd (fun (W:World) (hb:Below wd.heap.size wd W) => (by have K:=ratQuotient_any a1 aC n1 c1 mC cC x1 (limbs C) W ((hx1.below hBd).below hb) (sC.below hb) ox1 (limbs_rep C).ok kx1 mC1 nzC; rw [(limbs_rep C).val] at K; exact K:Calls Tryz.prog 56 #[.slice a1 n1 c1,.slice aC mC cC] W fun e w' => OldN W w' a1 n1 c1 (val x1 / C) e))
 have HQ2:=Hd (fun (W:World) (hb:Below wd.heap.size wd W) => (by have K:=ratQuotient_any a2 aD n2 c2 mD cD x2 (limbs D) W ((hx2.below hBd).below hb) (sD.below hb) ox2 (limbs_rep D).ok kx2 mD1 nzD; rw [(limbs_rep D).val] at K; exact K:Calls Tryz.prog 56 #[.slice a2 n2 c2,.slice aD mD cD] W fun e w' => OldN W w' a2 n2 c2 (val x2 / D) e))
 have HQ3:=Hd (fun (W:World) (hb:Below wd.heap.size wd W) => (by have K:=ratQuotient_any b1 aD m1 d1 mD cD y1 (limbs D) W ((hy1.below hBd).below hb) (sD.below hb) oy1 (limbs_rep D).ok ky1 mD1 nzD; rw [(limbs_rep D).val] at K; exact K:Calls Tryz.prog 56 #[.slice b1 m1 d1,.slice aD mD cD] W fun e w' => OldN W w' b1 m1 d1 (val y1 / D) e))
 have HQ4:=Hd (fun (W:World) (hb:Below wd.heap.size wd W) => (by have K:=ratQuotient_any b2 aC m2 d2 mC cC y2 (limbs C) W ((hy2.below hBd).below hb) (sC.below hb) oy2 (limbs_rep C).ok ky2 mC1 nzC; rw [(limbs_rep C).val] at K; exact K:Calls Tryz.prog 56 #[.slice b2 m2 d2,.slice aC mC cC] W fun e w' => OldN W w' b2 m2 d2 (val y2 / C) e))
 have yq1:MayL (limbs (val x1 / C)) = true:=may_div kx1 ox1 _
 have yq2:MayL (limbs (val x2 / D)) = true:=may_div kx2 ox2 _
 have yq3:MayL (limbs (val y1 / D)) = true:=may_div ky1 oy1 _
 have yq4:MayL (limbs (val y2 / C)) = true:=may_div ky2 oy2 _
 have fN:mulL (limbs (val x1 / C)) (limbs (val x2 / D)) = fitL (mulN x1 y1 x2 y2):=by unfold mulL; rw [yq1,yq2,(limbs_rep _).val,(limbs_rep _).val,Uh HN]; rfl
 have fM:mulL (limbs (val y1 / D)) (limbs (val y2 / C)) = fitL (mulD x1 y1 x2 y2):=by unfold mulL; rw [yq3,yq4,(limbs_rep _).val,(limbs_rep _).val,Uh HMd]; rfl
 rw [Uh HhN] at fN
 rw [Uh HhM] at fM
 have HfN:=Hd fN
 have HfM:=Hd fM
 have HO:=Hd (hO.keep hbd)
 have HBw:=Hd hBd
 obtain ⟨Q1,hQ1⟩:∃ Q,val x1 / C = Q:=⟨_,rfl⟩
 obtain ⟨Q2,hQ2⟩:∃ Q,val x2 / D = Q:=⟨_,rfl⟩
 obtain ⟨Q3,hQ3⟩:∃ Q,val y1 / D = Q:=⟨_,rfl⟩
 obtain ⟨Q4,hQ4⟩:∃ Q,val y2 / C = Q:=⟨_,rfl⟩
 rw [hQ1] at HQ1 HfN
 rw [hQ2] at HQ2 HfN
 rw [hQ3] at HQ3 HfM
 rw [hQ4] at HQ4 HfM
 clear hGC hGD mC1 mD1 HN HMd hC hD sC sD hbd nzC nzD hBd yq1 yq2 yq3 yq4 fN fM HhN HhM hQ1 hQ2 hQ3 hQ4 HD HKD1 HKD2 hx1 hy1 hx2 hy2 hT kx1 ky1 kx2 ky2 ey1 ey2 vy1 vy2 ox1 oy1 ox2 oy2 bx bx2 by_ by2 hba hbb hbo hB hO hwa hwb hwo p0 p1 p2 p3 p4 p5 k0 k1 k2 k3 k4 k5
 go_wp2_with fail
 go_region_held3 (fun w' => w'.cell? ⟨w.heap.size,0,none⟩ = some (.bool g1) ∧ w'.cell? ⟨w.heap.size,1,none⟩ = some (.slice a1 n1 c1) ∧ w'.cell? ⟨w.heap.size,2,none⟩ = some (.slice b1 m1 d1) ∧ w'.cell? ⟨wa.heap.size,0,none⟩ = some (.bool g2) ∧ w'.cell? ⟨wa.heap.size,1,none⟩ = some (.slice a2 n2 c2) ∧ w'.cell? ⟨wa.heap.size,2,none⟩ = some (.slice b2 m2 d2)) (first | go_keep | (exact ⟨e0,e1,e2,e3,e4,e5⟩) | (exact ⟨f0,f1,f2,f3,f4,f5⟩) | (exact ⟨q0,q1,q2,q3,q4,q5⟩))
  (first
   | (go_at_call_of 56 (Value.slice a1 n1 c1); refine (Uh HQ1 _ ((Below.refl wd.heap.size wd).drew)).mono ?_; rintro _ we ⟨ae,me,ce,rfl,sE,oE,bE⟩; have hbe:Below wd.heap.size wd we:=(Below.refl _ _).drew.trans bE; have e0:=(ck hbe j0); have e1:=(ck hbe j1); have e2:=(ck hbe j2); have e3:=(ck hbe j3); have e4:=(ck hbe j4); have e5:=(ck hbe j5); have He:=Hd (And.intro sE hbe); clear sE oE bE hbe)
   | (go_at_call_of 56 (Value.slice a2 n2 c2); refine (Uh HQ2 _ ((Below.refl wd.heap.size wd).trans ((Uh He).2.mono (Below.refl wd.heap.size wd).size))).mono ?_; rintro _ wf ⟨af,mf,cf,rfl,sF_,oF,bF⟩; have f0:=(ck bF e0); have f1:=(ck bF e1); have f2:=(ck bF e2); have f3:=(ck bF e3); have f4:=(ck bF e4); have f5:=(ck bF e5); have KM:=nmul_any ae af me ce mf cf (limbs Q1) (limbs Q2) wf ((Uh He).1.below bF) sF_ (limbs_rep _).ok (limbs_rep _).ok; rw [Uh HfN] at KM; have HKMf:=Hd KM; have Hf:=Hd ((Uh He).2.trans (bF.mono (Uh He).2.size)); clear sF_ oF bF KM)
   | (go_at_call 65; refine (Uh HKMf).mono ?_; rintro _ wq ⟨aq,mq,cq,rfl,sN,nN,bN⟩; have q0:=(ck bN f0); have q1:=(ck bN f1); have q2:=(ck bN f2); have q3:=(ck bN f3); have q4:=(ck bN f4); have q5:=(ck bN f5); have Hq:=Hd (And.intro sN (And.intro nN ((Uh Hf).trans (bN.mono (Uh Hf).size)))); have Hsq:=Hd (Uh Hf).size; clear sN nN bN))
 clear j0 j1 j2 j3 j4 j5 e0 e1 e2 e3 e4 e5 f0 f1 f2 f3 f4 f5 He Hf HKMf HQ1 HQ2
 go_wp2_with fail
 go_region_held3 (fun w' => w'.cell? ⟨w.heap.size,0,none⟩ = some (.bool g1) ∧ w'.cell? ⟨w.heap.size,1,none⟩ = some (.slice a1 n1 c1) ∧ w'.cell? ⟨w.heap.size,2,none⟩ = some (.slice b1 m1 d1) ∧ w'.cell? ⟨wa.heap.size,0,none⟩ = some (.bool g2) ∧ w'.cell? ⟨wa.heap.size,1,none⟩ = some (.slice a2 n2 c2) ∧ w'.cell? ⟨wa.heap.size,2,none⟩ = some (.slice b2 m2 d2)) (first | go_keep | (exact ⟨u0,u1,u2,u3,u4,u5⟩) | (exact ⟨v0,v1,v2,v3,v4,v5⟩) | (exact ⟨z0,z1,z2,z3,z4,z5⟩))
  (first
   | (go_at_call_of 56 (Value.slice b1 m1 d1); refine (Uh HQ3 _ ((Uh Hq).2.2.drew)).mono ?_; rintro _ wu ⟨au,mu,cu,rfl,sE,oE,bE⟩; have hbe:Below wq.heap.size wq wu:=(Below.refl _ _).drew.trans bE; have u0:=(ck hbe q0); have u1:=(ck hbe q1); have u2:=(ck hbe q2); have u3:=(ck hbe q3); have u4:=(ck hbe q4); have u5:=(ck hbe q5); have Hu:=Hd (And.intro sE hbe); clear sE oE bE hbe)
   | (go_at_call_of 56 (Value.slice b2 m2 d2); refine (Uh HQ4 _ ((Uh Hq).2.2.trans ((Uh Hu).2.mono (Uh Hq).2.2.size))).mono ?_; rintro _ wv ⟨av,mv,cv,rfl,sF_,oF,bF⟩; have v0:=(ck bF u0); have v1:=(ck bF u1); have v2:=(ck bF u2); have v3:=(ck bF u3); have v4:=(ck bF u4); have v5:=(ck bF u5); have KM:=nmul_any au av mu cu mv cv (limbs Q3) (limbs Q4) wv ((Uh Hu).1.below bF) sF_ (limbs_rep _).ok (limbs_rep _).ok; rw [Uh HfM] at KM; have HKMv:=Hd KM; have Hv:=Hd ((Uh Hu).2.trans (bF.mono (Uh Hu).2.size)); clear sF_ oF bF KM)
   | (go_at_call 65; refine (Uh HKMv).mono ?_; rintro _ wz ⟨az,mz,cz,rfl,sN,nN,bN⟩; have z0:=(ck bN v0); have z1:=(ck bN v1); have z2:=(ck bN v2); have z3:=(ck bN v3); have z4:=(ck bN v4); have z5:=(ck bN v5); have Hz:=Hd (And.intro sN (And.intro nN ((Uh Hv).trans (bN.mono (Uh Hv).size)))); have Hsz:=Hd (Uh Hv).size; clear sN nN bN))
 have hwq:w.heap.size ≤ wf.heap.size:=Nat.le_trans (Uh HBw).size (Uh Hsq)
 have hbz:Below wq.heap.size wq wz:=(Uh Hz).2.2
 have hwz:w.heap.size ≤ wv.heap.size:=Nat.le_trans (Nat.le_trans (Uh HBw).size (Uh Hq).2.2.size) (Uh Hsz)
 have hBz:=(Uh HBw).trans (((Uh Hq).2.2.trans (hbz.mono (Uh Hq).2.2.size)).mono (Uh HBw).size)
 have hO2:=((Uh HO).keep (Uh Hq).2.2).keep hbz
 obtain ⟨oc,hoc⟩:=(Uh HO).cells 0 (by decide)
 have hwb9:wb.heap.size < wd.heap.size:=World.block_lt_of_cell? _ _ hoc
 have HY:=Hd (And.intro (fun x hx => by have h1:=(Uh Hq).2.1 x hx; have h2:=Uh Hsq; omega:∀ x,aq = some x → x.block ≠ wb.heap.size) (fun x hx => by have h1:=(Uh Hz).2.1 x hx; have h2:=Uh Hsz; have h3:=(Uh Hq).2.2.size; omega:∀ x,az = some x → x.block ≠ wb.heap.size))
 have HX:=Hd (And.intro ((Uh Hq).1.below hbz) (And.intro (Uh Hz).1 (And.intro (fun x hx => Nat.le_trans hwq ((Uh Hq).2.1 x hx):NewAt w.heap.size aq) (And.intro (fun x hx => Nat.le_trans hwz ((Uh Hz).2.1 x hx):NewAt w.heap.size az) (And.intro hBz hO2)))))
 clear q0 q1 q2 q3 q4 q5 u0 u1 u2 u3 u4 u5 v0 v1 v2 v3 v4 v5 Hu Hv HKMv HQ3 HQ4 hwq hbz hwz hBz hO2 hoc hwb9 Hq Hz Hsq Hsz HfN HfM HBd HBw HO
 cases hbN:bigN N
 ·have eN:fitL N = (limbs N,0):=fitL_ok (by unfold bigN at hbN; simpa using hbN)
  rw [eN] at HX ⊢
  cases hbM:bigN M
  ·have eM:fitL M = (limbs M,0):=fitL_ok (by unfold bigN at hbM; simpa using hbM)
   rw [eM] at HX ⊢
   dsimp only at HX ⊢
   clear eN eM
   have K:=answer_any (!(g1 == g2)) aq az mq cq mz cz 0 wz
   unfold AnPost at K
   rw [if_pos rfl] at K
   unfold ratV at K
   obtain ⟨SG,hSG⟩:∃ SG,((!(g1 == g2)) && decide (0 < mq)) = SG:=⟨_,rfl⟩
   rw [hSG] at K
   have HSG:=Hd hSG
   clear hSG
   have HK:=Hd K
   have HbN:=Hd hbN
   have HbM:=Hd hbM
   clear K hbN hbM
   go_wp2_with fail
   refine (Uh HK).mono ?_
   rintro _ wy ⟨rfl,hby⟩
   have hO3:=(Uh HX).2.2.2.2.2.keep hby
   obtain ⟨i0,o0⟩:=hO3.cells 0 (by decide)
   obtain ⟨i1,o1⟩:=hO3.cells 1 (by decide)
   obtain ⟨i2,o2⟩:=hO3.cells 2 (by decide)
   have r0:=hO3.fz 0 (by decide)
   have r1:=hO3.fz 1 (by decide)
   have r2:=hO3.fz 2 (by decide)
   have H4:=Hd (three_set wy wb.heap.size (.bool SG) (.slice aq mq cq) (.slice az mz cz) hO3.cells)
   have HBy:=Hd hby
   clear hO3 hby HK
   go_wp2_with fail
   obtain ⟨t0,t1,t2,c4⟩:=Uh H4
   generalize ((wy.setCell ⟨wb.heap.size,0,none⟩ (.bool SG)).setCell ⟨wb.heap.size,1,none⟩ (.slice aq mq cq)).setCell ⟨wb.heap.size,2,none⟩ (.slice az mz cz) = wk at *
   refine bodyPost_ret (by simp [results,Tryz.results115,go_sem,t0,t1,t2]; try rfl) rfl ?_
   unfold MuPost
   rw [Uh HbN,Uh HbM]
   have hBy:Below w.heap.size w wy:=(Uh HX).2.2.2.2.1.trans ((Uh HBy).mono (Uh HX).2.2.2.2.1.size)
   have hBk:Below w.heap.size w wk:=hBy.trans (c4.below hBy.size (fun k hk => by have:=Uh Hwb; omega))
   refine ⟨_,rfl,aq,mq,cq,az,mz,cz,?_,((Uh HX).1.below (Uh HBy)).chg c4 (fun x hx _ h => (Uh HY).1 x hx h),((Uh HX).2.1.below (Uh HBy)).chg c4 (fun x hx _ h => (Uh HY).2 x hx h),(Uh HX).2.2.1,(Uh HX).2.2.2.1,hBk⟩
   rw [← Uh HSG]
   show ratV _ aq mq cq az mz cz = ratV _ aq mq cq az mz cz
   refine ratV_congr ?_
   have hl:=(Uh HX).1.len
   have e:decide (0 < mq) = decide (N ≠ 0):=by
    rw [Bool.eq_iff_iff]
    simp only [decide_eq_true_eq]
    rw [← hl]
    constructor
    ·intro h h0
     rw [h0] at h
     exact absurd h (by decide)
    ·intro h
     rcases Nat.eq_zero_or_pos (limbs N).length with k | k
     ·exfalso
      have:=(limbs_rep N).val
      rw [List.length_eq_zero_iff.1 k] at this
      exact h this.symm
     ·exact k
   rw [e]
   rfl
  ·have eM:fitL M = ([],2):=fitL_big (by unfold bigN at hbM; simpa using hbM)
   rw [eM] at HX ⊢
   dsimp only at HX ⊢
   clear eN eM
   have K:=answer_any (!(g1 == g2)) aq az mq cq mz cz 2 wz
   unfold AnPost at K
   rw [if_neg (by decide)] at K
   unfold ratV at K
   have HK:=Hd K
   have HbN:=Hd hbN
   have HbM:=Hd hbM
   clear K hbN hbM
   go_wp2_with fail
   refine (Uh HK).mono ?_
   rintro _ wy ⟨rfl,hby⟩
   have hO3:=(Uh HX).2.2.2.2.2.keep hby
   obtain ⟨i0,o0⟩:=hO3.cells 0 (by decide)
   obtain ⟨i1,o1⟩:=hO3.cells 1 (by decide)
   obtain ⟨i2,o2⟩:=hO3.cells 2 (by decide)
   have r0:=hO3.fz 0 (by decide)
   have r1:=hO3.fz 1 (by decide)
   have r2:=hO3.fz 2 (by decide)
   have H4:=Hd (three_set wy wb.heap.size (.bool false) (.slice none 0 0) (.slice none 0 0) hO3.cells)
   have HBy:=Hd hby
   clear hO3 hby HK
   go_wp2_with fail
   obtain ⟨t0,t1,t2,c4⟩:=Uh H4
   generalize ((wy.setCell ⟨wb.heap.size,0,none⟩ (.bool false)).setCell ⟨wb.heap.size,1,none⟩ (.slice none 0 0)).setCell ⟨wb.heap.size,2,none⟩ (.slice none 0 0) = wk at *
   refine bodyPost_ret (by simp [results,Tryz.results115,go_sem,t0,t1,t2]; try rfl) rfl ?_
   unfold MuPost
   rw [Uh HbN,Uh HbM]
   have hBy:Below w.heap.size w wy:=(Uh HX).2.2.2.2.1.trans ((Uh HBy).mono (Uh HX).2.2.2.2.1.size)
   have hBk:Below w.heap.size w wk:=hBy.trans (c4.below hBy.size (fun k hk => by have:=Uh Hwb; omega))
   exact ⟨_,rfl,none,0,0,none,0,0,rfl,⟨rfl,Nat.le_refl _,Nat.zero_le _,.inl rfl⟩,⟨rfl,Nat.le_refl _,Nat.zero_le _,.inl rfl⟩,(fun x hx => by cases hx),(fun x hx => by cases hx),hBk⟩
 ·have eN:fitL N = ([],2):=fitL_big (by unfold bigN at hbN; simpa using hbN)
  rw [eN] at HX ⊢
  cases hbM:bigN M
  ·have eM:fitL M = (limbs M,0):=fitL_ok (by unfold bigN at hbM; simpa using hbM)
   rw [eM] at HX ⊢
   dsimp only at HX ⊢
   clear eN eM
   have K:=answer_any (!(g1 == g2)) aq az mq cq mz cz 2 wz
   unfold AnPost at K
   rw [if_neg (by decide)] at K
   unfold ratV at K
   have HK:=Hd K
   have HbN:=Hd hbN
   have HbM:=Hd hbM
   clear K hbN hbM
   go_wp2_with fail
   refine (Uh HK).mono ?_
   rintro _ wy ⟨rfl,hby⟩
   have hO3:=(Uh HX).2.2.2.2.2.keep hby
   obtain ⟨i0,o0⟩:=hO3.cells 0 (by decide)
   obtain ⟨i1,o1⟩:=hO3.cells 1 (by decide)
   obtain ⟨i2,o2⟩:=hO3.cells 2 (by decide)
   have r0:=hO3.fz 0 (by decide)
   have r1:=hO3.fz 1 (by decide)
   have r2:=hO3.fz 2 (by decide)
   have H4:=Hd (three_set wy wb.heap.size (.bool false) (.slice none 0 0) (.slice none 0 0) hO3.cells)
   have HBy:=Hd hby
   clear hO3 hby HK
   go_wp2_with fail
   obtain ⟨t0,t1,t2,c4⟩:=Uh H4
   generalize ((wy.setCell ⟨wb.heap.size,0,none⟩ (.bool false)).setCell ⟨wb.heap.size,1,none⟩ (.slice none 0 0)).setCell ⟨wb.heap.size,2,none⟩ (.slice none 0 0) = wk at *
   refine bodyPost_ret (by simp [results,Tryz.results115,go_sem,t0,t1,t2]; try rfl) rfl ?_
   unfold MuPost
   rw [Uh HbN,Uh HbM]
   have hBy:Below w.heap.size w wy:=(Uh HX).2.2.2.2.1.trans ((Uh HBy).mono (Uh HX).2.2.2.2.1.size)
   have hBk:Below w.heap.size w wk:=hBy.trans (c4.below hBy.size (fun k hk => by have:=Uh Hwb; omega))
   exact ⟨_,rfl,none,0,0,none,0,0,rfl,⟨rfl,Nat.le_refl _,Nat.zero_le _,.inl rfl⟩,⟨rfl,Nat.le_refl _,Nat.zero_le _,.inl rfl⟩,(fun x hx => by cases hx),(fun x hx => by cases hx),hBk⟩
  ·have eM:fitL M = ([],2):=fitL_big (by unfold bigN at hbM; simpa using hbM)
   rw [eM] at HX ⊢
   dsimp only at HX ⊢
   clear eN eM
   have K:=answer_any (!(g1 == g2)) aq az mq cq mz cz 2 wz
   unfold AnPost at K
   rw [if_neg (by decide)] at K
   unfold ratV at K
   have HK:=Hd K
   have HbN:=Hd hbN
   have HbM:=Hd hbM
   clear K hbN hbM
   go_wp2_with fail
   refine (Uh HK).mono ?_
   rintro _ wy ⟨rfl,hby⟩
   have hO3:=(Uh HX).2.2.2.2.2.keep hby
   obtain ⟨i0,o0⟩:=hO3.cells 0 (by decide)
   obtain ⟨i1,o1⟩:=hO3.cells 1 (by decide)
   obtain ⟨i2,o2⟩:=hO3.cells 2 (by decide)
   have r0:=hO3.fz 0 (by decide)
   have r1:=hO3.fz 1 (by decide)
   have r2:=hO3.fz 2 (by decide)
   have H4:=Hd (three_set wy wb.heap.size (.bool false) (.slice none 0 0) (.slice none 0 0) hO3.cells)
   have HBy:=Hd hby
   clear hO3 hby HK
   go_wp2_with fail
   obtain ⟨t0,t1,t2,c4⟩:=Uh H4
   generalize ((wy.setCell ⟨wb.heap.size,0,none⟩ (.bool false)).setCell ⟨wb.heap.size,1,none⟩ (.slice none 0 0)).setCell ⟨wb.heap.size,2,none⟩ (.slice none 0 0) = wk at *
   refine bodyPost_ret (by simp [results,Tryz.results115,go_sem,t0,t1,t2]; try rfl) rfl ?_
   unfold MuPost
   rw [Uh HbN,Uh HbM]
   have hBy:Below w.heap.size w wy:=(Uh HX).2.2.2.2.1.trans ((Uh HBy).mono (Uh HX).2.2.2.2.1.size)
   have hBk:Below w.heap.size w wk:=hBy.trans (c4.below hBy.size (fun k hk => by have:=Uh Hwb; omega))
   exact ⟨_,rfl,none,0,0,none,0,0,rfl,⟨rfl,Nat.le_refl _,Nat.zero_le _,.inl rfl⟩,⟨rfl,Nat.le_refl _,Nat.zero_le _,.inl rfl⟩,(fun x hx => by cases hx),(fun x hx => by cases hx),hBk⟩
def MulF (g1:Bool) (x1 y1:List Nat) (g2:Bool) (x2 y2:List Nat):(Bool × List Nat × List Nat) × Int :=
 if MayR g1 x1 y1 && MayR g2 x2 y2 then (if bigN (mulN x1 y1 x2 y2) || bigN (mulD x1 y1 x2 y2) then ((false,[],[]),2) else (((g1 != g2) && decide (mulN x1 y1 x2 y2 ≠ 0),limbs (mulN x1 y1 x2 y2),limbs (mulD x1 y1 x2 y2)),0)) else ((false,[],[]),40)

end Go.Proofs.YtmmeiebbnjjijaaGreatDoor
