/- Wid -/
import Derived.Test.YtncolonhdjkglaaGreatDoorWic
import Derived.Test.YtncolonhdjkglaaGreatDoorWi2
import Derived.Test.YtncolonhdjkglaaGreatDoorDv7
import Derived.Deep.RegionHeld3
import Derived.Test.YtncolonhdjkglaaGreatDoorCmp
import Derived.Test.YtncolonhdjkglaaGreatDoorFo1
import Derived.Test.YtncolonhdjkglaaGreatDoorGiv
namespace Go.Proofs.YtncolonhdjkglaaGreatDoor
open Go.RowKit Go.Deep
set_option linter.unusedVariables false
def cmpR (g1:Bool) (x1 y1:List Nat) (g2:Bool) (x2 y2:List Nat):Int :=
 if signR g1 x1 < signR g2 x2 then -1 else if signR g2 x2 < signR g1 x1 then 1 else if g1 then cmpN (val x2 * val y1) (val x1 * val y2) else cmpN (val x1 * val y2) (val x2 * val y1)
theorem MayR.parts {g:Bool} {x y:List Nat} (h:MayR g x y = true):MayL x = true ∧ MayL y = true ∧ y ≠ [] ∧ (g = true → x ≠ []) ∧ Nat.gcd (val x) (val y) = 1:=by
 unfold MayR at h
 simp only [Bool.and_eq_true,Bool.not_eq_true',decide_eq_false_iff_not,decide_eq_true_eq] at h
 obtain ⟨⟨⟨⟨h1,h2⟩,h3⟩,h4⟩,h5⟩:=h
 refine ⟨h1,h2,h3,fun hg hx => ?_,h5⟩
 rw [hg,hx] at h4
 simp at h4
theorem sz_ok {g1 g2:Bool} {x1 y1 x2 y2:List Nat} (ox1:Ok x1) (oy1:Ok y1) (ox2:Ok x2) (oy2:Ok y2) (h1:MayR g1 x1 y1 = true) (h2:MayR g2 x2 y2 = true) (hs:signR g1 x1 = signR g2 x2):SzOk x1 y1 x2 y2:=by
 obtain ⟨a1,b1,c1,d1,e1⟩:=MayR.parts h1
 obtain ⟨a2,b2,c2,d2,e2⟩:=MayR.parts h2
 by_cases z1:x1 = []
 ·have g10:g1 = false:=by cases g1; rfl; exact absurd z1 (d1 rfl)
  have s1:signR g1 x1 = 0:=by rw [g10,z1]; rfl
  rw [s1] at hs
  have z2:x2 = []:=by
   unfold signR at hs
   cases g2
   ·simp at hs
    by_cases h:x2 = []
    ·exact h
    ·simp [h] at hs
   ·simp at hs
  have v1:val y1 = 1:=by rw [z1] at e1; simpa [val] using e1
  have v2:val y2 = 1:=by rw [z2] at e2; simpa [val] using e2
  have k1:=bitsN_mono oy1 oy2 (MayL.norm b1) (by omega)
  have k2:=bitsN_mono oy2 oy1 (MayL.norm b2) (by omega)
  rw [z1,z2]
  exact ⟨fun h => by omega,fun h => by omega⟩
 ·have z2:x2 ≠ []:=by
   intro z2
   have g20:g2 = false:=by cases g2; rfl; exact absurd z2 (d2 rfl)
   rw [g20,z2] at hs
   unfold signR at hs
   cases g1
   ·simp [z1] at hs
   ·simp at hs
  exact ⟨fun h => prod_less ox1 oy2 ox2 oy1 (MayL.norm a2) (MayL.norm b1) z2 c1 h,fun h => prod_less ox2 oy1 ox1 oy2 (MayL.norm a1) (MayL.norm b2) z1 c2 h⟩

set_option maxHeartbeats 8000000 in
set_option maxRecDepth 100000 in
theorem ratcompare_any (g1 g2:Bool) (a1 b1 a2 b2:Option Addr) (n1 c1 m1 d1 n2 c2 m2 d2:Nat) (x1 y1 x2 y2:List Nat) (w:World) (hx1:Sl w a1 n1 c1 x1) (hy1:Sl w b1 m1 d1 y1) (hx2:Sl w a2 n2 c2 x2) (hy2:Sl w b2 m2 d2 y2) (ox1:Ok x1) (oy1:Ok y1) (ox2:Ok x2) (oy2:Ok y2) (h1:MayR g1 x1 y1 = true) (h2:MayR g2 x2 y2 = true) :
  Calls Tryz.prog 49 #[ratV g1 a1 n1 c1 b1 m1 d1,ratV g2 a2 n2 c2 b2 m2 d2] w fun e w' => e = .returned (.int .i64 (cmpR g1 x1 y1 g2 x2 y2)) ∧ Below w.heap.size w w':=by
 have bx:=Box.made w g1 a1 n1 c1 b1 m1 d1
 obtain ⟨wa,hwa⟩:∃ wa,ratBox w g1 a1 n1 c1 b1 m1 d1 = wa:=⟨_,rfl⟩
 rw [hwa] at bx
 have by_:=Box.made wa g2 a2 n2 c2 b2 m2 d2
 obtain ⟨wb,hwb⟩:∃ wb,ratBox wa g2 a2 n2 c2 b2 m2 d2 = wb:=⟨_,rfl⟩
 rw [hwb] at by_
 have hba:Below w.heap.size w wa:=by rw [← hwa]; exact bAl
 have hbb:Below wa.heap.size wa wb:=by rw [← hwb]; exact bAl
 have bx2:=bx.keep hbb
 have hB:=hba.trans (hbb.mono hba.size)
 unfold ratBox at hwa hwb
 have p0:=bx2.d0
 have p1:=bx2.d1
 have p2:=bx2.d2
 have q0:=by_.d0
 have q1:=by_.d1
 have q2:=by_.d2
 obtain ⟨ka1,kb1,_,_,_⟩:=MayR.parts h1
 obtain ⟨ka2,kb2,_,_,_⟩:=MayR.parts h2
 have HS1:=Hd (fun (W:World) => rsign_any g1 a1 b1 n1 c1 m1 d1 x1 W hx1.len)
 have HS2:=Hd (fun (W:World) => rsign_any g2 a2 b2 n2 c2 m2 d2 x2 W hx2.len)
 have HSz:=Hd (fun hs => sz_ok ox1 oy1 ox2 oy2 h1 h2 hs)
 have HSz2:=Hd (fun hs => sz_ok ox2 oy2 ox1 oy1 h2 h1 hs)
 have HC1:=Hd (fun (W:World) (hb:Below wb.heap.size wb W) sz => compareSizes_any g1 g2 a1 b1 a2 b2 n1 c1 m1 d1 n2 c2 m2 d2 x1 y1 x2 y2 W ((hx1.below hB).below hb) ((hy1.below hB).below hb) ((hx2.below hB).below hb) ((hy2.below hB).below hb) ox1 oy1 ox2 oy2 ka1 kb1 ka2 kb2 sz)
 have HC2:=Hd (fun (W:World) (hb:Below wb.heap.size wb W) sz => compareSizes_any g2 g1 a2 b2 a1 b1 n2 c2 m2 d2 n1 c1 m1 d1 x2 y2 x1 y1 W ((hx2.below hB).below hb) ((hy2.below hB).below hb) ((hx1.below hB).below hb) ((hy1.below hB).below hb) ox2 oy2 ox1 oy1 ka2 kb2 ka1 kb1 sz)
 have HBB:=Hd hB
 have hX1:-1 ≤ signR g1 x1 ∧ signR g1 x1 ≤ 1:=by unfold signR; split; omega; split <;> omega
 have hX2:-1 ≤ signR g2 x2 ∧ signR g2 x2 ≤ 1:=by unfold signR; split; omega; split <;> omega
 obtain ⟨R,hR⟩:∃ R,cmpR g1 x1 y1 g2 x2 y2 = R:=⟨_,rfl⟩
 have HR:=Hd hR
 rw [hR]
 unfold cmpR at HR
 obtain ⟨X,hX⟩:∃ X,signR g1 x1 = X:=⟨_,rfl⟩
 obtain ⟨Y,hY⟩:∃ X,signR g2 x2 = X:=⟨_,rfl⟩
 rw [hX] at HS1 HSz HSz2 hX1 HR
 rw [hY] at HS2 HSz HSz2 hX2 HR
 unfold ratV at HS1 HS2 HC1 HC2 ⊢
 clear bx bx2 by_ hba hbb hB hx1 hy1 hx2 hy2 hX hY hR h1 h2 ka1 kb1 ka2 kb2
 have F0:=fun x:Ext wb => x.cell p0
 have F1:=fun x:Ext wb => x.cell p1
 have F2:=fun x:Ext wb => x.cell p2
 have G0:=fun x:Ext wb => x.cell q0
 have G1:=fun x:Ext wb => x.cell q1
 have G2:=fun x:Ext wb => x.cell q2
 have hNE:=Ext.ne wb
 go_enter Tryz.func49,Tryz.ntmps49
 go_wp2_with fail
 refine wp_region_ext (by kernel_rfl) (by kernel_rfl) ?_
 repeat (go_big_quiet_step (first
  | (go_at_call_of 87 (Value.agg #[Value.bool g1,Value.slice a1 n1 c1,Value.slice b1 m1 d1]); rename_i x; exact Ext.call (Uh HS1 x.w) (fun e w' h => h))
  | (go_at_call_of 87 (Value.agg #[Value.bool g2,Value.slice a2 n2 c2,Value.slice b2 m2 d2]); rename_i x; exact Ext.call (Uh HS2 x.w) (fun e w' h => h))))
 refine wpQuiet_nil ?_
 rintro _ ⟨xE,rfl⟩
 have HBE:=Hd xE.bel
 have r0:=xE.cell p0
 have r1:=xE.cell p1
 have r2:=xE.cell p2
 have s0:=xE.cell q0
 have s1:=xE.cell q1
 have s2:=xE.cell q2
 clear F0 F1 F2 G0 G1 G2 hNE p0 p1 p2 q0 q1 q2
 by_cases t1:X < Y
 ·have HR3:=Hd (show R = -1 by rw [← Uh HR,if_pos t1])
  clear HR
  go_wp2_with fail
  go_ret
  rw [Uh HR3]
  exact ⟨rfl,(Uh HBB).trans ((Uh HBE).mono (Uh HBB).size)⟩
 ·by_cases t2:Y < X
  ·have HR3:=Hd (show R = 1 by rw [← Uh HR,if_neg t1,if_pos t2])
   clear HR
   go_wp2_with fail
   go_ret
   rw [Uh HR3]
   exact ⟨rfl,(Uh HBB).trans ((Uh HBE).mono (Uh HBB).size)⟩
  ·have hXY:X = Y:=by omega
   cases g1
   ·have KS:=Hd (Uh HC1 xE.w (Uh HBE) (Uh HSz hXY))
    have HR3:=Hd (show R = cmpN (val x1 * val y2) (val x2 * val y1) by rw [← Uh HR,if_neg t1,if_neg t2]; rfl)
    clear HR HSz HSz2 HC1 HC2 HS1 HS2 hXY
    go_wp2_with fail
    refine (Uh KS).mono ?_
    rintro _ wz ⟨rfl,hbz⟩
    have HBz:=Hd ((Uh HBE).trans (hbz.mono (Uh HBE).size))
    clear hbz KS
    go_wp2_with fail
    go_ret
    rw [Uh HR3]
    exact ⟨rfl,(Uh HBB).trans ((Uh HBz).mono (Uh HBB).size)⟩
   ·have KS:=Hd (Uh HC2 xE.w (Uh HBE) (Uh HSz2 hXY.symm))
    have HR3:=Hd (show R = cmpN (val x2 * val y1) (val x1 * val y2) by rw [← Uh HR,if_neg t1,if_neg t2]; rfl)
    clear HR HSz HSz2 HC1 HC2 HS1 HS2 hXY
    go_wp2_with fail
    refine (Uh KS).mono ?_
    rintro _ wz ⟨rfl,hbz⟩
    have HBz:=Hd ((Uh HBE).trans (hbz.mono (Uh HBE).size))
    clear hbz KS
    go_wp2_with fail
    go_ret
    rw [Uh HR3]
    exact ⟨rfl,(Uh HBB).trans ((Uh HBz).mono (Uh HBB).size)⟩
def CmpF (g1:Bool) (x1 y1:List Nat) (g2:Bool) (x2 y2:List Nat):Int:=if MayR g1 x1 y1 && MayR g2 x2 y2 then cmpR g1 x1 y1 g2 x2 y2 else 0
set_option maxHeartbeats 8000000 in
set_option maxRecDepth 100000 in
theorem ratCmp_any (g1 g2:Bool) (a1 b1 a2 b2:Option Addr) (n1 c1 m1 d1 n2 c2 m2 d2:Nat) (x1 y1 x2 y2:List Nat) (w:World) (hx1:Sl w a1 n1 c1 x1) (hy1:Sl w b1 m1 d1 y1) (hx2:Sl w a2 n2 c2 x2) (hy2:Sl w b2 m2 d2 y2) (ox1:Ok x1) (oy1:Ok y1) (ox2:Ok x2) (oy2:Ok y2) (hT:Tab64 w) :
  Calls Tryz.prog 25 #[ratV g1 a1 n1 c1 b1 m1 d1,ratV g2 a2 n2 c2 b2 m2 d2] w fun e w' => e = .returned (.int .i64 (CmpF g1 x1 y1 g2 x2 y2)) ∧ Below w.heap.size w w':=by
 have bx:=Box.made w g1 a1 n1 c1 b1 m1 d1
 obtain ⟨wa,hwa⟩:∃ wa,ratBox w g1 a1 n1 c1 b1 m1 d1 = wa:=⟨_,rfl⟩
 rw [hwa] at bx
 have by_:=Box.made wa g2 a2 n2 c2 b2 m2 d2
 obtain ⟨wb,hwb⟩:∃ wb,ratBox wa g2 a2 n2 c2 b2 m2 d2 = wb:=⟨_,rfl⟩
 rw [hwb] at by_
 have hba:Below w.heap.size w wa:=by rw [← hwa]; exact bAl
 have hbb:Below wa.heap.size wa wb:=by rw [← hwb]; exact bAl
 have bx2:=bx.keep hbb
 have hB:=hba.trans (hbb.mono hba.size)
 unfold ratBox at hwa hwb
 have p0:=bx2.d0
 have p1:=bx2.d1
 have p2:=bx2.d2
 have q0:=by_.d0
 have q1:=by_.d1
 have q2:=by_.d2
 have HM1:=Hd (fun (W:World) (hb:Below wb.heap.size wb W) => ratMay_any g1 a1 b1 n1 c1 m1 d1 x1 y1 W ((hx1.below hB).below hb) ((hy1.below hB).below hb) ox1 oy1 ((hT.below hB).below hb))
 have HM2:=Hd (fun (W:World) (hb:Below wb.heap.size wb W) => ratMay_any g2 a2 b2 n2 c2 m2 d2 x2 y2 W ((hx2.below hB).below hb) ((hy2.below hB).below hb) ox2 oy2 ((hT.below hB).below hb))
 have HC:=Hd (fun (W:World) (hb:Below wb.heap.size wb W) h1 h2 => ratcompare_any g1 g2 a1 b1 a2 b2 n1 c1 m1 d1 n2 c2 m2 d2 x1 y1 x2 y2 W ((hx1.below hB).below hb) ((hy1.below hB).below hb) ((hx2.below hB).below hb) ((hy2.below hB).below hb) ox1 oy1 ox2 oy2 h1 h2)
 have HBx:=Hd (And.intro bx2 by_)
 have HBB:=Hd hB
 obtain ⟨R,hR⟩:∃ R,CmpF g1 x1 y1 g2 x2 y2 = R:=⟨_,rfl⟩
 have HR:=Hd hR
 rw [hR]
 unfold CmpF at HR
 unfold ratV at HM1 HM2 HC ⊢
 clear bx bx2 by_ hba hbb hB hx1 hy1 hx2 hy2 hT hR
 cases k1:MayR g1 x1 y1
 ·have HR3:=Hd (show R = 0 by rw [← Uh HR,k1]; rfl)
  have KM:=Hd (Uh HM1 wb (Below.refl _ _))
  rw [k1] at KM
  clear HR HM1 HM2 HC k1
  go_enter Tryz.func25,Tryz.ntmps25
  go_wp2_with fail
  refine (Uh KM).mono ?_
  rintro _ wc ⟨rfl,hbc⟩
  have HF:=Hd ((Uh HBB).trans (hbc.mono (Uh HBB).size))
  clear hbc KM
  go_wp2_with fail
  go_ret
  rw [Uh HR3]
  exact ⟨rfl,Uh HF⟩
 ·have KM:=Hd (Uh HM1 wb (Below.refl _ _))
  rw [k1] at KM
  cases k2:MayR g2 x2 y2
  ·have HR3:=Hd (show R = 0 by rw [← Uh HR,k1,k2]; rfl)
   have HM:=Hd (fun W hb => (by have K:=Uh HM2 W hb; rw [k2] at K; exact K:Calls Tryz.prog 24 #[.agg #[.bool g2,.slice a2 n2 c2,.slice b2 m2 d2]] W fun e w' => e = .returned (.bool false) ∧ Below W.heap.size W w'))
   clear HR HM1 HM2 HC k1 k2
   go_enter Tryz.func25,Tryz.ntmps25
   go_wp2_with fail
   refine (Uh KM).mono ?_
   rintro _ wc ⟨rfl,hbc⟩
   have b2:=(Uh HBx).2.keep hbc
   have r0:=b2.d0
   have r1:=b2.d1
   have r2:=b2.d2
   have KM2:=Hd (Uh HM wc hbc)
   have HBc:=Hd hbc
   clear hbc KM b2 HM p0 p1 p2 q0 q1 q2
   go_wp2_with fail
   refine (Uh KM2).mono ?_
   rintro _ wd ⟨rfl,hbd⟩
   have h9:=(Uh HBc).trans (hbd.mono (Uh HBc).size)
   have HF:=Hd ((Uh HBB).trans (h9.mono (Uh HBB).size))
   clear hbd KM2 h9
   go_wp2_with fail
   go_ret
   rw [Uh HR3]
   exact ⟨rfl,Uh HF⟩
  ·have HR3:=Hd (show R = cmpR g1 x1 y1 g2 x2 y2 by rw [← Uh HR,k1,k2]; rfl)
   have HM:=Hd (fun W hb => (by have K:=Uh HM2 W hb; rw [k2] at K; exact K:Calls Tryz.prog 24 #[.agg #[.bool g2,.slice a2 n2 c2,.slice b2 m2 d2]] W fun e w' => e = .returned (.bool true) ∧ Below W.heap.size W w'))
   have HCC:=Hd (fun W hb => Uh HC W hb k1 k2)
   clear HR HM1 HM2 HC k1 k2
   go_enter Tryz.func25,Tryz.ntmps25
   go_wp2_with fail
   refine (Uh KM).mono ?_
   rintro _ wc ⟨rfl,hbc⟩
   have b2:=(Uh HBx).2.keep hbc
   have b1_:=(Uh HBx).1.keep hbc
   have r0:=b2.d0
   have r1:=b2.d1
   have r2:=b2.d2
   have KM2:=Hd (Uh HM wc hbc)
   have HBc:=Hd hbc
   have HB2:=Hd (And.intro b1_ b2)
   clear hbc KM b2 b1_ HM p0 p1 p2 q0 q1 q2
   go_wp2_with fail
   refine (Uh KM2).mono ?_
   rintro _ wd ⟨rfl,hbd⟩
   have b3:=(Uh HB2).1.keep hbd
   have b4:=(Uh HB2).2.keep hbd
   have u0:=b3.d0
   have u1:=b3.d1
   have u2:=b3.d2
   have v0:=b4.d0
   have v1:=b4.d1
   have v2:=b4.d2
   have h9:=(Uh HBc).trans (hbd.mono (Uh HBc).size)
   have KC:=Hd (Uh HCC wd h9)
   have HD:=Hd h9
   clear hbd KM2 h9 b3 b4 HCC r0 r1 r2
   go_wp2_with fail
   refine (Uh KC).mono ?_
   rintro _ we ⟨rfl,hbe⟩
   have h9:=(Uh HD).trans (hbe.mono (Uh HD).size)
   have HF:=Hd ((Uh HBB).trans (h9.mono (Uh HBB).size))
   clear hbe KC h9
   go_wp2_with fail
   go_ret
   rw [Uh HR3]
   exact ⟨rfl,Uh HF⟩
set_option maxHeartbeats 4000000 in
theorem ratIncr_any (a:Option Addr) (n c:Nat) (v:Nat) (w:World) (h:Sl w a n c (limbs v)) (m:MayL (limbs v) = true) (hf:(limbs (v + 1)).length ≤ 2048) :
  Calls Tryz.prog 62 #[.slice a n c] w fun e w' => NewN w w' (v + 1) e:=by
 have H:=Hd h
 have hv:addL (limbs v) [1] = (limbs (v + 1),0):=by
  unfold addL
  have v1:val [1] = 1:=by simp [val]
  have m1:MayL [1] = true:=by decide
  rw [m,m1,(limbs_rep v).val,v1]
  exact fitL_ok (by omega)
 have HV:=Hd hv
 clear h hv
 go_enter Tryz.func62,Tryz.ntmps62
 go_wp2_with fail
 refine (ratOne_any w).mono ?_
 rintro _ w1 ⟨a1,m1,rfl,s1,_,b1⟩
 have K:=nadd_any a a1 n c m1 m1 (limbs v) [1] w1 ((Uh H).below b1) s1 (limbs_rep v).ok (by intro x hx; simp at hx; subst hx; decide)
 rw [Uh HV] at K
 have HK:=Hd K
 have HB:=Hd b1
 clear s1 b1 K
 go_wp2_with fail
 refine (Uh HK).mono ?_
 rintro _ w2 ⟨a2,m2,c2,rfl,s2,n2,b2⟩
 have H2:=Hd (And.intro s2 (And.intro n2 b2))
 clear s2 n2 b2 HK
 go_wp2_with fail
 refine (sure_any _ _ _).mono ?_
 rintro _ _ ⟨rfl,hw⟩
 obtain rfl:=hw.symm
 clear hw
 go_wp2_with fail
 go_ret
 exact ⟨a2,m2,c2,rfl,(Uh H2).1,fun x hx => Nat.le_trans (Uh HB).size ((Uh H2).2.1 x hx),(Uh HB).trans ((Uh H2).2.2.mono (Uh HB).size)⟩

theorem incr_fit {X Y:Nat} (hY:0 < Y) (h:X % Y ≠ 0):X / Y + 1 ≤ X:=by
 have h2:2 ≤ Y:=by
  rcases Nat.lt_or_ge Y 2 with k | k
  ·obtain rfl:Y = 1:=by omega
   rw [Nat.mod_one] at h
   exact absurd rfl h
  ·exact k
 have h3:=Nat.div_add_mod X Y
 have h4:2 * (X / Y) ≤ Y * (X / Y):=Nat.mul_le_mul_right _ h2
 rcases Nat.eq_zero_or_pos (X / Y) with e | e
 ·rw [e] at h3 ⊢; omega
 ·omega

def rdQ (X Y:Nat):Nat:=if Y < X % Y + X % Y ∨ (Y = X % Y + X % Y ∧ X / Y % 2 = 1) then X / Y + 1 else X / Y
theorem rdQ_le {X Y:Nat} (hY:0 < Y):rdQ X Y ≤ X:=by
 unfold rdQ
 split
 ·next h =>
  have h2:X % Y ≠ 0:=by omega
  exact incr_fit hY h2
 ·exact Nat.div_le_self _ _

set_option maxHeartbeats 4000000 in
theorem roundsUp_any (al ad:Option Addr) (ml cl md cd:Nat) (xs ys:List Nat) (odd:Bool) (w:World) (h1:Sl w al ml cl xs) (h2:Sl w ad md cd ys) (ox:Ok xs) (oy:Ok ys) (kx:MayL xs = true) (ky:MayL ys = true) (hle:val xs ≤ val ys) :
  Calls Tryz.prog 60 #[.slice al ml cl,.slice ad md cd,.bool odd] w fun e w' => e = .returned (.bool (decide (val ys < val xs + val xs) || (decide (val ys = val xs + val xs) && odd))) ∧ Below w.heap.size w w':=by
 have K1:=nsub_any ad al md cd ml cl ys xs w h2 h1 oy ox
 rw [sub_fit ky kx hle] at K1
 have HK1:=Hd K1
 have HX:=Hd h1
 have mS:MayL (limbs (val ys - val xs)) = true:=may_small ky oy (Nat.sub_le _ _)
 have hC:cmpL xs (limbs (val ys - val xs)) = cmpN (val xs) (val ys - val xs):=by unfold cmpL; rw [kx,mS,(limbs_rep _).val]; rfl
 clear K1 h1 h2 kx ky mS
 rcases Nat.lt_trichotomy (val xs + val xs) (val ys) with h | h | h
 ·have HCV:=Hd (hC.trans (cmpN_lt (show val xs < val ys - val xs by omega)))
  rw [show (decide (val ys < val xs + val xs) || (decide (val ys = val xs + val xs) && odd)) = false from by rw [decide_eq_false (by omega),decide_eq_false (by omega)]; rfl]
  clear hC h hle
  go_enter Tryz.func60,Tryz.ntmps60
  go_wp2_with fail
  refine (Uh HK1).mono ?_
  rintro _ w1 ⟨aS,mS,cS,rfl,ss,nS,b1⟩
  have KC:=ncmp_any al aS ml cl mS cS xs (limbs (val ys - val xs)) w1 ((Uh HX).below b1) ss ox (limbs_rep _).ok
  rw [Uh HCV] at KC
  have HKC:=Hd KC
  have HB1:=Hd b1
  clear KC ss nS b1 HK1
  go_wp2_with fail
  refine (sure_any _ _ _).mono ?_
  rintro _ _ ⟨rfl,hw⟩
  obtain rfl:=hw.symm
  clear hw
  go_wp2_with fail
  refine (Uh HKC).mono ?_
  rintro _ w3 ⟨rfl,jj,hw3⟩
  have HB3:=Hd (show Below w.heap.size w w3 from by rw [hw3]; exact bel_drewN (Uh HB1) jj)
  clear hw3 HKC HB1
  go_wp2_with fail
  go_ret
  exact ⟨rfl,Uh HB3⟩
 ·have HCV:=Hd (hC.trans (show cmpN (val xs) (val ys - val xs) = 0 from by rw [show val ys - val xs = val xs by omega]; simp [cmpN]))
  rw [show (decide (val ys < val xs + val xs) || (decide (val ys = val xs + val xs) && odd)) = odd from by rw [decide_eq_false (by omega),decide_eq_true (by omega)]; simp]
  clear hC h hle
  cases odd
  ·go_enter Tryz.func60,Tryz.ntmps60
   go_wp2_with fail
   refine (Uh HK1).mono ?_
   rintro _ w1 ⟨aS,mS,cS,rfl,ss,nS,b1⟩
   have KC:=ncmp_any al aS ml cl mS cS xs (limbs (val ys - val xs)) w1 ((Uh HX).below b1) ss ox (limbs_rep _).ok
   rw [Uh HCV] at KC
   have HKC:=Hd KC
   have HB1:=Hd b1
   clear KC ss nS b1 HK1
   go_wp2_with fail
   refine (sure_any _ _ _).mono ?_
   rintro _ _ ⟨rfl,hw⟩
   obtain rfl:=hw.symm
   clear hw
   go_wp2_with fail
   refine (Uh HKC).mono ?_
   rintro _ w3 ⟨rfl,jj,hw3⟩
   have HB3:=Hd (show Below w.heap.size w w3 from by rw [hw3]; exact bel_drewN (Uh HB1) jj)
   clear hw3 HKC HB1
   go_wp2_with fail
   go_ret
   exact ⟨rfl,Uh HB3⟩
  ·go_enter Tryz.func60,Tryz.ntmps60
   go_wp2_with fail
   refine (Uh HK1).mono ?_
   rintro _ w1 ⟨aS,mS,cS,rfl,ss,nS,b1⟩
   have KC:=ncmp_any al aS ml cl mS cS xs (limbs (val ys - val xs)) w1 ((Uh HX).below b1) ss ox (limbs_rep _).ok
   rw [Uh HCV] at KC
   have HKC:=Hd KC
   have HB1:=Hd b1
   clear KC ss nS b1 HK1
   go_wp2_with fail
   refine (sure_any _ _ _).mono ?_
   rintro _ _ ⟨rfl,hw⟩
   obtain rfl:=hw.symm
   clear hw
   go_wp2_with fail
   refine (Uh HKC).mono ?_
   rintro _ w3 ⟨rfl,jj,hw3⟩
   have HB3:=Hd (show Below w.heap.size w w3 from by rw [hw3]; exact bel_drewN (Uh HB1) jj)
   clear hw3 HKC HB1
   go_wp2_with fail
   go_ret
   exact ⟨rfl,Uh HB3⟩
 ·have HCV:=Hd (hC.trans (show cmpN (val xs) (val ys - val xs) = 1 from by unfold cmpN; rw [if_neg (by omega),if_neg (by omega)]))
  rw [show (decide (val ys < val xs + val xs) || (decide (val ys = val xs + val xs) && odd)) = true from by rw [decide_eq_true (by omega)]; rfl]
  clear hC h hle
  go_enter Tryz.func60,Tryz.ntmps60
  go_wp2_with fail
  refine (Uh HK1).mono ?_
  rintro _ w1 ⟨aS,mS,cS,rfl,ss,nS,b1⟩
  have KC:=ncmp_any al aS ml cl mS cS xs (limbs (val ys - val xs)) w1 ((Uh HX).below b1) ss ox (limbs_rep _).ok
  rw [Uh HCV] at KC
  have HKC:=Hd KC
  have HB1:=Hd b1
  clear KC ss nS b1 HK1
  go_wp2_with fail
  refine (sure_any _ _ _).mono ?_
  rintro _ _ ⟨rfl,hw⟩
  obtain rfl:=hw.symm
  clear hw
  go_wp2_with fail
  refine (Uh HKC).mono ?_
  rintro _ w3 ⟨rfl,jj,hw3⟩
  have HB3:=Hd (show Below w.heap.size w w3 from by rw [hw3]; exact bel_drewN (Uh HB1) jj)
  clear hw3 HKC HB1
  go_wp2_with fail
  go_ret
  exact ⟨rfl,Uh HB3⟩
end Go.Proofs.YtncolonhdjkglaaGreatDoor
namespace Go.Proofs.YtncolonhdjkglaaGreatDoor
open Go.RowKit Go.Deep
set_option linter.unusedVariables false
open Go.RowKit Go.Deep
set_option linter.unusedVariables false
structure Chunk (b c:Nat):Prop where
 pos:1 ≤ c
 le:c ≤ 31
 lt:b ^ c < 4294967296
 ge:4294967296 ≤ b ^ c * b

def ChPost (b:Nat) (w:World) (e:Ending) (w':World):Prop :=
 ∃ c,Chunk b c ∧ e = .returned (.tuple #[.int .i64 (c:Nat),.int .u32 (b ^ c:Nat)]) ∧ w' = w

theorem chunk_le {b c:Nat} (hb:2 ≤ b) (h:b ^ c < 4294967296):c ≤ 31:=by
 have h1:2 ^ c ≤ b ^ c:=Nat.pow_le_pow_left hb c
 have h2:2 ^ c < 2 ^ 32:=Nat.lt_of_le_of_lt h1 h
 have:=(Nat.pow_lt_pow_iff_right (by decide:1 < 2)).1 h2
 omega

set_option maxHeartbeats 4000000 in
theorem chunk_any (b:Nat) (hb:2 ≤ b) (hb2:b ≤ 36) (w:World) :
  Calls Tryz.prog 130 #[.int .i64 (b:Nat)] w fun e w' => ChPost b w e w':=by
 go_enter Tryz.func130,Tryz.ntmps130
 go_wp2_with fail
 go_loop [4,5] (fun cv wv => ∃ c:Nat,1 ≤ c ∧ b ^ c < 4294967296 ∧ cv = .int .i64 (c:Nat) ∧ wv = .int .u64 (b ^ c:Nat)) (fun cv _ => 32 - (intOf cv).toNat)
 case atStart => exact ⟨1,Nat.le_refl _,by simp; omega,rfl,by simp⟩
 case round =>
  obtain ⟨c,hc,hlt,rfl,rfl⟩:=hrel
  have hc31:=chunk_le hb hlt
  have hb36:b ^ c * b ≤ b ^ c * 36:=Nat.mul_le_mul_left _ hb2
  obtain ⟨p,hp⟩:∃ p,b ^ c * b = p:=⟨_,rfl⟩
  have hp1:b ^ (c + 1) = p:=by rw [Nat.pow_succ,hp]
  obtain ⟨W,hW⟩:∃ W,b ^ c = W:=⟨_,rfl⟩
  rw [hW] at hb36 hlt hp
  have e1:(W:Int) * (b:Int) = (p:Int):=by rw [← hp,Int.natCast_mul]
  rw [hp] at hb36
  have hp64:p < 18446744073709551616:=by omega
  have HW:=Hd hW
  have HP:=Hd hp1
  have HQ:=Hd hp
  by_cases hs:p < 4294967296
  ·have q1:(p:Int) / 4294967296 = 0:=by omega
   rw [hW]
   clear hW hp1 hp
   go_wp2_with fail
   exact ⟨⟨c + 1,by omega,by rw [Uh HP]; exact hs,by go_num,by rw [Uh HP]⟩,by simp [intOf]; omega⟩
  ·obtain ⟨q,hq⟩:∃ q,p / 4294967296 = q:=⟨_,rfl⟩
   have q1:(p:Int) / 4294967296 = (q:Int):=by omega
   have q2:((q:Int) == 0) = false:=by simp; omega
   have q3:¬ (q:Int) = 0:=by omega
   rw [hW]
   clear hW hp1 hp hq
   go_wp2_with fail
   go_ret2
   have HR:b ^ c * b = p:=by rw [Uh HW]; exact Uh HQ
   refine ⟨c,⟨hc,hc31,by rw [Uh HW]; exact hlt,by rw [HR]; omega⟩,by rw [Uh HW]; rfl,rfl⟩

set_option maxHeartbeats 4000000 in
theorem isBase_any (b:Int) (w:World) :
  Calls Tryz.prog 89 #[.int .i64 b] w fun e w' => e = .returned (.bool (decide (2 ≤ b ∧ b ≤ 36))) ∧ w' = w:=by
 by_cases h1:2 ≤ b
 ·by_cases h2:b ≤ 36
  ·go_enter Tryz.func89,Tryz.ntmps89
   go_wp2_with fail
   go_ret
   simp [h1,h2]
  ·go_enter Tryz.func89,Tryz.ntmps89
   go_wp2_with fail
   go_ret
   simp; omega
 ·go_enter Tryz.func89,Tryz.ntmps89
  go_wp2_with fail
  go_ret
  simp; omega
end Go.Proofs.YtncolonhdjkglaaGreatDoor
