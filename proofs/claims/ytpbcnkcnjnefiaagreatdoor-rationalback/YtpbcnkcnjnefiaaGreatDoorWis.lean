/- Wid -/
import Derived.Test.YtpbcnkcnjnefiaaGreatDoorWic
import Derived.Test.YtpbcnkcnjnefiaaGreatDoorRa2
namespace Go.Proofs.YtpbcnkcnjnefiaaGreatDoor
open Go.RowKit Go.Deep
set_option linter.unusedVariables false
def cmpR (g1:Bool) (x1 y1:List Nat) (g2:Bool) (x2 y2:List Nat):Int :=
 if signR g1 x1 < signR g2 x2 then -1 else if signR g2 x2 < signR g1 x1 then 1 else if g1 then cmpN (val x2 * val y1) (val x1 * val y2) else cmpN (val x1 * val y2) (val x2 * val y1)
theorem MayR.parts {g:Bool} {x y:List Nat} (h:MayR g x y = true):MayL x = true ∧ MayL y = true ∧ y ≠ [] ∧ (g = true → x ≠ []) ∧ Nat.gcd (val x) (val y) = 1:=by
 unfold MayR at h
 simp only [Bool.and_eq_true,Bool.not_eq_true',decide_eq_false_iff_not,decide_eq_true_eq] at h
 obtain ⟨⟨⟨⟨h1,h2⟩,h3⟩,h4⟩,h5⟩:=h
 refine ⟨h1,h2,h3,fun hg hx => ?_,h5⟩
 rw [hg,hx] at h4
 simp at h4
theorem sz_ok {g1 g2:Bool} {x1 y1 x2 y2:List Nat} (ox1:Ok x1) (oy1:Ok y1) (ox2:Ok x2) (oy2:Ok y2) (h1:MayR g1 x1 y1 = true) (h2:MayR g2 x2 y2 = true) (hs:signR g1 x1 = signR g2 x2):SzOk x1 y1 x2 y2:=by
 obtain ⟨a1,b1,c1,d1,e1⟩:=MayR.parts h1
 obtain ⟨a2,b2,c2,d2,e2⟩:=MayR.parts h2
 by_cases z1:x1 = []
 ·have g10:g1 = false:=by cases g1; rfl; exact absurd z1 (d1 rfl)
  have s1:signR g1 x1 = 0:=by rw [g10,z1]; rfl
  rw [s1] at hs
  have z2:x2 = []:=by
   unfold signR at hs
   cases g2
   ·simp at hs
    by_cases h:x2 = []
    ·exact h
    ·simp [h] at hs
   ·simp at hs
  have v1:val y1 = 1:=by rw [z1] at e1; simpa [val] using e1
  have v2:val y2 = 1:=by rw [z2] at e2; simpa [val] using e2
  have k1:=bitsN_mono oy1 oy2 (MayL.norm b1) (by omega)
  have k2:=bitsN_mono oy2 oy1 (MayL.norm b2) (by omega)
  rw [z1,z2]
  exact ⟨fun h => by omega,fun h => by omega⟩
 ·have z2:x2 ≠ []:=by
   intro z2
   have g20:g2 = false:=by cases g2; rfl; exact absurd z2 (d2 rfl)
   rw [g20,z2] at hs
   unfold signR at hs
   cases g1
   ·simp [z1] at hs
   ·simp at hs
  exact ⟨fun h => prod_less ox1 oy2 ox2 oy1 (MayL.norm a2) (MayL.norm b1) z2 c1 h,fun h => prod_less ox2 oy1 ox1 oy2 (MayL.norm a1) (MayL.norm b2) z1 c2 h⟩

set_option maxHeartbeats 8000000 in
set_option maxRecDepth 100000 in
theorem ratcompare_any (g1 g2:Bool) (a1 b1 a2 b2:Option Addr) (n1 c1 m1 d1 n2 c2 m2 d2:Nat) (x1 y1 x2 y2:List Nat) (w:World) (hx1:Sl w a1 n1 c1 x1) (hy1:Sl w b1 m1 d1 y1) (hx2:Sl w a2 n2 c2 x2) (hy2:Sl w b2 m2 d2 y2) (ox1:Ok x1) (oy1:Ok y1) (ox2:Ok x2) (oy2:Ok y2) (h1:MayR g1 x1 y1 = true) (h2:MayR g2 x2 y2 = true) :
  Calls Tryz.prog 57 #[ratV g1 a1 n1 c1 b1 m1 d1,ratV g2 a2 n2 c2 b2 m2 d2] w fun e w' => e = .returned (.int .i64 (cmpR g1 x1 y1 g2 x2 y2)) ∧ Below w.heap.size w w':=by
 have bx:=Box.made w g1 a1 n1 c1 b1 m1 d1
 obtain ⟨wa,hwa⟩:∃ wa,ratBox w g1 a1 n1 c1 b1 m1 d1 = wa:=⟨_,rfl⟩
 rw [hwa] at bx
 have by_:=Box.made wa g2 a2 n2 c2 b2 m2 d2
 obtain ⟨wb,hwb⟩:∃ wb,ratBox wa g2 a2 n2 c2 b2 m2 d2 = wb:=⟨_,rfl⟩
 rw [hwb] at by_
 have hba:Below w.heap.size w wa:=by rw [← hwa]; exact bAl
 have hbb:Below wa.heap.size wa wb:=by rw [← hwb]; exact bAl
 have bx2:=bx.keep hbb
 have hB:=hba.trans (hbb.mono hba.size)
 unfold ratBox at hwa hwb
 have p0:=bx2.d0
 have p1:=bx2.d1
 have p2:=bx2.d2
 have q0:=by_.d0
 have q1:=by_.d1
 have q2:=by_.d2
 obtain ⟨ka1,kb1,_,_,_⟩:=MayR.parts h1
 obtain ⟨ka2,kb2,_,_,_⟩:=MayR.parts h2
 have HS1:=Hd (fun (W:World) => rsign_any g1 a1 b1 n1 c1 m1 d1 x1 W hx1.len)
 have HS2:=Hd (fun (W:World) => rsign_any g2 a2 b2 n2 c2 m2 d2 x2 W hx2.len)
 have HSz:=Hd (fun hs => sz_ok ox1 oy1 ox2 oy2 h1 h2 hs)
 have HSz2:=Hd (fun hs => sz_ok ox2 oy2 ox1 oy1 h2 h1 hs)
 have HC1:=Hd (fun (W:World) (hb:Below wb.heap.size wb W) sz => compareSizes_any g1 g2 a1 b1 a2 b2 n1 c1 m1 d1 n2 c2 m2 d2 x1 y1 x2 y2 W ((hx1.below hB).below hb) ((hy1.below hB).below hb) ((hx2.below hB).below hb) ((hy2.below hB).below hb) ox1 oy1 ox2 oy2 ka1 kb1 ka2 kb2 sz)
 have HC2:=Hd (fun (W:World) (hb:Below wb.heap.size wb W) sz => compareSizes_any g2 g1 a2 b2 a1 b1 n2 c2 m2 d2 n1 c1 m1 d1 x2 y2 x1 y1 W ((hx2.below hB).below hb) ((hy2.below hB).below hb) ((hx1.below hB).below hb) ((hy1.below hB).below hb) ox2 oy2 ox1 oy1 ka2 kb2 ka1 kb1 sz)
 have HBB:=Hd hB
 have hX1:-1 ≤ signR g1 x1 ∧ signR g1 x1 ≤ 1:=by unfold signR; split; omega; split <;> omega
 have hX2:-1 ≤ signR g2 x2 ∧ signR g2 x2 ≤ 1:=by unfold signR; split; omega; split <;> omega
 obtain ⟨R,hR⟩:∃ R,cmpR g1 x1 y1 g2 x2 y2 = R:=⟨_,rfl⟩
 have HR:=Hd hR
 rw [hR]
 unfold cmpR at HR
 obtain ⟨X,hX⟩:∃ X,signR g1 x1 = X:=⟨_,rfl⟩
 obtain ⟨Y,hY⟩:∃ X,signR g2 x2 = X:=⟨_,rfl⟩
 rw [hX] at HS1 HSz HSz2 hX1 HR
 rw [hY] at HS2 HSz HSz2 hX2 HR
 unfold ratV at HS1 HS2 HC1 HC2 ⊢
 clear bx bx2 by_ hba hbb hB hx1 hy1 hx2 hy2 hX hY hR h1 h2 ka1 kb1 ka2 kb2
 have F0:=fun x:Ext wb => x.cell p0
 have F1:=fun x:Ext wb => x.cell p1
 have F2:=fun x:Ext wb => x.cell p2
 have G0:=fun x:Ext wb => x.cell q0
 have G1:=fun x:Ext wb => x.cell q1
 have G2:=fun x:Ext wb => x.cell q2
 have hNE:=Ext.ne wb
 go_enter Tryz.func57,Tryz.ntmps57
 go_wp2_with fail
 refine wp_region_ext (by kernel_rfl) (by kernel_rfl) ?_
 repeat (go_big_quiet_step (first
  | (go_at_call_of 84 (Value.agg #[Value.bool g1,Value.slice a1 n1 c1,Value.slice b1 m1 d1]); rename_i x; exact Ext.call (Uh HS1 x.w) (fun e w' h => h))
  | (go_at_call_of 84 (Value.agg #[Value.bool g2,Value.slice a2 n2 c2,Value.slice b2 m2 d2]); rename_i x; exact Ext.call (Uh HS2 x.w) (fun e w' h => h))))
 refine wpQuiet_nil ?_
 rintro _ ⟨xE,rfl⟩
 have HBE:=Hd xE.bel
 have r0:=xE.cell p0
 have r1:=xE.cell p1
 have r2:=xE.cell p2
 have s0:=xE.cell q0
 have s1:=xE.cell q1
 have s2:=xE.cell q2
 clear F0 F1 F2 G0 G1 G2 hNE p0 p1 p2 q0 q1 q2
 by_cases t1:X < Y
 ·have HR3:=Hd (show R = -1 by rw [← Uh HR,if_pos t1])
  clear HR
  go_wp2_with fail
  go_ret
  rw [Uh HR3]
  exact ⟨rfl,(Uh HBB).trans ((Uh HBE).mono (Uh HBB).size)⟩
 ·by_cases t2:Y < X
  ·have HR3:=Hd (show R = 1 by rw [← Uh HR,if_neg t1,if_pos t2])
   clear HR
   go_wp2_with fail
   go_ret
   rw [Uh HR3]
   exact ⟨rfl,(Uh HBB).trans ((Uh HBE).mono (Uh HBB).size)⟩
  ·have hXY:X = Y:=by omega
   cases g1
   ·have KS:=Hd (Uh HC1 xE.w (Uh HBE) (Uh HSz hXY))
    have HR3:=Hd (show R = cmpN (val x1 * val y2) (val x2 * val y1) by rw [← Uh HR,if_neg t1,if_neg t2]; rfl)
    clear HR HSz HSz2 HC1 HC2 HS1 HS2 hXY
    go_wp2_with fail
    refine (Uh KS).mono ?_
    rintro _ wz ⟨rfl,hbz⟩
    have HBz:=Hd ((Uh HBE).trans (hbz.mono (Uh HBE).size))
    clear hbz KS
    go_wp2_with fail
    go_ret
    rw [Uh HR3]
    exact ⟨rfl,(Uh HBB).trans ((Uh HBz).mono (Uh HBB).size)⟩
   ·have KS:=Hd (Uh HC2 xE.w (Uh HBE) (Uh HSz2 hXY.symm))
    have HR3:=Hd (show R = cmpN (val x2 * val y1) (val x1 * val y2) by rw [← Uh HR,if_neg t1,if_neg t2]; rfl)
    clear HR HSz HSz2 HC1 HC2 HS1 HS2 hXY
    go_wp2_with fail
    refine (Uh KS).mono ?_
    rintro _ wz ⟨rfl,hbz⟩
    have HBz:=Hd ((Uh HBE).trans (hbz.mono (Uh HBE).size))
    clear hbz KS
    go_wp2_with fail
    go_ret
    rw [Uh HR3]
    exact ⟨rfl,(Uh HBB).trans ((Uh HBz).mono (Uh HBB).size)⟩
def CmpF (g1:Bool) (x1 y1:List Nat) (g2:Bool) (x2 y2:List Nat):Int:=if MayR g1 x1 y1 && MayR g2 x2 y2 then cmpR g1 x1 y1 g2 x2 y2 else 0
set_option maxHeartbeats 8000000 in
set_option maxRecDepth 100000 in
theorem ratCmp_any (g1 g2:Bool) (a1 b1 a2 b2:Option Addr) (n1 c1 m1 d1 n2 c2 m2 d2:Nat) (x1 y1 x2 y2:List Nat) (w:World) (hx1:Sl w a1 n1 c1 x1) (hy1:Sl w b1 m1 d1 y1) (hx2:Sl w a2 n2 c2 x2) (hy2:Sl w b2 m2 d2 y2) (ox1:Ok x1) (oy1:Ok y1) (ox2:Ok x2) (oy2:Ok y2) (hT:Tab64 w) :
  Calls Tryz.prog 23 #[ratV g1 a1 n1 c1 b1 m1 d1,ratV g2 a2 n2 c2 b2 m2 d2] w fun e w' => e = .returned (.int .i64 (CmpF g1 x1 y1 g2 x2 y2)) ∧ Below w.heap.size w w':=by
 have bx:=Box.made w g1 a1 n1 c1 b1 m1 d1
 obtain ⟨wa,hwa⟩:∃ wa,ratBox w g1 a1 n1 c1 b1 m1 d1 = wa:=⟨_,rfl⟩
 rw [hwa] at bx
 have by_:=Box.made wa g2 a2 n2 c2 b2 m2 d2
 obtain ⟨wb,hwb⟩:∃ wb,ratBox wa g2 a2 n2 c2 b2 m2 d2 = wb:=⟨_,rfl⟩
 rw [hwb] at by_
 have hba:Below w.heap.size w wa:=by rw [← hwa]; exact bAl
 have hbb:Below wa.heap.size wa wb:=by rw [← hwb]; exact bAl
 have bx2:=bx.keep hbb
 have hB:=hba.trans (hbb.mono hba.size)
 unfold ratBox at hwa hwb
 have p0:=bx2.d0
 have p1:=bx2.d1
 have p2:=bx2.d2
 have q0:=by_.d0
 have q1:=by_.d1
 have q2:=by_.d2
 have HM1:=Hd (fun (W:World) (hb:Below wb.heap.size wb W) => ratMay_any g1 a1 b1 n1 c1 m1 d1 x1 y1 W ((hx1.below hB).below hb) ((hy1.below hB).below hb) ox1 oy1 ((hT.below hB).below hb))
 have HM2:=Hd (fun (W:World) (hb:Below wb.heap.size wb W) => ratMay_any g2 a2 b2 n2 c2 m2 d2 x2 y2 W ((hx2.below hB).below hb) ((hy2.below hB).below hb) ox2 oy2 ((hT.below hB).below hb))
 have HC:=Hd (fun (W:World) (hb:Below wb.heap.size wb W) h1 h2 => ratcompare_any g1 g2 a1 b1 a2 b2 n1 c1 m1 d1 n2 c2 m2 d2 x1 y1 x2 y2 W ((hx1.below hB).below hb) ((hy1.below hB).below hb) ((hx2.below hB).below hb) ((hy2.below hB).below hb) ox1 oy1 ox2 oy2 h1 h2)
 have HBx:=Hd (And.intro bx2 by_)
 have HBB:=Hd hB
 obtain ⟨R,hR⟩:∃ R,CmpF g1 x1 y1 g2 x2 y2 = R:=⟨_,rfl⟩
 have HR:=Hd hR
 rw [hR]
 unfold CmpF at HR
 unfold ratV at HM1 HM2 HC ⊢
 clear bx bx2 by_ hba hbb hB hx1 hy1 hx2 hy2 hT hR
 cases k1:MayR g1 x1 y1
 ·have HR3:=Hd (show R = 0 by rw [← Uh HR,k1]; rfl)
  have KM:=Hd (Uh HM1 wb (Below.refl _ _))
  rw [k1] at KM
  clear HR HM1 HM2 HC k1
  go_enter Tryz.func23,Tryz.ntmps23
  go_wp2_with fail
  refine (Uh KM).mono ?_
  rintro _ wc ⟨rfl,hbc⟩
  have HF:=Hd ((Uh HBB).trans (hbc.mono (Uh HBB).size))
  clear hbc KM
  go_wp2_with fail
  go_ret
  rw [Uh HR3]
  exact ⟨rfl,Uh HF⟩
 ·have KM:=Hd (Uh HM1 wb (Below.refl _ _))
  rw [k1] at KM
  cases k2:MayR g2 x2 y2
  ·have HR3:=Hd (show R = 0 by rw [← Uh HR,k1,k2]; rfl)
   have HM:=Hd (fun W hb => (by have K:=Uh HM2 W hb; rw [k2] at K; exact K:Calls Tryz.prog 6 #[.agg #[.bool g2,.slice a2 n2 c2,.slice b2 m2 d2]] W fun e w' => e = .returned (.bool false) ∧ Below W.heap.size W w'))
   clear HR HM1 HM2 HC k1 k2
   go_enter Tryz.func23,Tryz.ntmps23
   go_wp2_with fail
   refine (Uh KM).mono ?_
   rintro _ wc ⟨rfl,hbc⟩
   have b2:=(Uh HBx).2.keep hbc
   have r0:=b2.d0
   have r1:=b2.d1
   have r2:=b2.d2
   have KM2:=Hd (Uh HM wc hbc)
   have HBc:=Hd hbc
   clear hbc KM b2 HM p0 p1 p2 q0 q1 q2
   go_wp2_with fail
   refine (Uh KM2).mono ?_
   rintro _ wd ⟨rfl,hbd⟩
   have h9:=(Uh HBc).trans (hbd.mono (Uh HBc).size)
   have HF:=Hd ((Uh HBB).trans (h9.mono (Uh HBB).size))
   clear hbd KM2 h9
   go_wp2_with fail
   go_ret
   rw [Uh HR3]
   exact ⟨rfl,Uh HF⟩
  ·have HR3:=Hd (show R = cmpR g1 x1 y1 g2 x2 y2 by rw [← Uh HR,k1,k2]; rfl)
   have HM:=Hd (fun W hb => (by have K:=Uh HM2 W hb; rw [k2] at K; exact K:Calls Tryz.prog 6 #[.agg #[.bool g2,.slice a2 n2 c2,.slice b2 m2 d2]] W fun e w' => e = .returned (.bool true) ∧ Below W.heap.size W w'))
   have HCC:=Hd (fun W hb => Uh HC W hb k1 k2)
   clear HR HM1 HM2 HC k1 k2
   go_enter Tryz.func23,Tryz.ntmps23
   go_wp2_with fail
   refine (Uh KM).mono ?_
   rintro _ wc ⟨rfl,hbc⟩
   have b2:=(Uh HBx).2.keep hbc
   have b1_:=(Uh HBx).1.keep hbc
   have r0:=b2.d0
   have r1:=b2.d1
   have r2:=b2.d2
   have KM2:=Hd (Uh HM wc hbc)
   have HBc:=Hd hbc
   have HB2:=Hd (And.intro b1_ b2)
   clear hbc KM b2 b1_ HM p0 p1 p2 q0 q1 q2
   go_wp2_with fail
   refine (Uh KM2).mono ?_
   rintro _ wd ⟨rfl,hbd⟩
   have b3:=(Uh HB2).1.keep hbd
   have b4:=(Uh HB2).2.keep hbd
   have u0:=b3.d0
   have u1:=b3.d1
   have u2:=b3.d2
   have v0:=b4.d0
   have v1:=b4.d1
   have v2:=b4.d2
   have h9:=(Uh HBc).trans (hbd.mono (Uh HBc).size)
   have KC:=Hd (Uh HCC wd h9)
   have HD:=Hd h9
   clear hbd KM2 h9 b3 b4 HCC r0 r1 r2
   go_wp2_with fail
   refine (Uh KC).mono ?_
   rintro _ we ⟨rfl,hbe⟩
   have h9:=(Uh HD).trans (hbe.mono (Uh HD).size)
   have HF:=Hd ((Uh HBB).trans (h9.mono (Uh HBB).size))
   clear hbe KC h9
   go_wp2_with fail
   go_ret
   rw [Uh HR3]
   exact ⟨rfl,Uh HF⟩
def mnB (g:Bool):ByteArray:=if g then ⟨#[45]⟩ else ⟨#[]⟩
inductive PrR (g:Bool) (x y:List Nat):ByteArray → Int → Prop where
 | bad (h:MayR g x y = false):PrR g x y ⟨#[]⟩ 40
 | whole (n:Nat) (h:MayR g x y = true) (hy:y = [1]) (ht:TxtOf (val x) 10 n):PrR g x y (mnB g ++ strB (txtL (val x) 10 n)) 0
 | frac (n m:Nat) (h:MayR g x y = true) (hy:y ≠ [1]) (ht:TxtOf (val x) 10 n) (hm:TxtOf (val y) 10 m):PrR g x y (mnB g ++ (strB (txtL (val x) 10 n) ++ (⟨#[47]⟩ ++ strB (txtL (val y) 10 m)))) 0
def PrRPost (g:Bool) (x y:List Nat) (w:World) (e:Ending) (w':World):Prop :=
 ∃ s er,e = .returned (.tuple #[.string s,.int .i64 er]) ∧ PrR g x y s er ∧ Below w.heap.size w w'

theorem txt_len {xs:List Nat} {k:Nat} (ox:Ok xs) (m:MayL xs = true) (h:TxtOf (val xs) 10 k):(strB (txtL (val xs) 10 k)).size ≤ 70000:=by
 have hl:(strB (txtL (val xs) 10 k)).size = k:=by unfold strB; rw [strOfNums_size]; simp only [List.length_map]; exact lst_len _ _
 rw [hl]
 rcases h.ge with e | e
 ·omega
 ·have h1:=val_lt ox
  have h2:=MayL.len m
  have h3:2 ^ (k - 1) ≤ 10 ^ (k - 1):=Nat.pow_le_pow_left (by decide) _
  rw [pow_limb] at h1
  have h4:=(Nat.pow_lt_pow_iff_right (by decide:1 < 2)).1 (show 2 ^ (k - 1) < 2 ^ (32 * xs.length) by omega)
  omega
theorem mnB_size (g:Bool):(mnB g).size ≤ 1:=by cases g <;> decide

set_option maxHeartbeats 4000000 in
theorem digits_any (a:Option Addr) (n c:Nat) (xs:List Nat) (w:World) (h:Sl w a n c xs) (ox:Ok xs) (m:MayL xs = true) :
  Calls Tryz.prog 29 #[.slice a n c] w fun e w' => ∃ k,TxtOf (val xs) 10 k ∧ e = .returned (.string (strB (txtL (val xs) 10 k))) ∧ Below w.heap.size w w':=by
 have K:=Hd (nprint_any a n c xs 10 w h ox)
 have HM:=Hd m
 clear h m
 go_enter Tryz.func29,Tryz.ntmps29
 go_wp2_with fail
 refine (Uh K).mono ?_
 rintro _ w' ⟨s,er,rfl,hp,hb⟩
 have H:=Hd (And.intro hp hb)
 clear hp hb K
 go_wp2_with fail
 go_ret
 obtain ⟨hp,hb⟩:=Uh H
 cases hp with
 | nat k => rw [Uh HM] at k; cases k
 | base k kb => exact absurd (by decide) kb
 | text k _ _ ht => exact ⟨k,ht,rfl,hb⟩

theorem ratMinusS_any (g:Bool) (w:World):Calls Tryz.prog 30 #[.bool g] w fun e w' => e = .returned (.string (mnB g)) ∧ w' = w:=by
 cases g
 ·go_enter Tryz.func30,Tryz.ntmps30
  go_wp2
  go_ret
  exact ⟨rfl,rfl⟩
 ·go_enter Tryz.func30,Tryz.ntmps30
  go_wp2
  go_ret
  exact ⟨rfl,rfl⟩

set_option maxHeartbeats 8000000 in
theorem ratPrint_any (g:Bool) (a b:Option Addr) (n c m d:Nat) (x y:List Nat) (w:World) (hx:Sl w a n c x) (hy:Sl w b m d y) (ox:Ok x) (oy:Ok y) (hT:Tab64 w) :
  Calls Tryz.prog 7 #[ratV g a n c b m d] w fun e w' => PrRPost g x y w e w':=by
 have bx:=Box.made w g a n c b m d
 obtain ⟨wa,hwa⟩:∃ wa,ratBox w g a n c b m d = wa:=⟨_,rfl⟩
 rw [hwa] at bx
 have hba:Below w.heap.size w wa:=by rw [← hwa]; exact bAl
 unfold ratBox at hwa
 have p0:=bx.d0
 have p1:=bx.d1
 have p2:=bx.d2
 have KM:=ratMay_any g a b n c m d x y wa (hx.below hba) (hy.below hba) ox oy (hT.below hba)
 have HBx:=Hd bx
 have HBa:=Hd hba
 unfold ratV at KM ⊢
 cases hm:MayR g x y
 ·rw [hm] at KM
  have HKM:=Hd KM
  have HR:=Hd (PrR.bad hm)
  clear KM hx hy hT bx hba hm
  go_enter Tryz.func7,Tryz.ntmps7
  go_wp2_with fail
  refine (Uh HKM).mono ?_
  rintro _ wb ⟨rfl,hbb⟩
  have HB:=Hd ((Uh HBa).trans (hbb.mono (Uh HBa).size))
  clear hbb HKM
  go_wp2_with fail
  go_ret2
  exact ⟨_,_,rfl,Uh HR,Uh HB⟩
 ·rw [hm] at KM
  obtain ⟨kx,ky,ey,_,_⟩:=MayR.parts hm
  have HKM:=Hd KM
  have HX:=Hd (And.intro hx hy)
  have HM:=Hd (And.intro hm (And.intro kx ky))
  clear KM hx hy hT bx hba hm kx ky ey
  go_enter Tryz.func7,Tryz.ntmps7
  go_wp2_with fail
  refine (Uh HKM).mono ?_
  rintro _ wb ⟨rfl,hbb⟩
  have b2:=(Uh HBx).keep hbb
  have r0:=b2.d0
  have r1:=b2.d1
  have r2:=b2.d2
  have hB:=(Uh HBa).trans (hbb.mono (Uh HBa).size)
  have KD:=digits_any a n c x wb ((Uh HX).1.below hB) ox (Uh HM).2.1
  have HKD:=Hd KD
  have HB:=Hd hB
  have HB2:=Hd b2
  clear hbb HKM b2 p0 p1 p2 KD hB
  go_wp2_with fail
  refine (Uh HKD).mono ?_
  rintro _ wc ⟨k1,ht1,rfl,hbc⟩
  have hC:=(Uh HB).trans (hbc.mono (Uh HB).size)
  have b3:=(Uh HB2).keep hbc
  have q0:=b3.d0
  have q1:=b3.d1
  have q2:=b3.d2
  have KO:=isOne_any b m d y wc ((Uh HX).2.below hC) oy
  have HT1:=Hd ht1
  obtain ⟨S1,hS1⟩:∃ S1,strB (txtL (val x) 10 k1) = S1:=⟨_,rfl⟩
  rw [hS1]
  have HS1:=Hd hS1
  have l1:=txt_len ox (Uh HM).2.1 ht1
  rw [hS1] at l1
  have l3:=mnB_size g
  obtain ⟨MB,hMB⟩:∃ MB,mnB g = MB:=⟨_,rfl⟩
  rw [hMB] at l3
  have KMB:∀ W,Calls Tryz.prog 30 #[.bool g] W fun e w' => e = .returned (.string MB) ∧ w' = W:=fun W => by rw [← hMB]; exact ratMinusS_any g W
  have HMB:=Hd hMB
  have HKMB:=Hd KMB
  clear hMB KMB
  by_cases e1:y = [1]
  ·rw [decide_eq_true e1] at KO
   have HKO:=Hd KO
   have HE:=Hd e1
   have HC:=Hd hC
   clear ht1 hS1 hC hbc b3 KO e1 r0 r1 r2 HKD
   go_wp2_with fail
   refine (Uh HKO).mono ?_
   rintro _ _ ⟨rfl,hw⟩
   obtain rfl:=hw.symm
   clear hw HKO
   go_wp2_with fail
   refine (Uh HKMB wc).mono ?_
   rintro _ _ ⟨rfl,hw⟩
   obtain rfl:=hw.symm
   clear hw
   go_wp2_with fail
   go_ret2
   exact ⟨_,_,rfl,by rw [← Uh HS1,← Uh HMB]; exact PrR.whole k1 (Uh HM).1 (Uh HE) (Uh HT1),Uh HC⟩
  ·rw [decide_eq_false e1] at KO
   have HKO:=Hd KO
   have HE:=Hd e1
   have KD2:=Hd (digits_any b m d y wc ((Uh HX).2.below hC) oy (Uh HM).2.2)
   have HC:=Hd hC
   have HB3:=Hd b3
   clear ht1 hS1 hC hbc b3 KO e1 r0 r1 r2 HKD
   go_wp2_with fail
   refine (Uh HKO).mono ?_
   rintro _ _ ⟨rfl,hw⟩
   obtain rfl:=hw.symm
   clear hw HKO
   go_wp2_with fail
   refine (Uh KD2).mono ?_
   rintro _ wd ⟨k2,ht2,rfl,hbd⟩
   obtain ⟨S2,hS2⟩:∃ S2,strB (txtL (val y) 10 k2) = S2:=⟨_,rfl⟩
   rw [hS2]
   have HS2:=Hd (And.intro hS2 ht2)
   have l2:=txt_len oy (Uh HM).2.2 ht2
   rw [hS2] at l2
   have b4:=(Uh HB3).keep hbd
   have s0:=b4.d0
   have HD:=Hd ((Uh HC).trans (hbd.mono (Uh HC).size))
   clear ht2 hS2 hbd b4 q0 q1 q2 KD2
   go_wp2_with fail
   refine (Uh HKMB wd).mono ?_
   rintro _ _ ⟨rfl,hw⟩
   obtain rfl:=hw.symm
   clear hw
   go_wp2_with fail
   go_ret2
   exact ⟨_,_,rfl,by rw [← Uh HS1,← (Uh HS2).1,← Uh HMB]; exact PrR.frac k1 k2 (Uh HM).1 (Uh HE) (Uh HT1) (Uh HS2).2,Uh HD⟩
end Go.Proofs.YtpbcnkcnjnefiaaGreatDoor
