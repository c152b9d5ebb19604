/- Wih -/
import Derived.Test.YtmmeiebbnjjijaaGreatDoorWil
import Derived.Test.YtmmeiebbnjjijaaGreatDoorWip
import Derived.Test.YtmmeiebbnjjijaaGreatDoorRd1
import Derived.Test.YtmmeiebbnjjijaaGreatDoorMul
import Derived.Laws.BytesArg
import Derived.Test.YtmmeiebbnjjijaaGreatDoorDv4
import Derived.Test.YtmmeiebbnjjijaaGreatDoorCmp
import Derived.Deep.LoopGhost
import Derived.Test.YtmmeiebbnjjijaaGreatDoorFo4
import Derived.Test.YtmmeiebbnjjijaaGreatDoorGiv
namespace Go.Proofs.YtmmeiebbnjjijaaGreatDoor
open Go.RowKit Go.Deep
set_option linter.unusedVariables false
set_option maxHeartbeats 8000000 in
set_option maxRecDepth 100000 in
theorem pairAdd_any (g1 g2:Bool) (a1 b1 a2 b2:Option Addr) (n1 c1 m1 d1 n2 c2 m2 d2:Nat) (x1 y1 x2 y2:List Nat) (w:World) (hx1:Sl w a1 n1 c1 x1) (hy1:Sl w b1 m1 d1 y1) (hx2:Sl w a2 n2 c2 x2) (hy2:Sl w b2 m2 d2 y2) (ox1:Ok x1) (oy1:Ok y1) (ox2:Ok x2) (oy2:Ok y2) (hT:Tab64 w) (ng:Bool) (zs us:List Nat) (er:Int)
  (hF:(MayR g1 x1 y1 && MayR g2 x2 y2) = true → ∀ W,Below w.heap.size w W → Calls Tryz.prog 95 #[ratV g1 a1 n1 c1 b1 m1 d1,ratV g2 a2 n2 c2 b2 m2 d2] W fun e w' => ResR W w' ng zs us er e) (hno:(MayR g1 x1 y1 && MayR g2 x2 y2) = false → ng = false ∧ zs = [] ∧ us = [] ∧ er = 40) :
  Calls Tryz.prog 41 #[ratV g1 a1 n1 c1 b1 m1 d1,ratV g2 a2 n2 c2 b2 m2 d2,.func (.func 95) #[] #[]] w fun e w' => ResR w w' ng zs us er e:=by
 have bx:=Box.made w g1 a1 n1 c1 b1 m1 d1
 obtain ⟨wa,hwa⟩:∃ wa,ratBox w g1 a1 n1 c1 b1 m1 d1 = wa:=⟨_,rfl⟩
 rw [hwa] at bx
 have by_:=Box.made wa g2 a2 n2 c2 b2 m2 d2
 obtain ⟨wb,hwb⟩:∃ wb,ratBox wa g2 a2 n2 c2 b2 m2 d2 = wb:=⟨_,rfl⟩
 rw [hwb] at by_
 obtain ⟨wo,hwo⟩:∃ x,wb.alloc (.cells #[.bool false,.slice none 0 0,.slice none 0 0] 25) = x:=⟨_,rfl⟩
 have hba:Below w.heap.size w wa:=by rw [← hwa]; exact bAl
 have hbb:Below wa.heap.size wa wb:=by rw [← hwb]; exact bAl
 have hbo:Below wb.heap.size wb wo:=by rw [← hwo]; exact bAl
 have hO:Out wo wb.heap.size:=by rw [← hwo]; exact Out.made wb
 have bx2:=(bx.keep hbb).keep hbo
 have by2:=by_.keep hbo
 have hB:=(hba.trans (hbb.mono hba.size)).trans (hbo.mono (Nat.le_trans hba.size hbb.size))
 have Hwb:=Hd (show w.heap.size ≤ wb.heap.size from Nat.le_trans hba.size hbb.size)
 unfold ratBox at hwa hwb
 have p0:=bx2.d0
 have p1:=bx2.d1
 have p2:=bx2.d2
 have p3:=by2.d0
 have p4:=by2.d1
 have p5:=by2.d2
 have HM1:=Hd (fun (W:World) (hb:Below wo.heap.size wo W) => ratMay_any g1 a1 b1 n1 c1 m1 d1 x1 y1 W ((hx1.below hB).below hb) ((hy1.below hB).below hb) ox1 oy1 ((hT.below hB).below hb))
 have HM2:=Hd (fun (W:World) (hb:Below wo.heap.size wo W) => ratMay_any g2 a2 b2 n2 c2 m2 d2 x2 y2 W ((hx2.below hB).below hb) ((hy2.below hB).below hb) ox2 oy2 ((hT.below hB).below hb))
 have HFF:=Hd (fun hm (W:World) (hb:Below wo.heap.size wo W) => hF hm W (hB.trans (hb.mono hB.size)))
 have HBx:=Hd (And.intro bx2 by2)
 have HBB:=Hd hB
 have HO:=Hd hO
 have HNo:=Hd hno
 unfold ratV at HM1 HM2 HFF ⊢
 clear bx bx2 by_ by2 hba hbb hbo hB hO hx1 hy1 hx2 hy2 hT hF hno
 cases k1:MayR g1 x1 y1
 ·obtain ⟨rfl,rfl,rfl,rfl⟩:=Uh HNo (by rw [k1]; rfl)
  have KM:=Hd (Uh HM1 wo (Below.refl _ _))
  rw [k1] at KM
  clear HM1 HM2 HFF k1 HNo
  go_enter Tryz.func41,Tryz.ntmps41
  go_wp2_with fail
  refine (Uh KM).mono ?_
  rintro _ wy ⟨rfl,hby⟩
  clear KM p0 p1 p2 p3 p4 p5
  have hO3:=(Uh HO).keep hby
  obtain ⟨i0,o0⟩:=hO3.cells 0 (by decide)
  obtain ⟨i1,o1⟩:=hO3.cells 1 (by decide)
  obtain ⟨i2,o2⟩:=hO3.cells 2 (by decide)
  have f0:=hO3.fz 0 (by decide)
  have f1:=hO3.fz 1 (by decide)
  have f2:=hO3.fz 2 (by decide)
  have H4:=Hd (three_set wy wb.heap.size (.bool false) (.slice none 0 0) (.slice none 0 0) hO3.cells)
  have HBy:=Hd hby
  clear hO3 hby
  go_wp2_with fail
  obtain ⟨t0,t1,t2,c4⟩:=Uh H4
  generalize ((wy.setCell ⟨wb.heap.size,0,none⟩ (.bool false)).setCell ⟨wb.heap.size,1,none⟩ (.slice none 0 0)).setCell ⟨wb.heap.size,2,none⟩ (.slice none 0 0) = wk at *
  refine bodyPost_ret (by simp [results,Tryz.results41,go_sem,t0,t1,t2]; try rfl) rfl ?_
  have hBy:Below w.heap.size w wy:=(Uh HBB).trans ((Uh HBy).mono (Uh HBB).size)
  have hBk:Below w.heap.size w wk:=hBy.trans (c4.below hBy.size (fun k hk => by have:=Uh Hwb; omega))
  exact ⟨_,rfl,none,0,0,none,0,0,rfl,⟨rfl,Nat.le_refl _,Nat.zero_le _,.inl rfl⟩,⟨rfl,Nat.le_refl _,Nat.zero_le _,.inl rfl⟩,(fun x hx => by cases hx),(fun x hx => by cases hx),hBk⟩
 ·have KM:=Hd (Uh HM1 wo (Below.refl _ _))
  rw [k1] at KM
  cases k2:MayR g2 x2 y2
  ·obtain ⟨rfl,rfl,rfl,rfl⟩:=Uh HNo (by rw [k1,k2]; rfl)
   have HM:=Hd (fun W hb => (by have K:=Uh HM2 W hb; rw [k2] at K; exact K:Calls Tryz.prog 7 #[.agg #[.bool g2,.slice a2 n2 c2,.slice b2 m2 d2]] W fun e w' => e = .returned (.bool false) ∧ Below W.heap.size W w'))
   clear HM1 HM2 HFF k1 k2 HNo
   go_enter Tryz.func41,Tryz.ntmps41
   go_wp2_with fail
   refine (Uh KM).mono ?_
   rintro _ wc ⟨rfl,hbc⟩
   have b2_:=(Uh HBx).2.keep hbc
   have r0:=b2_.d0
   have r1:=b2_.d1
   have r2:=b2_.d2
   have KM2:=Hd (Uh HM wc hbc)
   have HBc:=Hd hbc
   clear hbc KM b2_ HM p0 p1 p2 p3 p4 p5
   go_wp2_with fail
   refine (Uh KM2).mono ?_
   rintro _ wy ⟨rfl,hbd⟩
   have hby:=(Uh HBc).trans (hbd.mono (Uh HBc).size)
   clear KM2 r0 r1 r2 hbd
   have hO3:=(Uh HO).keep hby
   obtain ⟨i0,o0⟩:=hO3.cells 0 (by decide)
   obtain ⟨i1,o1⟩:=hO3.cells 1 (by decide)
   obtain ⟨i2,o2⟩:=hO3.cells 2 (by decide)
   have f0:=hO3.fz 0 (by decide)
   have f1:=hO3.fz 1 (by decide)
   have f2:=hO3.fz 2 (by decide)
   have H4:=Hd (three_set wy wb.heap.size (.bool false) (.slice none 0 0) (.slice none 0 0) hO3.cells)
   have HBy:=Hd hby
   clear hO3 hby
   go_wp2_with fail
   obtain ⟨t0,t1,t2,c4⟩:=Uh H4
   generalize ((wy.setCell ⟨wb.heap.size,0,none⟩ (.bool false)).setCell ⟨wb.heap.size,1,none⟩ (.slice none 0 0)).setCell ⟨wb.heap.size,2,none⟩ (.slice none 0 0) = wk at *
   refine bodyPost_ret (by simp [results,Tryz.results41,go_sem,t0,t1,t2]; try rfl) rfl ?_
   have hBy:Below w.heap.size w wy:=(Uh HBB).trans ((Uh HBy).mono (Uh HBB).size)
   have hBk:Below w.heap.size w wk:=hBy.trans (c4.below hBy.size (fun k hk => by have:=Uh Hwb; omega))
   exact ⟨_,rfl,none,0,0,none,0,0,rfl,⟨rfl,Nat.le_refl _,Nat.zero_le _,.inl rfl⟩,⟨rfl,Nat.le_refl _,Nat.zero_le _,.inl rfl⟩,(fun x hx => by cases hx),(fun x hx => by cases hx),hBk⟩
  ·have HM:=Hd (fun W hb => (by have K:=Uh HM2 W hb; rw [k2] at K; exact K:Calls Tryz.prog 7 #[.agg #[.bool g2,.slice a2 n2 c2,.slice b2 m2 d2]] W fun e w' => e = .returned (.bool true) ∧ Below W.heap.size W w'))
   have HF:=Hd (Uh HFF (by rw [k1,k2]; rfl))
   clear HM1 HM2 HFF k1 k2 HNo
   go_enter Tryz.func41,Tryz.ntmps41
   go_wp2_with fail
   refine (Uh KM).mono ?_
   rintro _ wc ⟨rfl,hbc⟩
   have bb:=And.intro ((Uh HBx).1.keep hbc) ((Uh HBx).2.keep hbc)
   have r0:=bb.2.d0
   have r1:=bb.2.d1
   have r2:=bb.2.d2
   have KM2:=Hd (Uh HM wc hbc)
   have HBc:=Hd hbc
   have HB2:=Hd bb
   clear hbc KM bb HM p0 p1 p2 p3 p4 p5
   go_wp2_with fail
   refine (Uh KM2).mono ?_
   rintro _ wd ⟨rfl,hbd⟩
   have b3:=(Uh HB2).1.keep hbd
   have b4:=(Uh HB2).2.keep hbd
   have u0:=b3.d0
   have u1:=b3.d1
   have u2:=b3.d2
   have v0:=b4.d0
   have v1:=b4.d1
   have v2:=b4.d2
   have hbd2:=(Uh HBc).trans (hbd.mono (Uh HBc).size)
   have KF:=Hd (Uh HF wd hbd2)
   have HD:=Hd hbd2
   clear hbd KM2 b3 b4 HF r0 r1 r2 hbd2
   go_wp2_with fail
   refine (Uh KF).mono ?_
   rintro _ wy ⟨v,rfl,aN,mN,cN,aM,mM,cM,rfl,sN,sM,nN,nM,bY⟩
   have hby:=(Uh HD).trans (bY.mono (Uh HD).size)
   have hlt9:wb.heap.size < wd.heap.size:=Nat.lt_of_lt_of_le (Uh HO).lt (Uh HD).size
   have HX:=Hd (And.intro sN (And.intro sM (And.intro nN nM)))
   clear KF u0 u1 u2 v0 v1 v2 sN sM nN nM bY
   unfold ratV
   have hO3:=(Uh HO).keep hby
   obtain ⟨i0,o0⟩:=hO3.cells 0 (by decide)
   obtain ⟨i1,o1⟩:=hO3.cells 1 (by decide)
   obtain ⟨i2,o2⟩:=hO3.cells 2 (by decide)
   have f0:=hO3.fz 0 (by decide)
   have f1:=hO3.fz 1 (by decide)
   have f2:=hO3.fz 2 (by decide)
   have H4:=Hd (three_set wy wb.heap.size (.bool ng) (.slice aN mN cN) (.slice aM mM cM) hO3.cells)
   have HBy:=Hd hby
   clear hO3 hby
   go_wp2_with fail
   obtain ⟨t0,t1,t2,c4⟩:=Uh H4
   generalize ((wy.setCell ⟨wb.heap.size,0,none⟩ (.bool ng)).setCell ⟨wb.heap.size,1,none⟩ (.slice aN mN cN)).setCell ⟨wb.heap.size,2,none⟩ (.slice aM mM cM) = wk at *
   refine bodyPost_ret (by simp [results,Tryz.results41,go_sem,t0,t1,t2]; try rfl) rfl ?_
   have hBy:Below w.heap.size w wy:=(Uh HBB).trans ((Uh HBy).mono (Uh HBB).size)
   have hBk:Below w.heap.size w wk:=hBy.trans (c4.below hBy.size (fun k hk => by have:=Uh Hwb; omega))
   have hwd:w.heap.size ≤ wd.heap.size:=Nat.le_trans (Uh HBB).size (Uh HD).size
   exact ⟨_,rfl,aN,mN,cN,aM,mM,cM,rfl,(Uh HX).1.chg c4 (fun x hx _ h => by have h1:=(Uh HX).2.2.1 x hx; omega),(Uh HX).2.1.chg c4 (fun x hx _ h => by have h1:=(Uh HX).2.2.2 x hx; omega),(fun x hx => Nat.le_trans hwd ((Uh HX).2.2.1 x hx)),(fun x hx => Nat.le_trans hwd ((Uh HX).2.2.2 x hx)),hBk⟩

set_option maxHeartbeats 8000000 in
set_option maxRecDepth 100000 in
theorem ratAdd_face (g1 g2:Bool) (a1 b1 a2 b2:Option Addr) (n1 c1 m1 d1 n2 c2 m2 d2:Nat) (x1 y1 x2 y2:List Nat) (w:World) (hx1:Sl w a1 n1 c1 x1) (hy1:Sl w b1 m1 d1 y1) (hx2:Sl w a2 n2 c2 x2) (hy2:Sl w b2 m2 d2 y2) (ox1:Ok x1) (oy1:Ok y1) (ox2:Ok x2) (oy2:Ok y2) (hT:Tab64 w) (ng:Bool) (zs us:List Nat) (er:Int)
  (hF:(MayR g1 x1 y1 && MayR g2 x2 y2) = true → ∀ W,Below w.heap.size w W → Calls Tryz.prog 95 #[ratV g1 a1 n1 c1 b1 m1 d1,ratV g2 a2 n2 c2 b2 m2 d2] W fun e w' => ResR W w' ng zs us er e) (hno:(MayR g1 x1 y1 && MayR g2 x2 y2) = false → ng = false ∧ zs = [] ∧ us = [] ∧ er = 40) :
  Calls Tryz.prog 38 #[ratV g1 a1 n1 c1 b1 m1 d1,ratV g2 a2 n2 c2 b2 m2 d2] w fun e w' => ResR w w' ng zs us er e:=by
 have bx:=Box.made w g1 a1 n1 c1 b1 m1 d1
 obtain ⟨wa,hwa⟩:∃ wa,ratBox w g1 a1 n1 c1 b1 m1 d1 = wa:=⟨_,rfl⟩
 rw [hwa] at bx
 have by_:=Box.made wa g2 a2 n2 c2 b2 m2 d2
 obtain ⟨wb,hwb⟩:∃ wb,ratBox wa g2 a2 n2 c2 b2 m2 d2 = wb:=⟨_,rfl⟩
 rw [hwb] at by_
 obtain ⟨wo,hwo⟩:∃ x,wb.alloc (.cells #[.bool false,.slice none 0 0,.slice none 0 0] 25) = x:=⟨_,rfl⟩
 have hba:Below w.heap.size w wa:=by rw [← hwa]; exact bAl
 have hbb:Below wa.heap.size wa wb:=by rw [← hwb]; exact bAl
 have hbo:Below wb.heap.size wb wo:=by rw [← hwo]; exact bAl
 have hO:Out wo wb.heap.size:=by rw [← hwo]; exact Out.made wb
 have bx2:=(bx.keep hbb).keep hbo
 have by2:=by_.keep hbo
 have hB:=(hba.trans (hbb.mono hba.size)).trans (hbo.mono (Nat.le_trans hba.size hbb.size))
 have Hwb:=Hd (show w.heap.size ≤ wb.heap.size from Nat.le_trans hba.size hbb.size)
 unfold ratBox at hwa hwb
 have p0:=bx2.d0
 have p1:=bx2.d1
 have p2:=bx2.d2
 have p3:=by2.d0
 have p4:=by2.d1
 have p5:=by2.d2
 have KP:=pairAdd_any g1 g2 a1 b1 a2 b2 n1 c1 m1 d1 n2 c2 m2 d2 x1 y1 x2 y2 wo (hx1.below hB) (hy1.below hB) (hx2.below hB) (hy2.below hB) ox1 oy1 ox2 oy2 (hT.below hB) ng zs us er (fun hm W hb => hF hm W (hB.trans (hb.mono hB.size))) hno
 unfold ratV at KP ⊢
 have HKP:=Hd KP
 have HBB:=Hd hB
 have HO:=Hd hO
 clear bx bx2 by_ by2 hba hbb hbo hB hO hx1 hy1 hx2 hy2 hT KP hF hno
 go_enter Tryz.func38,Tryz.ntmps38
 go_wp2_with fail
 refine (Uh HKP).mono ?_
 rintro _ wy ⟨v,rfl,aN,mN,cN,aM,mM,cM,rfl,sN,sM,nN,nM,hby⟩
 have hlt9:wb.heap.size < wo.heap.size:=(Uh HO).lt
 have HX:=Hd (And.intro sN (And.intro sM (And.intro nN nM)))
 clear HKP p0 p1 p2 p3 p4 p5 sN sM nN nM
 unfold ratV
 have hO3:=(Uh HO).keep hby
 obtain ⟨i0,o0⟩:=hO3.cells 0 (by decide)
 obtain ⟨i1,o1⟩:=hO3.cells 1 (by decide)
 obtain ⟨i2,o2⟩:=hO3.cells 2 (by decide)
 have f0:=hO3.fz 0 (by decide)
 have f1:=hO3.fz 1 (by decide)
 have f2:=hO3.fz 2 (by decide)
 have H4:=Hd (three_set wy wb.heap.size (.bool ng) (.slice aN mN cN) (.slice aM mM cM) hO3.cells)
 have HBy:=Hd hby
 clear hO3 hby
 go_wp2_with fail
 obtain ⟨t0,t1,t2,c4⟩:=Uh H4
 generalize ((wy.setCell ⟨wb.heap.size,0,none⟩ (.bool ng)).setCell ⟨wb.heap.size,1,none⟩ (.slice aN mN cN)).setCell ⟨wb.heap.size,2,none⟩ (.slice aM mM cM) = wk at *
 refine bodyPost_ret (by simp [results,Tryz.results38,go_sem,t0,t1,t2]; try rfl) rfl ?_
 have hBy:Below w.heap.size w wy:=(Uh HBB).trans ((Uh HBy).mono (Uh HBB).size)
 have hBk:Below w.heap.size w wk:=hBy.trans (c4.below hBy.size (fun k hk => by have:=Uh Hwb; omega))
 have hwd:w.heap.size ≤ wo.heap.size:=(Uh HBB).size
 exact ⟨_,rfl,aN,mN,cN,aM,mM,cM,rfl,(Uh HX).1.chg c4 (fun x hx _ h => by have h1:=(Uh HX).2.2.1 x hx; omega),(Uh HX).2.1.chg c4 (fun x hx _ h => by have h1:=(Uh HX).2.2.2 x hx; omega),(fun x hx => Nat.le_trans hwd ((Uh HX).2.2.1 x hx)),(fun x hx => Nat.le_trans hwd ((Uh HX).2.2.2 x hx)),hBk⟩

def nI (g:Bool) (v:Nat):Int:=if g then -(v:Int) else (v:Int)
theorem nI_mul (g:Bool) (v k:Nat):nI g (v * k) = nI g v * (k:Int):=by
 cases g <;> simp [nI,Int.neg_mul]
theorem nI_and (g:Bool) (v:Nat):nI (g && decide (v ≠ 0)) v = nI g v:=by
 cases g
 ·rfl
 ·by_cases h:v = 0
  ·subst h; rfl
  ·simp [nI,h]
theorem nI_inj {g h:Bool} {u v:Nat} (e:nI g u = nI h v) (hg:g = true → u ≠ 0) (hh:h = true → v ≠ 0):g = h ∧ u = v:=by
 cases g <;> cases h <;> simp [nI] at * <;> omega
theorem cop_quot {a b:Nat} (hb:0 < b):Nat.gcd (a / Nat.gcd a b) (b / Nat.gcd a b) = 1:=by
 have hg:0 < Nat.gcd a b:=Nat.gcd_pos_of_pos_right _ hb
 rw [Nat.gcd_div (Nat.gcd_dvd_left _ _) (Nat.gcd_dvd_right _ _)]
 exact Nat.div_self hg
theorem div_of {a b:Nat} (h:b ∣ a):a = a / b * b:=(Nat.div_mul_cancel h).symm
theorem low_one {X1 Y1 X2 Y2:Nat} {g1 g2:Bool} (l1:Nat.gcd X1 Y1 = 1) (l2:Nat.gcd X2 Y2 = 1) (p1:0 < Y1) (p2:0 < Y2) (z1:g1 = true → X1 ≠ 0) (z2:g2 = true → X2 ≠ 0) (h:nI g1 X1 * (Y2:Int) = nI g2 X2 * (Y1:Int)):g1 = g2 ∧ X1 = X2 ∧ Y1 = Y2:=by
 have h':nI g1 (X1 * Y2) = nI g2 (X2 * Y1):=by rw [nI_mul,nI_mul]; exact h
 obtain ⟨hg,he⟩:=nI_inj h' (fun hg => Nat.ne_of_gt (Nat.mul_pos (Nat.pos_of_ne_zero (z1 hg)) p2)) (fun hg => Nat.ne_of_gt (Nat.mul_pos (Nat.pos_of_ne_zero (z2 hg)) p1))
 have d1:Y1 ∣ Y2:=by
  have:Y1 ∣ X1 * Y2:=by rw [he]; exact Nat.dvd_mul_left _ _
  exact Nat.Coprime.dvd_of_dvd_mul_left (by show Nat.gcd Y1 X1 = 1; rw [Nat.gcd_comm]; exact l1) this
 have d2:Y2 ∣ Y1:=by
  have:Y2 ∣ X2 * Y1:=by rw [← he]; exact Nat.dvd_mul_left _ _
  exact Nat.Coprime.dvd_of_dvd_mul_left (by show Nat.gcd Y2 X2 = 1; rw [Nat.gcd_comm]; exact l2) this
 have hy:Y1 = Y2:=Nat.dvd_antisymm d1 d2
 subst hy
 exact ⟨hg,Nat.eq_of_mul_eq_mul_right p1 he,rfl⟩

theorem cmbV_val (g1 g2:Bool) (P Q:Nat):nI (cmbV g1 P g2 Q).2 (cmbV g1 P g2 Q).1 = nI g1 P + nI g2 Q:=by
 unfold cmbV
 by_cases h:g1 = g2
 ·subst h
  simp only [if_true]
  cases g1 <;> simp [nI] <;> omega
 ·rw [if_neg h]
  by_cases k:P < Q
  ·rw [if_pos k]
   cases g1 <;> cases g2 <;> simp [nI] at h ⊢ <;> omega
  ·rw [if_neg k]
   cases g1 <;> cases g2 <;> simp [nI] at h ⊢ <;> omega
theorem div_pos_of_dvd {a b:Nat} (h:b ∣ a) (ha:0 < a):0 < a / b:=Nat.div_pos (Nat.le_of_dvd ha h) (Nat.pos_of_dvd_of_pos h ha)
def AddF (g1:Bool) (x1 y1:List Nat) (g2:Bool) (x2 y2:List Nat):(Bool × List Nat × List Nat) × Int :=
 if MayR g1 x1 y1 && MayR g2 x2 y2 then (if bigN (adN g1 x1 y1 g2 x2 y2) || bigN (adD g1 x1 y1 g2 x2 y2) then ((false,[],[]),2) else (((adS g1 x1 y1 g2 x2 y2).2 && decide (adN g1 x1 y1 g2 x2 y2 ≠ 0),limbs (adN g1 x1 y1 g2 x2 y2),limbs (adD g1 x1 y1 g2 x2 y2)),0)) else ((false,[],[]),40)
theorem ratAdd_any (g1 g2:Bool) (a1 b1 a2 b2:Option Addr) (n1 c1 m1 d1 n2 c2 m2 d2:Nat) (x1 y1 x2 y2:List Nat) (w:World) (hx1:Sl w a1 n1 c1 x1) (hy1:Sl w b1 m1 d1 y1) (hx2:Sl w a2 n2 c2 x2) (hy2:Sl w b2 m2 d2 y2) (ox1:Ok x1) (oy1:Ok y1) (ox2:Ok x2) (oy2:Ok y2) (hT:Tab64 w) :
  Calls Tryz.prog 38 #[ratV g1 a1 n1 c1 b1 m1 d1,ratV g2 a2 n2 c2 b2 m2 d2] w fun e w' => ResR w w' (AddF g1 x1 y1 g2 x2 y2).1.1 (AddF g1 x1 y1 g2 x2 y2).1.2.1 (AddF g1 x1 y1 g2 x2 y2).1.2.2 (AddF g1 x1 y1 g2 x2 y2).2 e:=by
 refine ratAdd_face g1 g2 a1 b1 a2 b2 n1 c1 m1 d1 n2 c2 m2 d2 x1 y1 x2 y2 w hx1 hy1 hx2 hy2 ox1 oy1 ox2 oy2 hT _ _ _ _ (fun hm W hb => ?_) (fun hm => ?_)
 ·have h12:MayR g1 x1 y1 = true ∧ MayR g2 x2 y2 = true:=by simpa using hm
  obtain ⟨ka1,kb1,e1,_,_⟩:=MayR.parts h12.1
  obtain ⟨ka2,kb2,e2,_,_⟩:=MayR.parts h12.2
  refine (ratadd_any g1 g2 a1 b1 a2 b2 n1 c1 m1 d1 n2 c2 m2 d2 x1 y1 x2 y2 W (hx1.below hb) (hy1.below hb) (hx2.below hb) (hy2.below hb) ox1 oy1 ox2 oy2 ka1 kb1 ka2 kb2 e1 e2 (hT.below hb) (by_any W)).mono (fun e w' h => ?_)
  unfold MuPost at h
  unfold AddF
  rw [if_pos hm]
  split at h
  ·rename_i hbig
   rw [if_pos hbig]
   exact h
  ·rename_i hbig
   rw [if_neg hbig]
   exact h
 ·unfold AddF
  rw [hm]
  exact ⟨rfl,rfl,rfl,rfl⟩
def FnB (w:World) (b off n:Nat) (f:Nat → Nat):Prop :=
 ∀ i,i < n → w.cell? ⟨b,off + i,none⟩ = some (.int .u8 (f i:Nat)) ∧ w.frozen? ⟨b,off + i,none⟩ = false
theorem FnB.set {w:World} {b off n:Nat} {f:Nat → Nat} (h:FnB w b off n f) (k v:Nat) (hk:k < n) :
  FnB (w.setCell ⟨b,off + k,none⟩ (.int .u8 (v:Nat))) b off n (fun i => if i = k then v else f i):=by
 intro i hi
 refine ⟨?_,by rw [World.frozen?_setCell]; exact (h i hi).2⟩
 by_cases e:i = k
 ·subst e
  rw [World.cell?_setCell_same _ _ _ (h i hi).1]
  simp
 ·rw [World.cell?_setCell_other _ _ _ _ (by intro h; injection h with h1 h2; omega)]
  simp [e,(h i hi).1]
theorem FnB.congr {w:World} {b off n:Nat} {f g:Nat → Nat} (h:FnB w b off n f) (he:∀ i,i < n → f i = g i):FnB w b off n g:=fun i hi => by
 have:=h i hi
 rwa [he i hi] at this
theorem FnB.made (w:World) (n:Nat) (e:TypeId):FnB (w.alloc (.cells (madeCells #[.int .u8 0] n) e)) w.heap.size 0 n (fun _ => 0):=by
 intro i hi
 refine ⟨?_,by simp⟩
 simp [madeCells,hi,Nat.mod_one]

theorem Tryz.info_u8:(Tryz.prog.info? 5).map (fun i => (i.zero,i.size,i.bytes)) = some (some (.int .u8 0),1,1):=by kernel_rfl
theorem own_len {w:World} {base k:Nat} {e:TypeId} {v:Value} {ws:List Value} (h:w.ownsRow base e 1 v k ws):∃ a c,v = .slice a k c:=by
 rcases h.2 with ⟨e,h0⟩ | ⟨g,cap,cur,e,hb,h5,h6,h7,h8,h9⟩
 ·subst e h0
  exact ⟨none,0,rfl⟩
 ·subst e
  exact ⟨_,_,rfl⟩
structure SlB (w:World) (a:Option Addr) (n c:Nat) (bs:List Nat):Prop where
 len:bs.length = n
 le:n ≤ c
 ok:∀ x ∈ bs,x < 256
 cells:bs = [] ∨ ∃ b off,a = some ⟨b,off,none⟩ ∧ ∀ i,i < bs.length → w.cell? ⟨b,off + i,none⟩ = some (.int .u8 (bs.getD i 0:Nat))


def strB (bs:List Nat):ByteArray:=strOfNums (bs.map (fun x:Nat => (x:Int)))

theorem SlB.conv {w:World} {a:Option Addr} {n c:Nat} {bs:List Nat} (h:SlB w a n c bs) :
  (convert 207 9 (.slice a n c)).run Tryz.prog w = .ok (.string (strB bs)) w:=by
 have hl:=h.len
 cases a with
 | none =>
  rcases h.cells with e | ⟨b,off,e,_⟩
  ·subst e
   exact run_convert_bytes_nil w 207 5 Tryz.underlying207 Tryz.underlying5 n c 9 Tryz.underlying9
  ·cases e
 | some x =>
  rcases h.cells with e | ⟨b,off,e,hc⟩
  ·subst e
   simp at hl
   subst hl
   rw [run_convert_bytes_string w 207 9 5 _ 0 c Tryz.underlying207 Tryz.underlying5 Tryz.underlying9,run_bytesToString w x 0 c [] (by simpa using run_loadCells_list (P:=Tryz.prog) w x [] (by simp))]
   rfl
  ·cases e
   refine run_convert_bytes_arg w 207 5 Tryz.underlying207 Tryz.underlying5 b off n c (bs.map (fun x:Nat => (x:Int))) (by simpa using hl) (fun i hi => ?_) 9 Tryz.underlying9
   rw [hc i (by omega)]
   congr 2
   simp only [List.getD_eq_getElem?_getD,List.getElem?_map]
   cases bs[i]? <;> rfl
theorem lst_mem {f:Nat → Nat} {n x:Nat} (h:x ∈ lst f n):∃ i,i < n ∧ f i = x:=by
 simpa [lst] using h
def dgt (V b i:Nat):Nat:=V / b ^ i % b
def chrN (d:Nat):Nat:=if d < 10 then 48 + d else 87 + d
structure TxtOf (V b n:Nat):Prop where
 pos:1 ≤ n
 lt:V < b ^ n
 ge:n = 1 ∨ b ^ (n - 1) ≤ V

theorem TxtOf.le {V b n m:Nat} (hb:2 ≤ b) (h:TxtOf V b n) (g:TxtOf V b m):n ≤ m:=by
 rcases h.ge with e | e
 ·have:=g.pos; omega
 ·rcases Nat.lt_or_ge m n with k | k
  ·exfalso
   have h1:b ^ m ≤ b ^ (n - 1):=Nat.pow_le_pow_right (by omega) (by omega)
   have:=g.lt
   omega
  ·exact k
theorem TxtOf.uniq {V b n m:Nat} (hb:2 ≤ b) (h:TxtOf V b n) (g:TxtOf V b m):n = m:=Nat.le_antisymm (h.le hb g) (g.le hb h)

theorem dgt_lt (V i:Nat) {b:Nat} (hb:0 < b):dgt V b i < b:=Nat.mod_lt _ hb
theorem dgt_div (V b i j:Nat):dgt (V / b ^ i) b j = dgt V b (i + j):=by
 unfold dgt
 rw [Nat.div_div_eq_div_mul,← Nat.pow_add]
theorem dgt_mod (V b:Nat) {i j:Nat} (hb:0 < b) (h:j < i):dgt (V % b ^ i) b j = dgt V b j:=by
 unfold dgt
 obtain ⟨k,rfl⟩:∃ k,i = j + (k + 1):=⟨i - j - 1,by omega⟩
 rw [Nat.pow_add,Nat.mod_mul_right_div_self,Nat.pow_succ,Nat.mul_comm,Nat.mod_mul_right_mod]
theorem chrN_lt {d:Nat} (h:d < 36):chrN d < 256:=by unfold chrN; split <;> omega
theorem chrN_zero {d:Nat} (h:d < 36):chrN d = 48 ↔ d = 0:=by unfold chrN; split <;> omega

def txtL (V b n:Nat):List Nat:=lst (fun p => chrN (dgt V b (n - 1 - p))) n

open Go.RowKit Go.Deep
set_option linter.unusedVariables false

theorem ownsRow_below {w w':World} {base:Nat} {e:TypeId} {size:Nat} {v:Value} {n:Nat} {xs:List Value} (h:w.ownsRow base e size v n xs) (k:Below w.heap.size w w'):w'.ownsRow base e size v n xs:=by
 refine ⟨h.1,?_⟩
 rcases h.2 with e0 | ⟨g,cap,cur,e0,hb,h5,h6,h7,h8,h9⟩
 ·exact .inl e0
 ·exact .inr ⟨g,cap,cur,e0,hb,by rw [k.block g (by
   rcases Nat.lt_or_ge g w.heap.size with hlt | hge
   ·exact hlt
   ·simp [Array.getElem?_eq_none hge] at h5)]; exact h5,h6,h7,h8,h9⟩

inductive PrIs (xs:List Nat) (b:Int):ByteArray → Int → Prop where
 | nat (h:MayL xs = false):PrIs xs b (strB []) 20
 | base (h:MayL xs = true) (hb:¬ (2 ≤ b ∧ b ≤ 36)):PrIs xs b (strB []) 22
 | text (n:Nat) (h:MayL xs = true) (hb:2 ≤ b ∧ b ≤ 36) (ht:TxtOf (val xs) b.toNat n):PrIs xs b (strB (txtL (val xs) b.toNat n)) 0

def PrPost (xs:List Nat) (b:Int) (w:World) (e:Ending) (w':World):Prop :=
 ∃ s er,e = .returned (.tuple #[.string s,.int .i64 er]) ∧ PrIs xs b s er ∧ Below w.heap.size w w'

theorem FnB.slB {w:World} {b off n c:Nat} {f:Nat → Nat} (h:FnB w b off n f) (hc:n ≤ c) (hf:∀ i,i < n → f i < 256):SlB w (some ⟨b,off,none⟩) n c (lst f n):=by
 refine ⟨lst_len _ _,hc,fun x hx => ?_,.inr ⟨b,off,rfl,fun i hi => ?_⟩⟩
 ·obtain ⟨i,hi,rfl⟩:=lst_mem hx
  exact hf i hi
 ·rw [lst_len] at hi
  rw [lst_getD f n i hi]
  exact (h i hi).1
theorem chr_ok (V:Nat) {b:Nat} (hb:2 ≤ b) (hb2:b ≤ 36) (i:Nat):chrN (dgt V b i) < 256:=chrN_lt (by have:=dgt_lt V i (b:=b) (by omega); omega)

open Go.RowKit Go.Deep
set_option linter.unusedVariables false
end Go.Proofs.YtmmeiebbnjjijaaGreatDoor
namespace Go.Proofs.YtmmeiebbnjjijaaGreatDoor
open Go.RowKit Go.Deep
set_option linter.unusedVariables false
open Go.RowKit Go.Deep
set_option linter.unusedVariables false
structure Chunk (b c:Nat):Prop where
 pos:1 ≤ c
 le:c ≤ 31
 lt:b ^ c < 4294967296
 ge:4294967296 ≤ b ^ c * b

def ChPost (b:Nat) (w:World) (e:Ending) (w':World):Prop :=
 ∃ c,Chunk b c ∧ e = .returned (.tuple #[.int .i64 (c:Nat),.int .u32 (b ^ c:Nat)]) ∧ w' = w

theorem chunk_le {b c:Nat} (hb:2 ≤ b) (h:b ^ c < 4294967296):c ≤ 31:=by
 have h1:2 ^ c ≤ b ^ c:=Nat.pow_le_pow_left hb c
 have h2:2 ^ c < 2 ^ 32:=Nat.lt_of_le_of_lt h1 h
 have:=(Nat.pow_lt_pow_iff_right (by decide:1 < 2)).1 h2
 omega

set_option maxHeartbeats 4000000 in
theorem chunk_any (b:Nat) (hb:2 ≤ b) (hb2:b ≤ 36) (w:World) :
  Calls Tryz.prog 195 #[.int .i64 (b:Nat)] w fun e w' => ChPost b w e w':=by
 go_enter Tryz.func195,Tryz.ntmps195
 go_wp2_with fail
 go_loop [4,5] (fun cv wv => ∃ c:Nat,1 ≤ c ∧ b ^ c < 4294967296 ∧ cv = .int .i64 (c:Nat) ∧ wv = .int .u64 (b ^ c:Nat)) (fun cv _ => 32 - (intOf cv).toNat)
 case atStart => exact ⟨1,Nat.le_refl _,by simp; omega,rfl,by simp⟩
 case round =>
  obtain ⟨c,hc,hlt,rfl,rfl⟩:=hrel
  have hc31:=chunk_le hb hlt
  have hb36:b ^ c * b ≤ b ^ c * 36:=Nat.mul_le_mul_left _ hb2
  obtain ⟨p,hp⟩:∃ p,b ^ c * b = p:=⟨_,rfl⟩
  have hp1:b ^ (c + 1) = p:=by rw [Nat.pow_succ,hp]
  obtain ⟨W,hW⟩:∃ W,b ^ c = W:=⟨_,rfl⟩
  rw [hW] at hb36 hlt hp
  have e1:(W:Int) * (b:Int) = (p:Int):=by rw [← hp,Int.natCast_mul]
  rw [hp] at hb36
  have hp64:p < 18446744073709551616:=by omega
  have HW:=Hd hW
  have HP:=Hd hp1
  have HQ:=Hd hp
  by_cases hs:p < 4294967296
  ·have q1:(p:Int) / 4294967296 = 0:=by omega
   rw [hW]
   clear hW hp1 hp
   go_wp2_with fail
   exact ⟨⟨c + 1,by omega,by rw [Uh HP]; exact hs,by go_num,by rw [Uh HP]⟩,by simp [intOf]; omega⟩
  ·obtain ⟨q,hq⟩:∃ q,p / 4294967296 = q:=⟨_,rfl⟩
   have q1:(p:Int) / 4294967296 = (q:Int):=by omega
   have q2:((q:Int) == 0) = false:=by simp; omega
   have q3:¬ (q:Int) = 0:=by omega
   rw [hW]
   clear hW hp1 hp hq
   go_wp2_with fail
   go_ret2
   have HR:b ^ c * b = p:=by rw [Uh HW]; exact Uh HQ
   refine ⟨c,⟨hc,hc31,by rw [Uh HW]; exact hlt,by rw [HR]; omega⟩,by rw [Uh HW]; rfl,rfl⟩

set_option maxHeartbeats 4000000 in
theorem isBase_any (b:Int) (w:World) :
  Calls Tryz.prog 178 #[.int .i64 b] w fun e w' => e = .returned (.bool (decide (2 ≤ b ∧ b ≤ 36))) ∧ w' = w:=by
 by_cases h1:2 ≤ b
 ·by_cases h2:b ≤ 36
  ·go_enter Tryz.func178,Tryz.ntmps178
   go_wp2_with fail
   go_ret
   simp [h1,h2]
  ·go_enter Tryz.func178,Tryz.ntmps178
   go_wp2_with fail
   go_ret
   simp; omega
 ·go_enter Tryz.func178,Tryz.ntmps178
  go_wp2_with fail
  go_ret
  simp; omega
end Go.Proofs.YtmmeiebbnjjijaaGreatDoor
