/- Wih -/
import Derived.Test.YtmnlhnmlgncedaaGreatDoorWij
import Derived.Test.YtmnlhnmlgncedaaGreatDoorWil
import Derived.Test.YtmnlhnmlgncedaaGreatDoorWra
import Derived.Test.YtmnlhnmlgncedaaGreatDoorWip
import Derived.Test.YtmnlhnmlgncedaaGreatDoorWr2
import Derived.Test.YtmnlhnmlgncedaaGreatDoorPa2
import Derived.Test.YtmnlhnmlgncedaaGreatDoorCmp
namespace Go.Proofs.YtmnlhnmlgncedaaGreatDoor
open Go.RowKit Go.Deep
set_option linter.unusedVariables false
set_option maxHeartbeats 8000000 in
set_option maxRecDepth 100000 in
theorem pairAdd_any (g1 g2:Bool) (a1 b1 a2 b2:Option Addr) (n1 c1 m1 d1 n2 c2 m2 d2:Nat) (x1 y1 x2 y2:List Nat) (w:World) (hx1:Sl w a1 n1 c1 x1) (hy1:Sl w b1 m1 d1 y1) (hx2:Sl w a2 n2 c2 x2) (hy2:Sl w b2 m2 d2 y2) (ox1:Ok x1) (oy1:Ok y1) (ox2:Ok x2) (oy2:Ok y2) (hT:Tab64 w) (ng:Bool) (zs us:List Nat) (er:Int)
  (hF:(MayR g1 x1 y1 && MayR g2 x2 y2) = true → ∀ W,Below w.heap.size w W → Calls Tryz.prog 42 #[ratV g1 a1 n1 c1 b1 m1 d1,ratV g2 a2 n2 c2 b2 m2 d2] W fun e w' => ResR W w' ng zs us er e) (hno:(MayR g1 x1 y1 && MayR g2 x2 y2) = false → ng = false ∧ zs = [] ∧ us = [] ∧ er = 40) :
  Calls Tryz.prog 55 #[ratV g1 a1 n1 c1 b1 m1 d1,ratV g2 a2 n2 c2 b2 m2 d2,.func (.func 42) #[] #[]] w fun e w' => ResR w w' ng zs us er e:=by
 have bx:=Box.made w g1 a1 n1 c1 b1 m1 d1
 obtain ⟨wa,hwa⟩:∃ wa,ratBox w g1 a1 n1 c1 b1 m1 d1 = wa:=⟨_,rfl⟩
 rw [hwa] at bx
 have by_:=Box.made wa g2 a2 n2 c2 b2 m2 d2
 obtain ⟨wb,hwb⟩:∃ wb,ratBox wa g2 a2 n2 c2 b2 m2 d2 = wb:=⟨_,rfl⟩
 rw [hwb] at by_
 obtain ⟨wo,hwo⟩:∃ x,wb.alloc (.cells #[.bool false,.slice none 0 0,.slice none 0 0] 25) = x:=⟨_,rfl⟩
 have hba:Below w.heap.size w wa:=by rw [← hwa]; exact bAl
 have hbb:Below wa.heap.size wa wb:=by rw [← hwb]; exact bAl
 have hbo:Below wb.heap.size wb wo:=by rw [← hwo]; exact bAl
 have hO:Out wo wb.heap.size:=by rw [← hwo]; exact Out.made wb
 have bx2:=(bx.keep hbb).keep hbo
 have by2:=by_.keep hbo
 have hB:=(hba.trans (hbb.mono hba.size)).trans (hbo.mono (Nat.le_trans hba.size hbb.size))
 have Hwb:=Hj (show w.heap.size ≤ wb.heap.size from Nat.le_trans hba.size hbb.size)
 unfold ratBox at hwa hwb
 have p0:=bx2.d0
 have p1:=bx2.d1
 have p2:=bx2.d2
 have p3:=by2.d0
 have p4:=by2.d1
 have p5:=by2.d2
 have HM1:=Hj (fun (W:World) (hb:Below wo.heap.size wo W) => ratMay_any g1 a1 b1 n1 c1 m1 d1 x1 y1 W ((hx1.below hB).below hb) ((hy1.below hB).below hb) ox1 oy1 ((hT.below hB).below hb))
 have HM2:=Hj (fun (W:World) (hb:Below wo.heap.size wo W) => ratMay_any g2 a2 b2 n2 c2 m2 d2 x2 y2 W ((hx2.below hB).below hb) ((hy2.below hB).below hb) ox2 oy2 ((hT.below hB).below hb))
 have HFF:=Hj (fun hm (W:World) (hb:Below wo.heap.size wo W) => hF hm W (hB.trans (hb.mono hB.size)))
 have HBx:=Hj (And.intro bx2 by2)
 have HBB:=Hj hB
 have HO:=Hj hO
 have HNo:=Hj hno
 unfold ratV at HM1 HM2 HFF ⊢
 clear bx bx2 by_ by2 hba hbb hbo hB hO hx1 hy1 hx2 hy2 hT hF hno
 cases k1:MayR g1 x1 y1
 ·obtain ⟨rfl,rfl,rfl,rfl⟩:=Uh HNo (by rw [k1]; rfl)
  have KM:=Hj (Uh HM1 wo (Below.refl _ _))
  rw [k1] at KM
  clear HM1 HM2 HFF k1 HNo
  go_enter Tryz.func55,Tryz.ntmps55
  go_wp2_with fail
  refine (Uh KM).mono ?_
  rintro _ wy ⟨rfl,hby⟩
  clear KM p0 p1 p2 p3 p4 p5
  have hO3:=(Uh HO).keep hby
  obtain ⟨i0,o0⟩:=hO3.cells 0 (by decide)
  obtain ⟨i1,o1⟩:=hO3.cells 1 (by decide)
  obtain ⟨i2,o2⟩:=hO3.cells 2 (by decide)
  have f0:=hO3.fz 0 (by decide)
  have f1:=hO3.fz 1 (by decide)
  have f2:=hO3.fz 2 (by decide)
  have H4:=Hj (three_set wy wb.heap.size (.bool false) (.slice none 0 0) (.slice none 0 0) hO3.cells)
  have HBy:=Hj hby
  clear hO3 hby
  go_wp2_with fail
  obtain ⟨t0,t1,t2,c4⟩:=Uh H4
  generalize ((wy.setCell ⟨wb.heap.size,0,none⟩ (.bool false)).setCell ⟨wb.heap.size,1,none⟩ (.slice none 0 0)).setCell ⟨wb.heap.size,2,none⟩ (.slice none 0 0) = wk at *
  refine bodyPost_ret (by simp [results,Tryz.results55,go_sem,t0,t1,t2]; try rfl) rfl ?_
  have hBy:Below w.heap.size w wy:=(Uh HBB).trans ((Uh HBy).mono (Uh HBB).size)
  have hBk:Below w.heap.size w wk:=hBy.trans (c4.below hBy.size (fun k hk => by have:=Uh Hwb; omega))
  exact ⟨_,rfl,none,0,0,none,0,0,rfl,⟨rfl,Nat.le_refl _,Nat.zero_le _,.inl rfl⟩,⟨rfl,Nat.le_refl _,Nat.zero_le _,.inl rfl⟩,(fun x hx => by cases hx),(fun x hx => by cases hx),hBk⟩
 ·have KM:=Hj (Uh HM1 wo (Below.refl _ _))
  rw [k1] at KM
  cases k2:MayR g2 x2 y2
  ·obtain ⟨rfl,rfl,rfl,rfl⟩:=Uh HNo (by rw [k1,k2]; rfl)
   have HM:=Hj (fun W hb => (by have K:=Uh HM2 W hb; rw [k2] at K; exact K:Calls Tryz.prog 6 #[.agg #[.bool g2,.slice a2 n2 c2,.slice b2 m2 d2]] W fun e w' => e = .returned (.bool false) ∧ Below W.heap.size W w'))
   clear HM1 HM2 HFF k1 k2 HNo
   go_enter Tryz.func55,Tryz.ntmps55
   go_wp2_with fail
   refine (Uh KM).mono ?_
   rintro _ wc ⟨rfl,hbc⟩
   have b2_:=(Uh HBx).2.keep hbc
   have r0:=b2_.d0
   have r1:=b2_.d1
   have r2:=b2_.d2
   have KM2:=Hj (Uh HM wc hbc)
   have HBc:=Hj hbc
   clear hbc KM b2_ HM p0 p1 p2 p3 p4 p5
   go_wp2_with fail
   refine (Uh KM2).mono ?_
   rintro _ wy ⟨rfl,hbd⟩
   have hby:=(Uh HBc).trans (hbd.mono (Uh HBc).size)
   clear KM2 r0 r1 r2 hbd
   have hO3:=(Uh HO).keep hby
   obtain ⟨i0,o0⟩:=hO3.cells 0 (by decide)
   obtain ⟨i1,o1⟩:=hO3.cells 1 (by decide)
   obtain ⟨i2,o2⟩:=hO3.cells 2 (by decide)
   have f0:=hO3.fz 0 (by decide)
   have f1:=hO3.fz 1 (by decide)
   have f2:=hO3.fz 2 (by decide)
   have H4:=Hj (three_set wy wb.heap.size (.bool false) (.slice none 0 0) (.slice none 0 0) hO3.cells)
   have HBy:=Hj hby
   clear hO3 hby
   go_wp2_with fail
   obtain ⟨t0,t1,t2,c4⟩:=Uh H4
   generalize ((wy.setCell ⟨wb.heap.size,0,none⟩ (.bool false)).setCell ⟨wb.heap.size,1,none⟩ (.slice none 0 0)).setCell ⟨wb.heap.size,2,none⟩ (.slice none 0 0) = wk at *
   refine bodyPost_ret (by simp [results,Tryz.results55,go_sem,t0,t1,t2]; try rfl) rfl ?_
   have hBy:Below w.heap.size w wy:=(Uh HBB).trans ((Uh HBy).mono (Uh HBB).size)
   have hBk:Below w.heap.size w wk:=hBy.trans (c4.below hBy.size (fun k hk => by have:=Uh Hwb; omega))
   exact ⟨_,rfl,none,0,0,none,0,0,rfl,⟨rfl,Nat.le_refl _,Nat.zero_le _,.inl rfl⟩,⟨rfl,Nat.le_refl _,Nat.zero_le _,.inl rfl⟩,(fun x hx => by cases hx),(fun x hx => by cases hx),hBk⟩
  ·have HM:=Hj (fun W hb => (by have K:=Uh HM2 W hb; rw [k2] at K; exact K:Calls Tryz.prog 6 #[.agg #[.bool g2,.slice a2 n2 c2,.slice b2 m2 d2]] W fun e w' => e = .returned (.bool true) ∧ Below W.heap.size W w'))
   have HF:=Hj (Uh HFF (by rw [k1,k2]; rfl))
   clear HM1 HM2 HFF k1 k2 HNo
   go_enter Tryz.func55,Tryz.ntmps55
   go_wp2_with fail
   refine (Uh KM).mono ?_
   rintro _ wc ⟨rfl,hbc⟩
   have bb:=And.intro ((Uh HBx).1.keep hbc) ((Uh HBx).2.keep hbc)
   have r0:=bb.2.d0
   have r1:=bb.2.d1
   have r2:=bb.2.d2
   have KM2:=Hj (Uh HM wc hbc)
   have HBc:=Hj hbc
   have HB2:=Hj bb
   clear hbc KM bb HM p0 p1 p2 p3 p4 p5
   go_wp2_with fail
   refine (Uh KM2).mono ?_
   rintro _ wd ⟨rfl,hbd⟩
   have b3:=(Uh HB2).1.keep hbd
   have b4:=(Uh HB2).2.keep hbd
   have u0:=b3.d0
   have u1:=b3.d1
   have u2:=b3.d2
   have v0:=b4.d0
   have v1:=b4.d1
   have v2:=b4.d2
   have hbd2:=(Uh HBc).trans (hbd.mono (Uh HBc).size)
   have KF:=Hj (Uh HF wd hbd2)
   have HD:=Hj hbd2
   clear hbd KM2 b3 b4 HF r0 r1 r2 hbd2
   go_wp2_with fail
   refine (Uh KF).mono ?_
   rintro _ wy ⟨v,rfl,aN,mN,cN,aM,mM,cM,rfl,sN,sM,nN,nM,bY⟩
   have hby:=(Uh HD).trans (bY.mono (Uh HD).size)
   have hlt9:wb.heap.size < wd.heap.size:=Nat.lt_of_lt_of_le (Uh HO).lt (Uh HD).size
   have HX:=Hj (And.intro sN (And.intro sM (And.intro nN nM)))
   clear KF u0 u1 u2 v0 v1 v2 sN sM nN nM bY
   unfold ratV
   have hO3:=(Uh HO).keep hby
   obtain ⟨i0,o0⟩:=hO3.cells 0 (by decide)
   obtain ⟨i1,o1⟩:=hO3.cells 1 (by decide)
   obtain ⟨i2,o2⟩:=hO3.cells 2 (by decide)
   have f0:=hO3.fz 0 (by decide)
   have f1:=hO3.fz 1 (by decide)
   have f2:=hO3.fz 2 (by decide)
   have H4:=Hj (three_set wy wb.heap.size (.bool ng) (.slice aN mN cN) (.slice aM mM cM) hO3.cells)
   have HBy:=Hj hby
   clear hO3 hby
   go_wp2_with fail
   obtain ⟨t0,t1,t2,c4⟩:=Uh H4
   generalize ((wy.setCell ⟨wb.heap.size,0,none⟩ (.bool ng)).setCell ⟨wb.heap.size,1,none⟩ (.slice aN mN cN)).setCell ⟨wb.heap.size,2,none⟩ (.slice aM mM cM) = wk at *
   refine bodyPost_ret (by simp [results,Tryz.results55,go_sem,t0,t1,t2]; try rfl) rfl ?_
   have hBy:Below w.heap.size w wy:=(Uh HBB).trans ((Uh HBy).mono (Uh HBB).size)
   have hBk:Below w.heap.size w wk:=hBy.trans (c4.below hBy.size (fun k hk => by have:=Uh Hwb; omega))
   have hwd:w.heap.size ≤ wd.heap.size:=Nat.le_trans (Uh HBB).size (Uh HD).size
   exact ⟨_,rfl,aN,mN,cN,aM,mM,cM,rfl,(Uh HX).1.chg c4 (fun x hx _ h => by have h1:=(Uh HX).2.2.1 x hx; omega),(Uh HX).2.1.chg c4 (fun x hx _ h => by have h1:=(Uh HX).2.2.2 x hx; omega),(fun x hx => Nat.le_trans hwd ((Uh HX).2.2.1 x hx)),(fun x hx => Nat.le_trans hwd ((Uh HX).2.2.2 x hx)),hBk⟩

set_option maxHeartbeats 8000000 in
set_option maxRecDepth 100000 in
theorem ratAdd_face (g1 g2:Bool) (a1 b1 a2 b2:Option Addr) (n1 c1 m1 d1 n2 c2 m2 d2:Nat) (x1 y1 x2 y2:List Nat) (w:World) (hx1:Sl w a1 n1 c1 x1) (hy1:Sl w b1 m1 d1 y1) (hx2:Sl w a2 n2 c2 x2) (hy2:Sl w b2 m2 d2 y2) (ox1:Ok x1) (oy1:Ok y1) (ox2:Ok x2) (oy2:Ok y2) (hT:Tab64 w) (ng:Bool) (zs us:List Nat) (er:Int)
  (hF:(MayR g1 x1 y1 && MayR g2 x2 y2) = true → ∀ W,Below w.heap.size w W → Calls Tryz.prog 42 #[ratV g1 a1 n1 c1 b1 m1 d1,ratV g2 a2 n2 c2 b2 m2 d2] W fun e w' => ResR W w' ng zs us er e) (hno:(MayR g1 x1 y1 && MayR g2 x2 y2) = false → ng = false ∧ zs = [] ∧ us = [] ∧ er = 40) :
  Calls Tryz.prog 22 #[ratV g1 a1 n1 c1 b1 m1 d1,ratV g2 a2 n2 c2 b2 m2 d2] w fun e w' => ResR w w' ng zs us er e:=by
 have bx:=Box.made w g1 a1 n1 c1 b1 m1 d1
 obtain ⟨wa,hwa⟩:∃ wa,ratBox w g1 a1 n1 c1 b1 m1 d1 = wa:=⟨_,rfl⟩
 rw [hwa] at bx
 have by_:=Box.made wa g2 a2 n2 c2 b2 m2 d2
 obtain ⟨wb,hwb⟩:∃ wb,ratBox wa g2 a2 n2 c2 b2 m2 d2 = wb:=⟨_,rfl⟩
 rw [hwb] at by_
 obtain ⟨wo,hwo⟩:∃ x,wb.alloc (.cells #[.bool false,.slice none 0 0,.slice none 0 0] 25) = x:=⟨_,rfl⟩
 have hba:Below w.heap.size w wa:=by rw [← hwa]; exact bAl
 have hbb:Below wa.heap.size wa wb:=by rw [← hwb]; exact bAl
 have hbo:Below wb.heap.size wb wo:=by rw [← hwo]; exact bAl
 have hO:Out wo wb.heap.size:=by rw [← hwo]; exact Out.made wb
 have bx2:=(bx.keep hbb).keep hbo
 have by2:=by_.keep hbo
 have hB:=(hba.trans (hbb.mono hba.size)).trans (hbo.mono (Nat.le_trans hba.size hbb.size))
 have Hwb:=Hj (show w.heap.size ≤ wb.heap.size from Nat.le_trans hba.size hbb.size)
 unfold ratBox at hwa hwb
 have p0:=bx2.d0
 have p1:=bx2.d1
 have p2:=bx2.d2
 have p3:=by2.d0
 have p4:=by2.d1
 have p5:=by2.d2
 have KP:=pairAdd_any g1 g2 a1 b1 a2 b2 n1 c1 m1 d1 n2 c2 m2 d2 x1 y1 x2 y2 wo (hx1.below hB) (hy1.below hB) (hx2.below hB) (hy2.below hB) ox1 oy1 ox2 oy2 (hT.below hB) ng zs us er (fun hm W hb => hF hm W (hB.trans (hb.mono hB.size))) hno
 unfold ratV at KP ⊢
 have HKP:=Hj KP
 have HBB:=Hj hB
 have HO:=Hj hO
 clear bx bx2 by_ by2 hba hbb hbo hB hO hx1 hy1 hx2 hy2 hT KP hF hno
 go_enter Tryz.func22,Tryz.ntmps22
 go_wp2_with fail
 refine (Uh HKP).mono ?_
 rintro _ wy ⟨v,rfl,aN,mN,cN,aM,mM,cM,rfl,sN,sM,nN,nM,hby⟩
 have hlt9:wb.heap.size < wo.heap.size:=(Uh HO).lt
 have HX:=Hj (And.intro sN (And.intro sM (And.intro nN nM)))
 clear HKP p0 p1 p2 p3 p4 p5 sN sM nN nM
 unfold ratV
 have hO3:=(Uh HO).keep hby
 obtain ⟨i0,o0⟩:=hO3.cells 0 (by decide)
 obtain ⟨i1,o1⟩:=hO3.cells 1 (by decide)
 obtain ⟨i2,o2⟩:=hO3.cells 2 (by decide)
 have f0:=hO3.fz 0 (by decide)
 have f1:=hO3.fz 1 (by decide)
 have f2:=hO3.fz 2 (by decide)
 have H4:=Hj (three_set wy wb.heap.size (.bool ng) (.slice aN mN cN) (.slice aM mM cM) hO3.cells)
 have HBy:=Hj hby
 clear hO3 hby
 go_wp2_with fail
 obtain ⟨t0,t1,t2,c4⟩:=Uh H4
 generalize ((wy.setCell ⟨wb.heap.size,0,none⟩ (.bool ng)).setCell ⟨wb.heap.size,1,none⟩ (.slice aN mN cN)).setCell ⟨wb.heap.size,2,none⟩ (.slice aM mM cM) = wk at *
 refine bodyPost_ret (by simp [results,Tryz.results22,go_sem,t0,t1,t2]; try rfl) rfl ?_
 have hBy:Below w.heap.size w wy:=(Uh HBB).trans ((Uh HBy).mono (Uh HBB).size)
 have hBk:Below w.heap.size w wk:=hBy.trans (c4.below hBy.size (fun k hk => by have:=Uh Hwb; omega))
 have hwd:w.heap.size ≤ wo.heap.size:=(Uh HBB).size
 exact ⟨_,rfl,aN,mN,cN,aM,mM,cM,rfl,(Uh HX).1.chg c4 (fun x hx _ h => by have h1:=(Uh HX).2.2.1 x hx; omega),(Uh HX).2.1.chg c4 (fun x hx _ h => by have h1:=(Uh HX).2.2.2 x hx; omega),(fun x hx => Nat.le_trans hwd ((Uh HX).2.2.1 x hx)),(fun x hx => Nat.le_trans hwd ((Uh HX).2.2.2 x hx)),hBk⟩


def AddF (g1:Bool) (x1 y1:List Nat) (g2:Bool) (x2 y2:List Nat):(Bool × List Nat × List Nat) × Int :=
 if MayR g1 x1 y1 && MayR g2 x2 y2 then (if bigN (adN g1 x1 y1 g2 x2 y2) || bigN (adD g1 x1 y1 g2 x2 y2) then ((false,[],[]),2) else (((adS g1 x1 y1 g2 x2 y2).2 && decide (adN g1 x1 y1 g2 x2 y2 ≠ 0),limbs (adN g1 x1 y1 g2 x2 y2),limbs (adD g1 x1 y1 g2 x2 y2)),0)) else ((false,[],[]),40)
theorem ratAdd_any (g1 g2:Bool) (a1 b1 a2 b2:Option Addr) (n1 c1 m1 d1 n2 c2 m2 d2:Nat) (x1 y1 x2 y2:List Nat) (w:World) (hx1:Sl w a1 n1 c1 x1) (hy1:Sl w b1 m1 d1 y1) (hx2:Sl w a2 n2 c2 x2) (hy2:Sl w b2 m2 d2 y2) (ox1:Ok x1) (oy1:Ok y1) (ox2:Ok x2) (oy2:Ok y2) (hT:Tab64 w) :
  Calls Tryz.prog 22 #[ratV g1 a1 n1 c1 b1 m1 d1,ratV g2 a2 n2 c2 b2 m2 d2] w fun e w' => ResR w w' (AddF g1 x1 y1 g2 x2 y2).1.1 (AddF g1 x1 y1 g2 x2 y2).1.2.1 (AddF g1 x1 y1 g2 x2 y2).1.2.2 (AddF g1 x1 y1 g2 x2 y2).2 e:=by
 refine ratAdd_face g1 g2 a1 b1 a2 b2 n1 c1 m1 d1 n2 c2 m2 d2 x1 y1 x2 y2 w hx1 hy1 hx2 hy2 ox1 oy1 ox2 oy2 hT _ _ _ _ (fun hm W hb => ?_) (fun hm => ?_)
 ·have h12:MayR g1 x1 y1 = true ∧ MayR g2 x2 y2 = true:=by simpa using hm
  obtain ⟨ka1,kb1,e1,_,_⟩:=MayR.parts h12.1
  obtain ⟨ka2,kb2,e2,_,_⟩:=MayR.parts h12.2
  refine (ratadd_any g1 g2 a1 b1 a2 b2 n1 c1 m1 d1 n2 c2 m2 d2 x1 y1 x2 y2 W (hx1.below hb) (hy1.below hb) (hx2.below hb) (hy2.below hb) ox1 oy1 ox2 oy2 ka1 kb1 ka2 kb2 e1 e2 (hT.below hb) (by_any W)).mono (fun e w' h => ?_)
  unfold MuPost at h
  unfold AddF
  rw [if_pos hm]
  split at h
  ·rename_i hbig
   rw [if_pos hbig]
   exact h
  ·rename_i hbig
   rw [if_neg hbig]
   exact h
 ·unfold AddF
  rw [hm]
  exact ⟨rfl,rfl,rfl,rfl⟩
structure St4 (w:World) (S b cnt wt:Nat) (pv:Value):Prop where
 c0:w.cell? ⟨S,0,none⟩ = some (.int .i64 (b:Nat))
 c1:w.cell? ⟨S,1,none⟩ = some (.int .i64 (cnt:Nat))
 c2:w.cell? ⟨S,2,none⟩ = some (.int .u32 (wt:Nat))
 c3:w.cell? ⟨S,3,none⟩ = some pv

theorem St4.keep {w w':World} {S b cnt wt:Nat} {pv:Value} (h:St4 w S b cnt wt pv) (k:∀ i,w'.cell? ⟨S,i,none⟩ = w.cell? ⟨S,i,none⟩):St4 w' S b cnt wt pv :=
 ⟨(k 0).trans h.c0,(k 1).trans h.c1,(k 2).trans h.c2,(k 3).trans h.c3⟩
theorem St4.lt {w:World} {S b cnt wt:Nat} {pv:Value} (h:St4 w S b cnt wt pv):S < w.heap.size:=World.block_lt_of_cell? _ _ h.c0
theorem St4.upd {w w':World} {S b cnt wt X lo hi:Nat} {pv:Value} (h:St4 w S b cnt wt pv) (u:Upd X lo hi w w') (hX:S ≠ X):St4 w' S b cnt wt pv :=
 h.keep fun i => by unfold World.cell?; simp only; rw [u.block S h.lt hX]
theorem St4.made (w:World) (b cnt wt:Nat) (pv:Value) (t:TypeId):St4 (w.alloc (.cells #[.int .i64 (b:Nat),.int .i64 (cnt:Nat),.int .u32 (wt:Nat),pv] t)) w.heap.size b cnt wt pv :=
 ⟨by simp,by simp,by simp,by simp⟩

def NumW (w:World) (a:Option Addr) (m bn on v:Nat):Prop :=
 (a = none ∧ m = 0 ∧ v = 0) ∨ ∃ f:Nat → Nat,a = some ⟨bn,on,none⟩ ∧ Fn w bn on m f ∧ (∀ i,i < m → f i < 4294967296) ∧ valF f m = v

theorem Upd.far {T lo hi X l h:Nat} {w0 w w':World} (u:Upd T lo hi w0 w) (v:Upd X l h w w') (hX:w0.heap.size ≤ X) (hT:T < w0.heap.size):Upd T lo hi w0 w':=by
 refine ⟨v.os.trans u.os,v.tape.trans u.tape,v.output.trans u.output,Nat.le_trans u.size v.size,?_,?_,?_⟩
 ·intro k hk hne
  rw [v.block k (Nat.lt_of_lt_of_le hk u.size) (by omega),u.block k hk hne]
 ·intro i hi
  have:w'.cell? ⟨T,i,none⟩ = w.cell? ⟨T,i,none⟩:=by
   unfold World.cell?; simp only; rw [v.block T (Nat.lt_of_lt_of_le hT u.size) (by omega)]
  rw [this,u.cell i hi]
 ·intro i
  have:w'.frozen? ⟨T,i,none⟩ = w.frozen? ⟨T,i,none⟩:=by
   unfold World.frozen?; simp only; rw [v.block T (Nat.lt_of_lt_of_le hT u.size) (by omega)]
  rw [this,u.froz i]
theorem FnB.upd {w w':World} {b off n X lo up:Nat} {f:Nat → Nat} (h:FnB w b off n f) (u:Upd X lo up w w') (hX:b ≠ X ∨ off + n ≤ lo ∨ up ≤ off):FnB w' b off n f:=by
 intro i hi
 obtain ⟨h1,h2⟩:=h i hi
 have hb:=World.block_lt_of_cell? _ _ h1
 by_cases e:b = X
 ·subst e
  have hX':off + n ≤ lo ∨ up ≤ off:=hX.resolve_left (fun h => h rfl)
  exact ⟨by rw [u.cell _ (by omega)]; exact h1,by rw [u.froz]; exact h2⟩
 ·refine ⟨?_,?_⟩
  ·have:w'.cell? ⟨b,off + i,none⟩ = w.cell? ⟨b,off + i,none⟩:=by unfold World.cell?; simp only; rw [u.block b hb e]
   rw [this]; exact h1
  ·have:w'.frozen? ⟨b,off + i,none⟩ = w.frozen? ⟨b,off + i,none⟩:=by unfold World.frozen?; simp only; rw [u.block b hb e]
   rw [this]; exact h2

theorem FnB.bel {w w':World} {b off n:Nat} {f:Nat → Nat} (h:FnB w b off n f) (k:Below w.heap.size w w'):FnB w' b off n f:=by
 intro i hi
 obtain ⟨h1,h2⟩:=h i hi
 have hb:=World.block_lt_of_cell? _ _ h1
 refine ⟨?_,?_⟩
 ·have:w'.cell? ⟨b,off + i,none⟩ = w.cell? ⟨b,off + i,none⟩:=by unfold World.cell?; simp only; rw [k.block b hb]
  rw [this]; exact h1
 ·have:w'.frozen? ⟨b,off + i,none⟩ = w.frozen? ⟨b,off + i,none⟩:=by unfold World.frozen?; simp only; rw [k.block b hb]
  rw [this]; exact h2

def txf (V b L d:Nat) (t0:Nat → Nat):Nat → Nat:=fun p => if L - 1 - p < d then chrN (dgt V b (L - 1 - p)) else t0 p

structure WsR (wr w0:World) (T o L bn on S V b cnt wt:Nat) (pv:Value) (t0:Nat → Nat) (q d:Nat) (a:Option Addr) (m:Nat):Prop where
 num:NumW wr a m bn on q
 fb:FnB wr T o L (txf V b L d t0)
 st:St4 wr S b cnt wt pv
 upd:Upd T o (o + L) w0 wr

theorem WsR.put {wr w0:World} {T o L bn on S V b cnt wt:Nat} {pv:Value} {t0:Nat → Nat} {q d:Nat} {a:Option Addr} {m:Nat} (h:WsR wr w0 T o L bn on S V b cnt wt pv t0 q d a m) (hd:d < L) (hST:S ≠ T) (hbT:bn ≠ T) (z:Nat) (hz:z = chrN (dgt V b d)) :
  WsR (wr.setCell ⟨T,o + (L - 1 - d),none⟩ (.int .u8 (z:Nat))) w0 T o L bn on S V b cnt wt pv t0 q (d + 1) a m:=by
 have u:Upd T o (o + L) wr (wr.setCell ⟨T,o + (L - 1 - d),none⟩ (.int .u8 (z:Nat))):=(Upd.refl _ _ _ _).set _ _ (by omega) (by omega)
 refine ⟨?_,?_,h.st.upd u hST,h.upd.trans u⟩
 ·rcases h.num with e | ⟨f,e1,e2,e3,e4⟩
  ·exact .inl e
  ·exact .inr ⟨f,e1,u.fn e2 (.inl hbT),e3,e4⟩
 ·refine (h.fb.set (L - 1 - d) z (by omega)).congr fun p hp => ?_
  unfold txf
  by_cases e:p = L - 1 - d
  ·rw [if_pos e,if_pos (by omega),hz,show L - 1 - p = d from by omega]
  ·rw [if_neg e]
   by_cases e2:L - 1 - p < d
   ·rw [if_pos e2,if_pos (by omega)]
   ·rw [if_neg e2,if_neg (by omega)]

theorem dgt_part {V b cnt k i:Nat} (hb:0 < b) (hi:i < cnt):V / (b ^ cnt) ^ k % b ^ cnt / b ^ i % b = dgt V b (k * cnt + i):=by
 have:=dgt_mod (V / (b ^ cnt) ^ k) b hb hi
 unfold dgt at this
 rw [this,← Nat.pow_mul,Nat.div_div_eq_div_mul,← Nat.pow_add,Nat.mul_comm cnt k]
 rfl

def digLit:ByteArray:=⟨#[48,49,50,51,52,53,54,55,56,57,97,98,99,100,101,102,103,104,105,106,107,108,109,110,111,112,113,114,115,116,117,118,119,120,121,122]⟩
theorem digLit_at:∀ D:Fin 36,(digLit[D.val]'(by have:=D.isLt; exact this)).toNat = chrN D.val:=by decide

theorem divideLimb_nil (a:Option Addr) (c d:Nat) (w:World) :
  Calls Tryz.prog 133 #[.slice a 0 c,.int .u32 (d:Nat)] w fun e w' => e = .returned (.int .u32 0) ∧ w' = w:=by
 go_enter Tryz.func133,Tryz.ntmps133
 go_wp2
 go_loop [5,6] (fun rv i => rv = .int .u32 0 ∧ i = .int .i64 (-1)) (fun _ i => (intOf i + 1).toNat)
 case atStart => exact ⟨rfl,rfl⟩
 case round =>
  obtain ⟨rfl,rfl⟩:=hrel
  go_wp2
  go_ret
  exact ⟨rfl,rfl⟩

theorem NumW.divided {w:World} {a:Option Addr} {m bn on v wt:Nat} (h:NumW w a m bn on v) (hm:m ≤ 1000000000) (h0:0 < wt) (h1:wt < 4294967296) :
  Calls Tryz.prog 133 #[.slice a m m,.int .u32 (wt:Nat)] w fun e w' => e = .returned (.int .u32 (v % wt:Nat)) ∧ Upd bn on (on + m) w w' ∧ Calls Tryz.prog 134 #[.slice a m m] w' fun e w'' => ∃ a' m',e = .returned (.slice a' m' m') ∧ m' ≤ m ∧ NumW w' a' m' bn on (v / wt) ∧ w'' = w':=by
 rcases h with ⟨rfl,rfl,rfl⟩ | ⟨f,rfl,hf,ok,hv⟩
 ·refine (divideLimb_nil none 0 wt w).mono ?_
  rintro e w' ⟨rfl,rfl⟩
  refine ⟨by simp,Upd.refl _ _ _ _,?_⟩
  refine (trim_any none 0 0 [] w' (sl_nil _) Ok.nil).mono ?_
  rintro e w2 ⟨a',m',ys,rfl,hs,hr,ha,rfl⟩
  have hy:ys = []:=hr.unique ⟨Ok.nil,.inl rfl,rfl⟩
  have hl:=hs.len
  rw [hy] at hl
  simp at hl
  subst hl
  have ha':a' = none:=by rcases ha with e | e <;> exact e
  exact ⟨a',0,rfl,Nat.le_refl _,.inl ⟨ha',rfl,by simp⟩,rfl⟩
 ·refine (divideLimb_any bn on m m wt f w hf ok hm h0 h1).mono ?_
  rintro e w' ⟨r,g,rfl,hr,hg,og,hval,hu⟩
  rw [hv] at hval
  have e1:v % wt = r:=by rw [hval,Nat.mul_comm,Nat.mul_add_mod,Nat.mod_eq_of_lt hr]
  have e2:v / wt = valF g m:=by rw [hval,Nat.mul_comm,Nat.mul_add_div h0,Nat.div_eq_of_lt hr,Nat.add_zero]
  refine ⟨by rw [e1],hu,?_⟩
  refine (trim_any (some ⟨bn,on,none⟩) m m (lst g m) w' (hg.sl (Nat.le_refl _) (by unfold maxLen; omega)) (lst_ok og)).mono ?_
  rintro e w2 ⟨a',m',ys,rfl,hs,hr2,ha,rfl⟩
  have hl:=hs.len
  have hvy:=hr2.val
  rw [lst_val] at hvy
  have hmm:m' ≤ m:=by
   have:=rep_len_leS hr2 (j:=m) (by rw [lst_val]; exact valF_lt og)
   omega
  by_cases hy:ys = []
  ·subst hy
   simp at hl
   subst hl
   refine ⟨a',0,rfl,hmm,?_,rfl⟩
   rcases ha with e | e
   ·exact .inr ⟨g,e,fun i hi => absurd hi (Nat.not_lt_zero _),fun i hi => absurd hi (Nat.not_lt_zero _),by rw [e2,← hvy]; simp [valF,val]⟩
   ·exact .inl ⟨e,rfl,by rw [e2,← hvy]; rfl⟩
  ·refine ⟨a',m',rfl,hmm,?_,rfl⟩
   obtain ⟨b',o',e,hc⟩:=hs.cells.resolve_left hy
   rcases ha with e' | e'
   ·rw [e'] at e
    cases e
    refine .inr ⟨fun i => ys.getD i 0,e',fun i hi => ⟨hc i (by omega),(hg i (by omega)).2⟩,fun i hi => hr2.ok.getD i,?_⟩
    rw [valF_ge ys m' (by omega),hvy,e2]
   ·rw [e'] at e; cases e
open Go.RowKit Go.Deep
set_option linter.unusedVariables false

def writerV (b cnt wt:Nat) (pv:Value):Value:=.agg #[.int .i64 (b:Nat),.int .i64 (cnt:Nat),.int .u32 (wt:Nat),pv]

set_option maxHeartbeats 8000000 in
theorem writeShort_any (w0 w:World) (T o L cT bn on:Nat) (a:Option Addr) (m b cnt wt M V:Nat) (pv:Value) (t0:Nat → Nat) (hL:L = cnt * M) (hL2:L ≤ 1000000000) (hb:2 ≤ b) (hb2:b ≤ 36) (hch:Chunk b cnt) (hwt:b ^ cnt = wt)
  (hT:T < w0.heap.size) (hbn:w0.heap.size ≤ bn) (hbn2:bn < w.heap.size) (hm:m ≤ 1000000000) (hf:FnB w T o L t0) (hN:NumW w a m bn on V) (hU:Upd T o (o + L) w0 w) :
  Calls Tryz.prog 166 #[writerV b cnt wt pv,.slice (some ⟨T,o,none⟩) L cT,.slice a m m] w fun e w' => e = .returned (.tuple #[]) ∧ FnB w' T o L (txf V b L L t0) ∧ Upd T o (o + L) w0 w':=by
 have bel:=(Below.refl w.heap.size w).alloc (Nat.le_refl _) (.cells #[.int .i64 (b:Nat),.int .i64 (cnt:Nat),.int .u32 (wt:Nat),pv] 159)
 have u0:Upd T o (o + L) w _:=Upd.of_below (Nat.lt_of_lt_of_le hT hU.size) bel
 have hST:w.heap.size ≠ T:=by have:=hU.size; omega
 have hSb:w.heap.size ≠ bn:=by omega
 have hTb:bn ≠ T:=by omega
 have HR0:=Hj (show WsR _ w0 T o L bn on w.heap.size V b cnt wt pv t0 (V / wt ^ 0) (0 * cnt) a m from ⟨by
   rw [Nat.pow_zero,Nat.div_one]
   rcases hN with e | ⟨f,e1,e2,e3,e4⟩
   ·exact .inl e
   ·exact .inr ⟨f,e1,Fn.below e2 bel,e3,e4⟩,(hf.bel bel).congr (fun p hp => by unfold txf; rw [if_neg (by omega)]),St4.made _ _ _ _ _ _,hU.trans u0⟩)
 have h1:=hch.pos
 have h2:=hch.le
 have h3:=hch.lt
 rw [hwt] at h3
 have hwt0:0 < wt:=by rw [← hwt]; exact Nat.pow_pos (by omega)
 have HWT:=Hj hwt
 have HCH:=Hj hch
 have HL:=Hj hL
 clear hwt hch hL hf hN hU bel u0
 unfold writerV
 go_enter Tryz.func166,Tryz.ntmps166
 go_wp2_with fail
 go_loopw [2,6] (fun nv ev wr => ∃ (k:Nat) (an:Option Addr) (mn:Nat),k ≤ M ∧ mn ≤ 1000000000 ∧ nv = .slice an mn mn ∧ ev = .int .i64 ((L - k * cnt:Nat):Int) ∧ WsR wr w0 T o L bn on w.heap.size V b cnt wt pv t0 (V / wt ^ k) (k * cnt) an mn) (fun _ ev _ => (intOf ev).toNat)
 case atStart => exact ⟨0,a,m,Nat.zero_le _,hm,rfl,by simp,Uh HR0⟩
 case round =>
  clear HR0
  obtain ⟨k,an,mn,hk,hmn,rfl,rfl,hR⟩:=hrel
  have hk1:k * cnt ≤ L:=by rw [Uh HL,Nat.mul_comm]; exact Nat.mul_le_mul_left _ hk
  obtain ⟨E,hE⟩:∃ E,L - k * cnt = E:=⟨_,rfl⟩
  by_cases hkM:k = M
  ·have hE0:E = 0:=by rw [← hE,hkM,Uh HL,Nat.mul_comm,Nat.sub_self]
   have hkL:k * cnt = L:=by omega
   have HR:=Hj hR
   rw [hE,hE0]
   clear hR hE hE0
   go_wp2_with fail
   go_end0
   have hh:=Uh HR
   rw [hkL] at hh
   exact ⟨rfl,hh.fb,hh.upd⟩
  ·have hkk:(k + 1) * cnt ≤ L:=by rw [Uh HL,Nat.mul_comm]; exact Nat.mul_le_mul_left _ (by omega)
   have hk2:(k + 1) * cnt = k * cnt + cnt:=Nat.succ_mul _ _
   have hE1:(0:Int) < (E:Int):=by omega
   have hE2:0 < E:=by omega
   have hE3:decide (0 < E) = true:=by simp [hE2]
   have hEL:E ≤ L:=by omega
   have KD:=Hj (hR.num.divided hmn hwt0 h3)
   have g0:=hR.st.c0
   have g1:=hR.st.c1
   have g2:=hR.st.c2
   have HR:=Hj hR
   have HE:=Hj hE
   rw [hE]
   obtain ⟨R,hRe⟩:∃ R,V / wt ^ k % wt = R:=⟨_,rfl⟩
   have HRE:=Hj hRe
   have hRl:R < 4294967296:=by have:=Nat.mod_lt (V / wt ^ k) hwt0; omega
   rw [hRe] at KD
   clear hRe hE hR
   go_wp2_with fail
   refine (Uh KD).mono ?_
   rintro _ w1 ⟨rfl,u1,KT⟩
   have hR1:FnB w1 T o L (txf V b L (k * cnt) t0) ∧ St4 w1 w.heap.size b cnt wt pv ∧ Upd T o (o + L) w0 w1:=⟨(Uh HR).fb.upd u1 (.inl (by omega)),(Uh HR).st.upd u1 hSb,(Uh HR).upd.far u1 hbn hT⟩
   have HR1:=Hj hR1
   have KT':=Hj KT
   have g3:=hR1.2.1.c0
   have g4:=hR1.2.1.c1
   have g5:=hR1.2.1.c2
   clear KT u1 KD HR hR1 g0 g1 g2
   go_wp2_with fail
   refine (Uh KT').mono ?_
   rintro _ _ ⟨a2,m2,rfl,hm2,hN2,hw⟩
   obtain rfl:=hw.symm
   have HR2:=Hj (show WsR w1 w0 T o L bn on w.heap.size V b cnt wt pv t0 (V / wt ^ (k + 1)) (k * cnt) a2 m2 from ⟨by rw [Nat.pow_succ,← Nat.div_div_eq_div_mul]; exact hN2,(Uh HR1).1,(Uh HR1).2.1,(Uh HR1).2.2⟩)
   clear hN2 hw KT' HR1
   go_wp2_with fail
   go_loopw [7,25] (fun rv iv wr => ∃ i:Nat,i ≤ cnt ∧ iv = .int .i64 (i:Nat) ∧ rv = .int .u32 (R / b ^ i:Nat) ∧ WsR wr w0 T o L bn on w.heap.size V b cnt wt pv t0 (V / wt ^ (k + 1)) (k * cnt + i) a2 m2) (fun _ iv _ => cnt - (intOf iv).toNat)
   case atStart => exact ⟨0,Nat.zero_le _,rfl,by simp,Uh HR2⟩
   case round =>
    clear HR2
    obtain ⟨i,hi,rfl,rfl,hR⟩:=hrel
    by_cases hic:i < cnt
    ·have hic':(i:Int) < (cnt:Int):=by omega
     have hdl:k * cnt + i < L:=by omega
     have f0:=hR.fb (L - 1 - (k * cnt + i)) (by omega)
     have f1:=f0.1
     have f2:=f0.2
     have c0:=hR.st.c0
     have hD:R / b ^ i % b = dgt V b (k * cnt + i):=by
      rw [← Uh HRE,← Uh HWT]
      exact dgt_part (by omega) hic
     have hDl:R / b ^ i % b < b:=Nat.mod_lt _ (by omega)
     have HP:=Hj (hR.put hdl hST hTb (chrN (R / b ^ i % b)) (by rw [hD]))
     have hcl:chrN (R / b ^ i % b) < 256:=chrN_lt (by omega)
     have hq:R / b ^ (i + 1) = R / b ^ i / b:=by rw [Nat.pow_succ,Nat.div_div_eq_div_mul]
     have HQ:=Hj hq
     have hr1:R / b ^ i < 4294967296:=Nat.lt_of_le_of_lt (Nat.div_le_self _ _) hRl
     have hp:(E:Int) - 1 - (i:Int) = ((L - 1 - (k * cnt + i):Nat):Int):=by have:=Uh HE; omega
     have hpl:L - 1 - (k * cnt + i) < L:=by omega
     clear hR hD f0 hq
     generalize L - 1 - (k * cnt + i) = pp at *
     generalize R / b ^ i = Ri at *
     have e1:(Ri:Int) % (b:Int) = ((Ri % b:Nat):Int):=rfl
     have e2:(Ri:Int) / (b:Int) = ((Ri / b:Nat):Int):=rfl
     have e3:(Ri:Int).tmod (b:Int) = ((Ri % b:Nat):Int):=rfl
     have e4:(Ri:Int).tdiv (b:Int) = ((Ri / b:Nat):Int):=rfl
     have hqd:Ri / b < 4294967296:=Nat.lt_of_le_of_lt (Nat.div_le_self _ _) hr1
     generalize Ri / b = Rq at *
     generalize Ri % b = D at *
     have hD36:(D:Int) < 36:=by omega
     have hb0:(b:Int) ≠ 0:=by omega
     have hD3:D < 36:=by omega
     have hch:(digLit[D]'hD3).toNat = chrN D:=digLit_at ⟨D,hD3⟩
     go_wp2_with fail
     refine ⟨⟨i + 1,by omega,by go_num,by rw [Uh HQ],?_⟩,by simp [intOf]; omega⟩
     have hP:=Uh HP
     rw [← hch] at hP
     exact hP
    ·obtain rfl:i = cnt:=by omega
     have hic':¬ (i:Int) < (i:Int):=by omega
     have c1:=hR.st.c1
     have HP:=Hj hR
     have e1:(E:Int) - (i:Int) = ((L - (k + 1) * i:Nat):Int):=by have:=Uh HE; omega
     have hlt:L - (k + 1) * i < E:=by have:=Uh HE; omega
     generalize hX:L - (k + 1) * i = X at *
     have HX:=Hj hX
     clear hR hX
     go_wp2_with fail
     exact ⟨⟨k + 1,a2,m2,by omega,by omega,rfl,by rw [Uh HX],by rw [hk2]; exact Uh HP⟩,by simp [intOf]; omega⟩
end Go.Proofs.YtmnlhnmlgncedaaGreatDoor
