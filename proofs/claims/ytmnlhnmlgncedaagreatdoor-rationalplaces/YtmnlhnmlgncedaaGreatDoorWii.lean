/- Wih -/
import Derived.Test.YtmnlhnmlgncedaaGreatDoorWij
namespace Go.Proofs.YtmnlhnmlgncedaaGreatDoor
open Go.RowKit Go.Deep
set_option linter.unusedVariables false
set_option maxHeartbeats 8000000 in
set_option maxRecDepth 100000 in
theorem pairAdd_any (g1 g2:Bool) (a1 b1 a2 b2:Option Addr) (n1 c1 m1 d1 n2 c2 m2 d2:Nat) (x1 y1 x2 y2:List Nat) (w:World) (hx1:Sl w a1 n1 c1 x1) (hy1:Sl w b1 m1 d1 y1) (hx2:Sl w a2 n2 c2 x2) (hy2:Sl w b2 m2 d2 y2) (ox1:Ok x1) (oy1:Ok y1) (ox2:Ok x2) (oy2:Ok y2) (hT:Tab64 w) (ng:Bool) (zs us:List Nat) (er:Int)
  (hF:(MayR g1 x1 y1 && MayR g2 x2 y2) = true → ∀ W,Below w.heap.size w W → Calls Tryz.prog 42 #[ratV g1 a1 n1 c1 b1 m1 d1,ratV g2 a2 n2 c2 b2 m2 d2] W fun e w' => ResR W w' ng zs us er e) (hno:(MayR g1 x1 y1 && MayR g2 x2 y2) = false → ng = false ∧ zs = [] ∧ us = [] ∧ er = 40) :
  Calls Tryz.prog 55 #[ratV g1 a1 n1 c1 b1 m1 d1,ratV g2 a2 n2 c2 b2 m2 d2,.func (.func 42) #[] #[]] w fun e w' => ResR w w' ng zs us er e:=by
 have bx:=Box.made w g1 a1 n1 c1 b1 m1 d1
 obtain ⟨wa,hwa⟩:∃ wa,ratBox w g1 a1 n1 c1 b1 m1 d1 = wa:=⟨_,rfl⟩
 rw [hwa] at bx
 have by_:=Box.made wa g2 a2 n2 c2 b2 m2 d2
 obtain ⟨wb,hwb⟩:∃ wb,ratBox wa g2 a2 n2 c2 b2 m2 d2 = wb:=⟨_,rfl⟩
 rw [hwb] at by_
 obtain ⟨wo,hwo⟩:∃ x,wb.alloc (.cells #[.bool false,.slice none 0 0,.slice none 0 0] 25) = x:=⟨_,rfl⟩
 have hba:Below w.heap.size w wa:=by rw [← hwa]; exact bAl
 have hbb:Below wa.heap.size wa wb:=by rw [← hwb]; exact bAl
 have hbo:Below wb.heap.size wb wo:=by rw [← hwo]; exact bAl
 have hO:Out wo wb.heap.size:=by rw [← hwo]; exact Out.made wb
 have bx2:=(bx.keep hbb).keep hbo
 have by2:=by_.keep hbo
 have hB:=(hba.trans (hbb.mono hba.size)).trans (hbo.mono (Nat.le_trans hba.size hbb.size))
 have Hwb:=Hj (show w.heap.size ≤ wb.heap.size from Nat.le_trans hba.size hbb.size)
 unfold ratBox at hwa hwb
 have p0:=bx2.d0
 have p1:=bx2.d1
 have p2:=bx2.d2
 have p3:=by2.d0
 have p4:=by2.d1
 have p5:=by2.d2
 have HM1:=Hj (fun (W:World) (hb:Below wo.heap.size wo W) => ratMay_any g1 a1 b1 n1 c1 m1 d1 x1 y1 W ((hx1.below hB).below hb) ((hy1.below hB).below hb) ox1 oy1 ((hT.below hB).below hb))
 have HM2:=Hj (fun (W:World) (hb:Below wo.heap.size wo W) => ratMay_any g2 a2 b2 n2 c2 m2 d2 x2 y2 W ((hx2.below hB).below hb) ((hy2.below hB).below hb) ox2 oy2 ((hT.below hB).below hb))
 have HFF:=Hj (fun hm (W:World) (hb:Below wo.heap.size wo W) => hF hm W (hB.trans (hb.mono hB.size)))
 have HBx:=Hj (And.intro bx2 by2)
 have HBB:=Hj hB
 have HO:=Hj hO
 have HNo:=Hj hno
 unfold ratV at HM1 HM2 HFF ⊢
 clear bx bx2 by_ by2 hba hbb hbo hB hO hx1 hy1 hx2 hy2 hT hF hno
 cases k1:MayR g1 x1 y1
 ·obtain ⟨rfl,rfl,rfl,rfl⟩:=Uh HNo (by rw [k1]; rfl)
  have KM:=Hj (Uh HM1 wo (Below.refl _ _))
  rw [k1] at KM
  clear HM1 HM2 HFF k1 HNo
  go_enter Tryz.func55,Tryz.ntmps55
  go_wp2_with fail
  refine (Uh KM).mono ?_
  rintro _ wy ⟨rfl,hby⟩
  clear KM p0 p1 p2 p3 p4 p5
  have hO3:=(Uh HO).keep hby
  obtain ⟨i0,o0⟩:=hO3.cells 0 (by decide)
  obtain ⟨i1,o1⟩:=hO3.cells 1 (by decide)
  obtain ⟨i2,o2⟩:=hO3.cells 2 (by decide)
  have f0:=hO3.fz 0 (by decide)
  have f1:=hO3.fz 1 (by decide)
  have f2:=hO3.fz 2 (by decide)
  have H4:=Hj (three_set wy wb.heap.size (.bool false) (.slice none 0 0) (.slice none 0 0) hO3.cells)
  have HBy:=Hj hby
  clear hO3 hby
  go_wp2_with fail
  obtain ⟨t0,t1,t2,c4⟩:=Uh H4
  generalize ((wy.setCell ⟨wb.heap.size,0,none⟩ (.bool false)).setCell ⟨wb.heap.size,1,none⟩ (.slice none 0 0)).setCell ⟨wb.heap.size,2,none⟩ (.slice none 0 0) = wk at *
  refine bodyPost_ret (by simp [results,Tryz.results55,go_sem,t0,t1,t2]; try rfl) rfl ?_
  have hBy:Below w.heap.size w wy:=(Uh HBB).trans ((Uh HBy).mono (Uh HBB).size)
  have hBk:Below w.heap.size w wk:=hBy.trans (c4.below hBy.size (fun k hk => by have:=Uh Hwb; omega))
  exact ⟨_,rfl,none,0,0,none,0,0,rfl,⟨rfl,Nat.le_refl _,Nat.zero_le _,.inl rfl⟩,⟨rfl,Nat.le_refl _,Nat.zero_le _,.inl rfl⟩,(fun x hx => by cases hx),(fun x hx => by cases hx),hBk⟩
 ·have KM:=Hj (Uh HM1 wo (Below.refl _ _))
  rw [k1] at KM
  cases k2:MayR g2 x2 y2
  ·obtain ⟨rfl,rfl,rfl,rfl⟩:=Uh HNo (by rw [k1,k2]; rfl)
   have HM:=Hj (fun W hb => (by have K:=Uh HM2 W hb; rw [k2] at K; exact K:Calls Tryz.prog 6 #[.agg #[.bool g2,.slice a2 n2 c2,.slice b2 m2 d2]] W fun e w' => e = .returned (.bool false) ∧ Below W.heap.size W w'))
   clear HM1 HM2 HFF k1 k2 HNo
   go_enter Tryz.func55,Tryz.ntmps55
   go_wp2_with fail
   refine (Uh KM).mono ?_
   rintro _ wc ⟨rfl,hbc⟩
   have b2_:=(Uh HBx).2.keep hbc
   have r0:=b2_.d0
   have r1:=b2_.d1
   have r2:=b2_.d2
   have KM2:=Hj (Uh HM wc hbc)
   have HBc:=Hj hbc
   clear hbc KM b2_ HM p0 p1 p2 p3 p4 p5
   go_wp2_with fail
   refine (Uh KM2).mono ?_
   rintro _ wy ⟨rfl,hbd⟩
   have hby:=(Uh HBc).trans (hbd.mono (Uh HBc).size)
   clear KM2 r0 r1 r2 hbd
   have hO3:=(Uh HO).keep hby
   obtain ⟨i0,o0⟩:=hO3.cells 0 (by decide)
   obtain ⟨i1,o1⟩:=hO3.cells 1 (by decide)
   obtain ⟨i2,o2⟩:=hO3.cells 2 (by decide)
   have f0:=hO3.fz 0 (by decide)
   have f1:=hO3.fz 1 (by decide)
   have f2:=hO3.fz 2 (by decide)
   have H4:=Hj (three_set wy wb.heap.size (.bool false) (.slice none 0 0) (.slice none 0 0) hO3.cells)
   have HBy:=Hj hby
   clear hO3 hby
   go_wp2_with fail
   obtain ⟨t0,t1,t2,c4⟩:=Uh H4
   generalize ((wy.setCell ⟨wb.heap.size,0,none⟩ (.bool false)).setCell ⟨wb.heap.size,1,none⟩ (.slice none 0 0)).setCell ⟨wb.heap.size,2,none⟩ (.slice none 0 0) = wk at *
   refine bodyPost_ret (by simp [results,Tryz.results55,go_sem,t0,t1,t2]; try rfl) rfl ?_
   have hBy:Below w.heap.size w wy:=(Uh HBB).trans ((Uh HBy).mono (Uh HBB).size)
   have hBk:Below w.heap.size w wk:=hBy.trans (c4.below hBy.size (fun k hk => by have:=Uh Hwb; omega))
   exact ⟨_,rfl,none,0,0,none,0,0,rfl,⟨rfl,Nat.le_refl _,Nat.zero_le _,.inl rfl⟩,⟨rfl,Nat.le_refl _,Nat.zero_le _,.inl rfl⟩,(fun x hx => by cases hx),(fun x hx => by cases hx),hBk⟩
  ·have HM:=Hj (fun W hb => (by have K:=Uh HM2 W hb; rw [k2] at K; exact K:Calls Tryz.prog 6 #[.agg #[.bool g2,.slice a2 n2 c2,.slice b2 m2 d2]] W fun e w' => e = .returned (.bool true) ∧ Below W.heap.size W w'))
   have HF:=Hj (Uh HFF (by rw [k1,k2]; rfl))
   clear HM1 HM2 HFF k1 k2 HNo
   go_enter Tryz.func55,Tryz.ntmps55
   go_wp2_with fail
   refine (Uh KM).mono ?_
   rintro _ wc ⟨rfl,hbc⟩
   have bb:=And.intro ((Uh HBx).1.keep hbc) ((Uh HBx).2.keep hbc)
   have r0:=bb.2.d0
   have r1:=bb.2.d1
   have r2:=bb.2.d2
   have KM2:=Hj (Uh HM wc hbc)
   have HBc:=Hj hbc
   have HB2:=Hj bb
   clear hbc KM bb HM p0 p1 p2 p3 p4 p5
   go_wp2_with fail
   refine (Uh KM2).mono ?_
   rintro _ wd ⟨rfl,hbd⟩
   have b3:=(Uh HB2).1.keep hbd
   have b4:=(Uh HB2).2.keep hbd
   have u0:=b3.d0
   have u1:=b3.d1
   have u2:=b3.d2
   have v0:=b4.d0
   have v1:=b4.d1
   have v2:=b4.d2
   have hbd2:=(Uh HBc).trans (hbd.mono (Uh HBc).size)
   have KF:=Hj (Uh HF wd hbd2)
   have HD:=Hj hbd2
   clear hbd KM2 b3 b4 HF r0 r1 r2 hbd2
   go_wp2_with fail
   refine (Uh KF).mono ?_
   rintro _ wy ⟨v,rfl,aN,mN,cN,aM,mM,cM,rfl,sN,sM,nN,nM,bY⟩
   have hby:=(Uh HD).trans (bY.mono (Uh HD).size)
   have hlt9:wb.heap.size < wd.heap.size:=Nat.lt_of_lt_of_le (Uh HO).lt (Uh HD).size
   have HX:=Hj (And.intro sN (And.intro sM (And.intro nN nM)))
   clear KF u0 u1 u2 v0 v1 v2 sN sM nN nM bY
   unfold ratV
   have hO3:=(Uh HO).keep hby
   obtain ⟨i0,o0⟩:=hO3.cells 0 (by decide)
   obtain ⟨i1,o1⟩:=hO3.cells 1 (by decide)
   obtain ⟨i2,o2⟩:=hO3.cells 2 (by decide)
   have f0:=hO3.fz 0 (by decide)
   have f1:=hO3.fz 1 (by decide)
   have f2:=hO3.fz 2 (by decide)
   have H4:=Hj (three_set wy wb.heap.size (.bool ng) (.slice aN mN cN) (.slice aM mM cM) hO3.cells)
   have HBy:=Hj hby
   clear hO3 hby
   go_wp2_with fail
   obtain ⟨t0,t1,t2,c4⟩:=Uh H4
   generalize ((wy.setCell ⟨wb.heap.size,0,none⟩ (.bool ng)).setCell ⟨wb.heap.size,1,none⟩ (.slice aN mN cN)).setCell ⟨wb.heap.size,2,none⟩ (.slice aM mM cM) = wk at *
   refine bodyPost_ret (by simp [results,Tryz.results55,go_sem,t0,t1,t2]; try rfl) rfl ?_
   have hBy:Below w.heap.size w wy:=(Uh HBB).trans ((Uh HBy).mono (Uh HBB).size)
   have hBk:Below w.heap.size w wk:=hBy.trans (c4.below hBy.size (fun k hk => by have:=Uh Hwb; omega))
   have hwd:w.heap.size ≤ wd.heap.size:=Nat.le_trans (Uh HBB).size (Uh HD).size
   exact ⟨_,rfl,aN,mN,cN,aM,mM,cM,rfl,(Uh HX).1.chg c4 (fun x hx _ h => by have h1:=(Uh HX).2.2.1 x hx; omega),(Uh HX).2.1.chg c4 (fun x hx _ h => by have h1:=(Uh HX).2.2.2 x hx; omega),(fun x hx => Nat.le_trans hwd ((Uh HX).2.2.1 x hx)),(fun x hx => Nat.le_trans hwd ((Uh HX).2.2.2 x hx)),hBk⟩

set_option maxHeartbeats 8000000 in
set_option maxRecDepth 100000 in
theorem ratAdd_face (g1 g2:Bool) (a1 b1 a2 b2:Option Addr) (n1 c1 m1 d1 n2 c2 m2 d2:Nat) (x1 y1 x2 y2:List Nat) (w:World) (hx1:Sl w a1 n1 c1 x1) (hy1:Sl w b1 m1 d1 y1) (hx2:Sl w a2 n2 c2 x2) (hy2:Sl w b2 m2 d2 y2) (ox1:Ok x1) (oy1:Ok y1) (ox2:Ok x2) (oy2:Ok y2) (hT:Tab64 w) (ng:Bool) (zs us:List Nat) (er:Int)
  (hF:(MayR g1 x1 y1 && MayR g2 x2 y2) = true → ∀ W,Below w.heap.size w W → Calls Tryz.prog 42 #[ratV g1 a1 n1 c1 b1 m1 d1,ratV g2 a2 n2 c2 b2 m2 d2] W fun e w' => ResR W w' ng zs us er e) (hno:(MayR g1 x1 y1 && MayR g2 x2 y2) = false → ng = false ∧ zs = [] ∧ us = [] ∧ er = 40) :
  Calls Tryz.prog 22 #[ratV g1 a1 n1 c1 b1 m1 d1,ratV g2 a2 n2 c2 b2 m2 d2] w fun e w' => ResR w w' ng zs us er e:=by
 have bx:=Box.made w g1 a1 n1 c1 b1 m1 d1
 obtain ⟨wa,hwa⟩:∃ wa,ratBox w g1 a1 n1 c1 b1 m1 d1 = wa:=⟨_,rfl⟩
 rw [hwa] at bx
 have by_:=Box.made wa g2 a2 n2 c2 b2 m2 d2
 obtain ⟨wb,hwb⟩:∃ wb,ratBox wa g2 a2 n2 c2 b2 m2 d2 = wb:=⟨_,rfl⟩
 rw [hwb] at by_
 obtain ⟨wo,hwo⟩:∃ x,wb.alloc (.cells #[.bool false,.slice none 0 0,.slice none 0 0] 25) = x:=⟨_,rfl⟩
 have hba:Below w.heap.size w wa:=by rw [← hwa]; exact bAl
 have hbb:Below wa.heap.size wa wb:=by rw [← hwb]; exact bAl
 have hbo:Below wb.heap.size wb wo:=by rw [← hwo]; exact bAl
 have hO:Out wo wb.heap.size:=by rw [← hwo]; exact Out.made wb
 have bx2:=(bx.keep hbb).keep hbo
 have by2:=by_.keep hbo
 have hB:=(hba.trans (hbb.mono hba.size)).trans (hbo.mono (Nat.le_trans hba.size hbb.size))
 have Hwb:=Hj (show w.heap.size ≤ wb.heap.size from Nat.le_trans hba.size hbb.size)
 unfold ratBox at hwa hwb
 have p0:=bx2.d0
 have p1:=bx2.d1
 have p2:=bx2.d2
 have p3:=by2.d0
 have p4:=by2.d1
 have p5:=by2.d2
 have KP:=pairAdd_any g1 g2 a1 b1 a2 b2 n1 c1 m1 d1 n2 c2 m2 d2 x1 y1 x2 y2 wo (hx1.below hB) (hy1.below hB) (hx2.below hB) (hy2.below hB) ox1 oy1 ox2 oy2 (hT.below hB) ng zs us er (fun hm W hb => hF hm W (hB.trans (hb.mono hB.size))) hno
 unfold ratV at KP ⊢
 have HKP:=Hj KP
 have HBB:=Hj hB
 have HO:=Hj hO
 clear bx bx2 by_ by2 hba hbb hbo hB hO hx1 hy1 hx2 hy2 hT KP hF hno
 go_enter Tryz.func22,Tryz.ntmps22
 go_wp2_with fail
 refine (Uh HKP).mono ?_
 rintro _ wy ⟨v,rfl,aN,mN,cN,aM,mM,cM,rfl,sN,sM,nN,nM,hby⟩
 have hlt9:wb.heap.size < wo.heap.size:=(Uh HO).lt
 have HX:=Hj (And.intro sN (And.intro sM (And.intro nN nM)))
 clear HKP p0 p1 p2 p3 p4 p5 sN sM nN nM
 unfold ratV
 have hO3:=(Uh HO).keep hby
 obtain ⟨i0,o0⟩:=hO3.cells 0 (by decide)
 obtain ⟨i1,o1⟩:=hO3.cells 1 (by decide)
 obtain ⟨i2,o2⟩:=hO3.cells 2 (by decide)
 have f0:=hO3.fz 0 (by decide)
 have f1:=hO3.fz 1 (by decide)
 have f2:=hO3.fz 2 (by decide)
 have H4:=Hj (three_set wy wb.heap.size (.bool ng) (.slice aN mN cN) (.slice aM mM cM) hO3.cells)
 have HBy:=Hj hby
 clear hO3 hby
 go_wp2_with fail
 obtain ⟨t0,t1,t2,c4⟩:=Uh H4
 generalize ((wy.setCell ⟨wb.heap.size,0,none⟩ (.bool ng)).setCell ⟨wb.heap.size,1,none⟩ (.slice aN mN cN)).setCell ⟨wb.heap.size,2,none⟩ (.slice aM mM cM) = wk at *
 refine bodyPost_ret (by simp [results,Tryz.results22,go_sem,t0,t1,t2]; try rfl) rfl ?_
 have hBy:Below w.heap.size w wy:=(Uh HBB).trans ((Uh HBy).mono (Uh HBB).size)
 have hBk:Below w.heap.size w wk:=hBy.trans (c4.below hBy.size (fun k hk => by have:=Uh Hwb; omega))
 have hwd:w.heap.size ≤ wo.heap.size:=(Uh HBB).size
 exact ⟨_,rfl,aN,mN,cN,aM,mM,cM,rfl,(Uh HX).1.chg c4 (fun x hx _ h => by have h1:=(Uh HX).2.2.1 x hx; omega),(Uh HX).2.1.chg c4 (fun x hx _ h => by have h1:=(Uh HX).2.2.2 x hx; omega),(fun x hx => Nat.le_trans hwd ((Uh HX).2.2.1 x hx)),(fun x hx => Nat.le_trans hwd ((Uh HX).2.2.2 x hx)),hBk⟩
set_option maxHeartbeats 8000000 in
set_option maxRecDepth 100000 in
theorem pairSub_any (g1 g2:Bool) (a1 b1 a2 b2:Option Addr) (n1 c1 m1 d1 n2 c2 m2 d2:Nat) (x1 y1 x2 y2:List Nat) (w:World) (hx1:Sl w a1 n1 c1 x1) (hy1:Sl w b1 m1 d1 y1) (hx2:Sl w a2 n2 c2 x2) (hy2:Sl w b2 m2 d2 y2) (ox1:Ok x1) (oy1:Ok y1) (ox2:Ok x2) (oy2:Ok y2) (hT:Tab64 w) (ng:Bool) (zs us:List Nat) (er:Int)
  (hF:(MayR g1 x1 y1 && MayR g2 x2 y2) = true → ∀ W,Below w.heap.size w W → Calls Tryz.prog 107 #[ratV g1 a1 n1 c1 b1 m1 d1,ratV g2 a2 n2 c2 b2 m2 d2] W fun e w' => ResR W w' ng zs us er e) (hno:(MayR g1 x1 y1 && MayR g2 x2 y2) = false → ng = false ∧ zs = [] ∧ us = [] ∧ er = 40) :
  Calls Tryz.prog 55 #[ratV g1 a1 n1 c1 b1 m1 d1,ratV g2 a2 n2 c2 b2 m2 d2,.func (.func 107) #[] #[]] w fun e w' => ResR w w' ng zs us er e:=by
 have bx:=Box.made w g1 a1 n1 c1 b1 m1 d1
 obtain ⟨wa,hwa⟩:∃ wa,ratBox w g1 a1 n1 c1 b1 m1 d1 = wa:=⟨_,rfl⟩
 rw [hwa] at bx
 have by_:=Box.made wa g2 a2 n2 c2 b2 m2 d2
 obtain ⟨wb,hwb⟩:∃ wb,ratBox wa g2 a2 n2 c2 b2 m2 d2 = wb:=⟨_,rfl⟩
 rw [hwb] at by_
 obtain ⟨wo,hwo⟩:∃ x,wb.alloc (.cells #[.bool false,.slice none 0 0,.slice none 0 0] 25) = x:=⟨_,rfl⟩
 have hba:Below w.heap.size w wa:=by rw [← hwa]; exact bAl
 have hbb:Below wa.heap.size wa wb:=by rw [← hwb]; exact bAl
 have hbo:Below wb.heap.size wb wo:=by rw [← hwo]; exact bAl
 have hO:Out wo wb.heap.size:=by rw [← hwo]; exact Out.made wb
 have bx2:=(bx.keep hbb).keep hbo
 have by2:=by_.keep hbo
 have hB:=(hba.trans (hbb.mono hba.size)).trans (hbo.mono (Nat.le_trans hba.size hbb.size))
 have Hwb:=Hj (show w.heap.size ≤ wb.heap.size from Nat.le_trans hba.size hbb.size)
 unfold ratBox at hwa hwb
 have p0:=bx2.d0
 have p1:=bx2.d1
 have p2:=bx2.d2
 have p3:=by2.d0
 have p4:=by2.d1
 have p5:=by2.d2
 have HM1:=Hj (fun (W:World) (hb:Below wo.heap.size wo W) => ratMay_any g1 a1 b1 n1 c1 m1 d1 x1 y1 W ((hx1.below hB).below hb) ((hy1.below hB).below hb) ox1 oy1 ((hT.below hB).below hb))
 have HM2:=Hj (fun (W:World) (hb:Below wo.heap.size wo W) => ratMay_any g2 a2 b2 n2 c2 m2 d2 x2 y2 W ((hx2.below hB).below hb) ((hy2.below hB).below hb) ox2 oy2 ((hT.below hB).below hb))
 have HFF:=Hj (fun hm (W:World) (hb:Below wo.heap.size wo W) => hF hm W (hB.trans (hb.mono hB.size)))
 have HBx:=Hj (And.intro bx2 by2)
 have HBB:=Hj hB
 have HO:=Hj hO
 have HNo:=Hj hno
 unfold ratV at HM1 HM2 HFF ⊢
 clear bx bx2 by_ by2 hba hbb hbo hB hO hx1 hy1 hx2 hy2 hT hF hno
 cases k1:MayR g1 x1 y1
 ·obtain ⟨rfl,rfl,rfl,rfl⟩:=Uh HNo (by rw [k1]; rfl)
  have KM:=Hj (Uh HM1 wo (Below.refl _ _))
  rw [k1] at KM
  clear HM1 HM2 HFF k1 HNo
  go_enter Tryz.func55,Tryz.ntmps55
  go_wp2_with fail
  refine (Uh KM).mono ?_
  rintro _ wy ⟨rfl,hby⟩
  clear KM p0 p1 p2 p3 p4 p5
  have hO3:=(Uh HO).keep hby
  obtain ⟨i0,o0⟩:=hO3.cells 0 (by decide)
  obtain ⟨i1,o1⟩:=hO3.cells 1 (by decide)
  obtain ⟨i2,o2⟩:=hO3.cells 2 (by decide)
  have f0:=hO3.fz 0 (by decide)
  have f1:=hO3.fz 1 (by decide)
  have f2:=hO3.fz 2 (by decide)
  have H4:=Hj (three_set wy wb.heap.size (.bool false) (.slice none 0 0) (.slice none 0 0) hO3.cells)
  have HBy:=Hj hby
  clear hO3 hby
  go_wp2_with fail
  obtain ⟨t0,t1,t2,c4⟩:=Uh H4
  generalize ((wy.setCell ⟨wb.heap.size,0,none⟩ (.bool false)).setCell ⟨wb.heap.size,1,none⟩ (.slice none 0 0)).setCell ⟨wb.heap.size,2,none⟩ (.slice none 0 0) = wk at *
  refine bodyPost_ret (by simp [results,Tryz.results55,go_sem,t0,t1,t2]; try rfl) rfl ?_
  have hBy:Below w.heap.size w wy:=(Uh HBB).trans ((Uh HBy).mono (Uh HBB).size)
  have hBk:Below w.heap.size w wk:=hBy.trans (c4.below hBy.size (fun k hk => by have:=Uh Hwb; omega))
  exact ⟨_,rfl,none,0,0,none,0,0,rfl,⟨rfl,Nat.le_refl _,Nat.zero_le _,.inl rfl⟩,⟨rfl,Nat.le_refl _,Nat.zero_le _,.inl rfl⟩,(fun x hx => by cases hx),(fun x hx => by cases hx),hBk⟩
 ·have KM:=Hj (Uh HM1 wo (Below.refl _ _))
  rw [k1] at KM
  cases k2:MayR g2 x2 y2
  ·obtain ⟨rfl,rfl,rfl,rfl⟩:=Uh HNo (by rw [k1,k2]; rfl)
   have HM:=Hj (fun W hb => (by have K:=Uh HM2 W hb; rw [k2] at K; exact K:Calls Tryz.prog 6 #[.agg #[.bool g2,.slice a2 n2 c2,.slice b2 m2 d2]] W fun e w' => e = .returned (.bool false) ∧ Below W.heap.size W w'))
   clear HM1 HM2 HFF k1 k2 HNo
   go_enter Tryz.func55,Tryz.ntmps55
   go_wp2_with fail
   refine (Uh KM).mono ?_
   rintro _ wc ⟨rfl,hbc⟩
   have b2_:=(Uh HBx).2.keep hbc
   have r0:=b2_.d0
   have r1:=b2_.d1
   have r2:=b2_.d2
   have KM2:=Hj (Uh HM wc hbc)
   have HBc:=Hj hbc
   clear hbc KM b2_ HM p0 p1 p2 p3 p4 p5
   go_wp2_with fail
   refine (Uh KM2).mono ?_
   rintro _ wy ⟨rfl,hbd⟩
   have hby:=(Uh HBc).trans (hbd.mono (Uh HBc).size)
   clear KM2 r0 r1 r2 hbd
   have hO3:=(Uh HO).keep hby
   obtain ⟨i0,o0⟩:=hO3.cells 0 (by decide)
   obtain ⟨i1,o1⟩:=hO3.cells 1 (by decide)
   obtain ⟨i2,o2⟩:=hO3.cells 2 (by decide)
   have f0:=hO3.fz 0 (by decide)
   have f1:=hO3.fz 1 (by decide)
   have f2:=hO3.fz 2 (by decide)
   have H4:=Hj (three_set wy wb.heap.size (.bool false) (.slice none 0 0) (.slice none 0 0) hO3.cells)
   have HBy:=Hj hby
   clear hO3 hby
   go_wp2_with fail
   obtain ⟨t0,t1,t2,c4⟩:=Uh H4
   generalize ((wy.setCell ⟨wb.heap.size,0,none⟩ (.bool false)).setCell ⟨wb.heap.size,1,none⟩ (.slice none 0 0)).setCell ⟨wb.heap.size,2,none⟩ (.slice none 0 0) = wk at *
   refine bodyPost_ret (by simp [results,Tryz.results55,go_sem,t0,t1,t2]; try rfl) rfl ?_
   have hBy:Below w.heap.size w wy:=(Uh HBB).trans ((Uh HBy).mono (Uh HBB).size)
   have hBk:Below w.heap.size w wk:=hBy.trans (c4.below hBy.size (fun k hk => by have:=Uh Hwb; omega))
   exact ⟨_,rfl,none,0,0,none,0,0,rfl,⟨rfl,Nat.le_refl _,Nat.zero_le _,.inl rfl⟩,⟨rfl,Nat.le_refl _,Nat.zero_le _,.inl rfl⟩,(fun x hx => by cases hx),(fun x hx => by cases hx),hBk⟩
  ·have HM:=Hj (fun W hb => (by have K:=Uh HM2 W hb; rw [k2] at K; exact K:Calls Tryz.prog 6 #[.agg #[.bool g2,.slice a2 n2 c2,.slice b2 m2 d2]] W fun e w' => e = .returned (.bool true) ∧ Below W.heap.size W w'))
   have HF:=Hj (Uh HFF (by rw [k1,k2]; rfl))
   clear HM1 HM2 HFF k1 k2 HNo
   go_enter Tryz.func55,Tryz.ntmps55
   go_wp2_with fail
   refine (Uh KM).mono ?_
   rintro _ wc ⟨rfl,hbc⟩
   have bb:=And.intro ((Uh HBx).1.keep hbc) ((Uh HBx).2.keep hbc)
   have r0:=bb.2.d0
   have r1:=bb.2.d1
   have r2:=bb.2.d2
   have KM2:=Hj (Uh HM wc hbc)
   have HBc:=Hj hbc
   have HB2:=Hj bb
   clear hbc KM bb HM p0 p1 p2 p3 p4 p5
   go_wp2_with fail
   refine (Uh KM2).mono ?_
   rintro _ wd ⟨rfl,hbd⟩
   have b3:=(Uh HB2).1.keep hbd
   have b4:=(Uh HB2).2.keep hbd
   have u0:=b3.d0
   have u1:=b3.d1
   have u2:=b3.d2
   have v0:=b4.d0
   have v1:=b4.d1
   have v2:=b4.d2
   have hbd2:=(Uh HBc).trans (hbd.mono (Uh HBc).size)
   have KF:=Hj (Uh HF wd hbd2)
   have HD:=Hj hbd2
   clear hbd KM2 b3 b4 HF r0 r1 r2 hbd2
   go_wp2_with fail
   refine (Uh KF).mono ?_
   rintro _ wy ⟨v,rfl,aN,mN,cN,aM,mM,cM,rfl,sN,sM,nN,nM,bY⟩
   have hby:=(Uh HD).trans (bY.mono (Uh HD).size)
   have hlt9:wb.heap.size < wd.heap.size:=Nat.lt_of_lt_of_le (Uh HO).lt (Uh HD).size
   have HX:=Hj (And.intro sN (And.intro sM (And.intro nN nM)))
   clear KF u0 u1 u2 v0 v1 v2 sN sM nN nM bY
   unfold ratV
   have hO3:=(Uh HO).keep hby
   obtain ⟨i0,o0⟩:=hO3.cells 0 (by decide)
   obtain ⟨i1,o1⟩:=hO3.cells 1 (by decide)
   obtain ⟨i2,o2⟩:=hO3.cells 2 (by decide)
   have f0:=hO3.fz 0 (by decide)
   have f1:=hO3.fz 1 (by decide)
   have f2:=hO3.fz 2 (by decide)
   have H4:=Hj (three_set wy wb.heap.size (.bool ng) (.slice aN mN cN) (.slice aM mM cM) hO3.cells)
   have HBy:=Hj hby
   clear hO3 hby
   go_wp2_with fail
   obtain ⟨t0,t1,t2,c4⟩:=Uh H4
   generalize ((wy.setCell ⟨wb.heap.size,0,none⟩ (.bool ng)).setCell ⟨wb.heap.size,1,none⟩ (.slice aN mN cN)).setCell ⟨wb.heap.size,2,none⟩ (.slice aM mM cM) = wk at *
   refine bodyPost_ret (by simp [results,Tryz.results55,go_sem,t0,t1,t2]; try rfl) rfl ?_
   have hBy:Below w.heap.size w wy:=(Uh HBB).trans ((Uh HBy).mono (Uh HBB).size)
   have hBk:Below w.heap.size w wk:=hBy.trans (c4.below hBy.size (fun k hk => by have:=Uh Hwb; omega))
   have hwd:w.heap.size ≤ wd.heap.size:=Nat.le_trans (Uh HBB).size (Uh HD).size
   exact ⟨_,rfl,aN,mN,cN,aM,mM,cM,rfl,(Uh HX).1.chg c4 (fun x hx _ h => by have h1:=(Uh HX).2.2.1 x hx; omega),(Uh HX).2.1.chg c4 (fun x hx _ h => by have h1:=(Uh HX).2.2.2 x hx; omega),(fun x hx => Nat.le_trans hwd ((Uh HX).2.2.1 x hx)),(fun x hx => Nat.le_trans hwd ((Uh HX).2.2.2 x hx)),hBk⟩

set_option maxHeartbeats 8000000 in
set_option maxRecDepth 100000 in
theorem ratSub_face (g1 g2:Bool) (a1 b1 a2 b2:Option Addr) (n1 c1 m1 d1 n2 c2 m2 d2:Nat) (x1 y1 x2 y2:List Nat) (w:World) (hx1:Sl w a1 n1 c1 x1) (hy1:Sl w b1 m1 d1 y1) (hx2:Sl w a2 n2 c2 x2) (hy2:Sl w b2 m2 d2 y2) (ox1:Ok x1) (oy1:Ok y1) (ox2:Ok x2) (oy2:Ok y2) (hT:Tab64 w) (ng:Bool) (zs us:List Nat) (er:Int)
  (hF:(MayR g1 x1 y1 && MayR g2 x2 y2) = true → ∀ W,Below w.heap.size w W → Calls Tryz.prog 107 #[ratV g1 a1 n1 c1 b1 m1 d1,ratV g2 a2 n2 c2 b2 m2 d2] W fun e w' => ResR W w' ng zs us er e) (hno:(MayR g1 x1 y1 && MayR g2 x2 y2) = false → ng = false ∧ zs = [] ∧ us = [] ∧ er = 40) :
  Calls Tryz.prog 53 #[ratV g1 a1 n1 c1 b1 m1 d1,ratV g2 a2 n2 c2 b2 m2 d2] w fun e w' => ResR w w' ng zs us er e:=by
 have bx:=Box.made w g1 a1 n1 c1 b1 m1 d1
 obtain ⟨wa,hwa⟩:∃ wa,ratBox w g1 a1 n1 c1 b1 m1 d1 = wa:=⟨_,rfl⟩
 rw [hwa] at bx
 have by_:=Box.made wa g2 a2 n2 c2 b2 m2 d2
 obtain ⟨wb,hwb⟩:∃ wb,ratBox wa g2 a2 n2 c2 b2 m2 d2 = wb:=⟨_,rfl⟩
 rw [hwb] at by_
 obtain ⟨wo,hwo⟩:∃ x,wb.alloc (.cells #[.bool false,.slice none 0 0,.slice none 0 0] 25) = x:=⟨_,rfl⟩
 have hba:Below w.heap.size w wa:=by rw [← hwa]; exact bAl
 have hbb:Below wa.heap.size wa wb:=by rw [← hwb]; exact bAl
 have hbo:Below wb.heap.size wb wo:=by rw [← hwo]; exact bAl
 have hO:Out wo wb.heap.size:=by rw [← hwo]; exact Out.made wb
 have bx2:=(bx.keep hbb).keep hbo
 have by2:=by_.keep hbo
 have hB:=(hba.trans (hbb.mono hba.size)).trans (hbo.mono (Nat.le_trans hba.size hbb.size))
 have Hwb:=Hj (show w.heap.size ≤ wb.heap.size from Nat.le_trans hba.size hbb.size)
 unfold ratBox at hwa hwb
 have p0:=bx2.d0
 have p1:=bx2.d1
 have p2:=bx2.d2
 have p3:=by2.d0
 have p4:=by2.d1
 have p5:=by2.d2
 have KP:=pairSub_any g1 g2 a1 b1 a2 b2 n1 c1 m1 d1 n2 c2 m2 d2 x1 y1 x2 y2 wo (hx1.below hB) (hy1.below hB) (hx2.below hB) (hy2.below hB) ox1 oy1 ox2 oy2 (hT.below hB) ng zs us er (fun hm W hb => hF hm W (hB.trans (hb.mono hB.size))) hno
 unfold ratV at KP ⊢
 have HKP:=Hj KP
 have HBB:=Hj hB
 have HO:=Hj hO
 clear bx bx2 by_ by2 hba hbb hbo hB hO hx1 hy1 hx2 hy2 hT KP hF hno
 go_enter Tryz.func53,Tryz.ntmps53
 go_wp2_with fail
 refine (Uh HKP).mono ?_
 rintro _ wy ⟨v,rfl,aN,mN,cN,aM,mM,cM,rfl,sN,sM,nN,nM,hby⟩
 have hlt9:wb.heap.size < wo.heap.size:=(Uh HO).lt
 have HX:=Hj (And.intro sN (And.intro sM (And.intro nN nM)))
 clear HKP p0 p1 p2 p3 p4 p5 sN sM nN nM
 unfold ratV
 have hO3:=(Uh HO).keep hby
 obtain ⟨i0,o0⟩:=hO3.cells 0 (by decide)
 obtain ⟨i1,o1⟩:=hO3.cells 1 (by decide)
 obtain ⟨i2,o2⟩:=hO3.cells 2 (by decide)
 have f0:=hO3.fz 0 (by decide)
 have f1:=hO3.fz 1 (by decide)
 have f2:=hO3.fz 2 (by decide)
 have H4:=Hj (three_set wy wb.heap.size (.bool ng) (.slice aN mN cN) (.slice aM mM cM) hO3.cells)
 have HBy:=Hj hby
 clear hO3 hby
 go_wp2_with fail
 obtain ⟨t0,t1,t2,c4⟩:=Uh H4
 generalize ((wy.setCell ⟨wb.heap.size,0,none⟩ (.bool ng)).setCell ⟨wb.heap.size,1,none⟩ (.slice aN mN cN)).setCell ⟨wb.heap.size,2,none⟩ (.slice aM mM cM) = wk at *
 refine bodyPost_ret (by simp [results,Tryz.results53,go_sem,t0,t1,t2]; try rfl) rfl ?_
 have hBy:Below w.heap.size w wy:=(Uh HBB).trans ((Uh HBy).mono (Uh HBB).size)
 have hBk:Below w.heap.size w wk:=hBy.trans (c4.below hBy.size (fun k hk => by have:=Uh Hwb; omega))
 have hwd:w.heap.size ≤ wo.heap.size:=(Uh HBB).size
 exact ⟨_,rfl,aN,mN,cN,aM,mM,cM,rfl,(Uh HX).1.chg c4 (fun x hx _ h => by have h1:=(Uh HX).2.2.1 x hx; omega),(Uh HX).2.1.chg c4 (fun x hx _ h => by have h1:=(Uh HX).2.2.2 x hx; omega),(fun x hx => Nat.le_trans hwd ((Uh HX).2.2.1 x hx)),(fun x hx => Nat.le_trans hwd ((Uh HX).2.2.2 x hx)),hBk⟩
end Go.Proofs.YtmnlhnmlgncedaaGreatDoor
