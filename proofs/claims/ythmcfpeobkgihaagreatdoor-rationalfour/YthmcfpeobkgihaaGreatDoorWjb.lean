/- Wja -/
import Derived.Test.YthmcfpeobkgihaaGreatDoorWij
namespace Go.Proofs.YthmcfpeobkgihaaGreatDoor
open Go.RowKit Go.Deep
set_option linter.unusedVariables false
set_option maxHeartbeats 8000000 in
set_option maxRecDepth 100000 in
theorem pairDiv_any (g1 g2:Bool) (a1 b1 a2 b2:Option Addr) (n1 c1 m1 d1 n2 c2 m2 d2:Nat) (x1 y1 x2 y2:List Nat) (w:World) (hx1:Sl w a1 n1 c1 x1) (hy1:Sl w b1 m1 d1 y1) (hx2:Sl w a2 n2 c2 x2) (hy2:Sl w b2 m2 d2 y2) (ox1:Ok x1) (oy1:Ok y1) (ox2:Ok x2) (oy2:Ok y2) (hT:Tab64 w) (ng:Bool) (zs us:List Nat) (er:Int)
  (hF:(MayR g1 x1 y1 && MayR g2 x2 y2) = true → ∀ W,Below w.heap.size w W → Calls Tryz.prog 81 #[ratV g1 a1 n1 c1 b1 m1 d1,ratV g2 a2 n2 c2 b2 m2 d2] W fun e w' => ResR W w' ng zs us er e) (hno:(MayR g1 x1 y1 && MayR g2 x2 y2) = false → ng = false ∧ zs = [] ∧ us = [] ∧ er = 40) :
  Calls Tryz.prog 63 #[ratV g1 a1 n1 c1 b1 m1 d1,ratV g2 a2 n2 c2 b2 m2 d2,.func (.func 81) #[] #[]] w fun e w' => ResR w w' ng zs us er e:=by
 have bx:=Box.made w g1 a1 n1 c1 b1 m1 d1
 obtain ⟨wa,hwa⟩:∃ wa,ratBox w g1 a1 n1 c1 b1 m1 d1 = wa:=⟨_,rfl⟩
 rw [hwa] at bx
 have by_:=Box.made wa g2 a2 n2 c2 b2 m2 d2
 obtain ⟨wb,hwb⟩:∃ wb,ratBox wa g2 a2 n2 c2 b2 m2 d2 = wb:=⟨_,rfl⟩
 rw [hwb] at by_
 obtain ⟨wo,hwo⟩:∃ x,wb.alloc (.cells #[.bool false,.slice none 0 0,.slice none 0 0] 25) = x:=⟨_,rfl⟩
 have hba:Below w.heap.size w wa:=by rw [← hwa]; exact bAl
 have hbb:Below wa.heap.size wa wb:=by rw [← hwb]; exact bAl
 have hbo:Below wb.heap.size wb wo:=by rw [← hwo]; exact bAl
 have hO:Out wo wb.heap.size:=by rw [← hwo]; exact Out.made wb
 have bx2:=(bx.keep hbb).keep hbo
 have by2:=by_.keep hbo
 have hB:=(hba.trans (hbb.mono hba.size)).trans (hbo.mono (Nat.le_trans hba.size hbb.size))
 have Hwb:=Hd (show w.heap.size ≤ wb.heap.size from Nat.le_trans hba.size hbb.size)
 unfold ratBox at hwa hwb
 have p0:=bx2.d0
 have p1:=bx2.d1
 have p2:=bx2.d2
 have p3:=by2.d0
 have p4:=by2.d1
 have p5:=by2.d2
 have HM1:=Hd (fun (W:World) (hb:Below wo.heap.size wo W) => ratMay_any g1 a1 b1 n1 c1 m1 d1 x1 y1 W ((hx1.below hB).below hb) ((hy1.below hB).below hb) ox1 oy1 ((hT.below hB).below hb))
 have HM2:=Hd (fun (W:World) (hb:Below wo.heap.size wo W) => ratMay_any g2 a2 b2 n2 c2 m2 d2 x2 y2 W ((hx2.below hB).below hb) ((hy2.below hB).below hb) ox2 oy2 ((hT.below hB).below hb))
 have HFF:=Hd (fun hm (W:World) (hb:Below wo.heap.size wo W) => hF hm W (hB.trans (hb.mono hB.size)))
 have HBx:=Hd (And.intro bx2 by2)
 have HBB:=Hd hB
 have HO:=Hd hO
 have HNo:=Hd hno
 unfold ratV at HM1 HM2 HFF ⊢
 clear bx bx2 by_ by2 hba hbb hbo hB hO hx1 hy1 hx2 hy2 hT hF hno
 cases k1:MayR g1 x1 y1
 ·obtain ⟨rfl,rfl,rfl,rfl⟩:=Uh HNo (by rw [k1]; rfl)
  have KM:=Hd (Uh HM1 wo (Below.refl _ _))
  rw [k1] at KM
  clear HM1 HM2 HFF k1 HNo
  go_enter Tryz.func63,Tryz.ntmps63
  go_wp2_with fail
  refine (Uh KM).mono ?_
  rintro _ wy ⟨rfl,hby⟩
  clear KM p0 p1 p2 p3 p4 p5
  have hO3:=(Uh HO).keep hby
  obtain ⟨i0,o0⟩:=hO3.cells 0 (by decide)
  obtain ⟨i1,o1⟩:=hO3.cells 1 (by decide)
  obtain ⟨i2,o2⟩:=hO3.cells 2 (by decide)
  have f0:=hO3.fz 0 (by decide)
  have f1:=hO3.fz 1 (by decide)
  have f2:=hO3.fz 2 (by decide)
  have H4:=Hd (three_set wy wb.heap.size (.bool false) (.slice none 0 0) (.slice none 0 0) hO3.cells)
  have HBy:=Hd hby
  clear hO3 hby
  go_wp2_with fail
  obtain ⟨t0,t1,t2,c4⟩:=Uh H4
  generalize ((wy.setCell ⟨wb.heap.size,0,none⟩ (.bool false)).setCell ⟨wb.heap.size,1,none⟩ (.slice none 0 0)).setCell ⟨wb.heap.size,2,none⟩ (.slice none 0 0) = wk at *
  refine bodyPost_ret (by simp [results,Tryz.results63,go_sem,t0,t1,t2]; try rfl) rfl ?_
  have hBy:Below w.heap.size w wy:=(Uh HBB).trans ((Uh HBy).mono (Uh HBB).size)
  have hBk:Below w.heap.size w wk:=hBy.trans (c4.below hBy.size (fun k hk => by have:=Uh Hwb; omega))
  exact ⟨_,rfl,none,0,0,none,0,0,rfl,⟨rfl,Nat.le_refl _,Nat.zero_le _,.inl rfl⟩,⟨rfl,Nat.le_refl _,Nat.zero_le _,.inl rfl⟩,(fun x hx => by cases hx),(fun x hx => by cases hx),hBk⟩
 ·have KM:=Hd (Uh HM1 wo (Below.refl _ _))
  rw [k1] at KM
  cases k2:MayR g2 x2 y2
  ·obtain ⟨rfl,rfl,rfl,rfl⟩:=Uh HNo (by rw [k1,k2]; rfl)
   have HM:=Hd (fun W hb => (by have K:=Uh HM2 W hb; rw [k2] at K; exact K:Calls Tryz.prog 32 #[.agg #[.bool g2,.slice a2 n2 c2,.slice b2 m2 d2]] W fun e w' => e = .returned (.bool false) ∧ Below W.heap.size W w'))
   clear HM1 HM2 HFF k1 k2 HNo
   go_enter Tryz.func63,Tryz.ntmps63
   go_wp2_with fail
   refine (Uh KM).mono ?_
   rintro _ wc ⟨rfl,hbc⟩
   have b2_:=(Uh HBx).2.keep hbc
   have r0:=b2_.d0
   have r1:=b2_.d1
   have r2:=b2_.d2
   have KM2:=Hd (Uh HM wc hbc)
   have HBc:=Hd hbc
   clear hbc KM b2_ HM p0 p1 p2 p3 p4 p5
   go_wp2_with fail
   refine (Uh KM2).mono ?_
   rintro _ wy ⟨rfl,hbd⟩
   have hby:=(Uh HBc).trans (hbd.mono (Uh HBc).size)
   clear KM2 r0 r1 r2 hbd
   have hO3:=(Uh HO).keep hby
   obtain ⟨i0,o0⟩:=hO3.cells 0 (by decide)
   obtain ⟨i1,o1⟩:=hO3.cells 1 (by decide)
   obtain ⟨i2,o2⟩:=hO3.cells 2 (by decide)
   have f0:=hO3.fz 0 (by decide)
   have f1:=hO3.fz 1 (by decide)
   have f2:=hO3.fz 2 (by decide)
   have H4:=Hd (three_set wy wb.heap.size (.bool false) (.slice none 0 0) (.slice none 0 0) hO3.cells)
   have HBy:=Hd hby
   clear hO3 hby
   go_wp2_with fail
   obtain ⟨t0,t1,t2,c4⟩:=Uh H4
   generalize ((wy.setCell ⟨wb.heap.size,0,none⟩ (.bool false)).setCell ⟨wb.heap.size,1,none⟩ (.slice none 0 0)).setCell ⟨wb.heap.size,2,none⟩ (.slice none 0 0) = wk at *
   refine bodyPost_ret (by simp [results,Tryz.results63,go_sem,t0,t1,t2]; try rfl) rfl ?_
   have hBy:Below w.heap.size w wy:=(Uh HBB).trans ((Uh HBy).mono (Uh HBB).size)
   have hBk:Below w.heap.size w wk:=hBy.trans (c4.below hBy.size (fun k hk => by have:=Uh Hwb; omega))
   exact ⟨_,rfl,none,0,0,none,0,0,rfl,⟨rfl,Nat.le_refl _,Nat.zero_le _,.inl rfl⟩,⟨rfl,Nat.le_refl _,Nat.zero_le _,.inl rfl⟩,(fun x hx => by cases hx),(fun x hx => by cases hx),hBk⟩
  ·have HM:=Hd (fun W hb => (by have K:=Uh HM2 W hb; rw [k2] at K; exact K:Calls Tryz.prog 32 #[.agg #[.bool g2,.slice a2 n2 c2,.slice b2 m2 d2]] W fun e w' => e = .returned (.bool true) ∧ Below W.heap.size W w'))
   have HF:=Hd (Uh HFF (by rw [k1,k2]; rfl))
   clear HM1 HM2 HFF k1 k2 HNo
   go_enter Tryz.func63,Tryz.ntmps63
   go_wp2_with fail
   refine (Uh KM).mono ?_
   rintro _ wc ⟨rfl,hbc⟩
   have bb:=And.intro ((Uh HBx).1.keep hbc) ((Uh HBx).2.keep hbc)
   have r0:=bb.2.d0
   have r1:=bb.2.d1
   have r2:=bb.2.d2
   have KM2:=Hd (Uh HM wc hbc)
   have HBc:=Hd hbc
   have HB2:=Hd bb
   clear hbc KM bb HM p0 p1 p2 p3 p4 p5
   go_wp2_with fail
   refine (Uh KM2).mono ?_
   rintro _ wd ⟨rfl,hbd⟩
   have b3:=(Uh HB2).1.keep hbd
   have b4:=(Uh HB2).2.keep hbd
   have u0:=b3.d0
   have u1:=b3.d1
   have u2:=b3.d2
   have v0:=b4.d0
   have v1:=b4.d1
   have v2:=b4.d2
   have hbd2:=(Uh HBc).trans (hbd.mono (Uh HBc).size)
   have KF:=Hd (Uh HF wd hbd2)
   have HD:=Hd hbd2
   clear hbd KM2 b3 b4 HF r0 r1 r2 hbd2
   go_wp2_with fail
   refine (Uh KF).mono ?_
   rintro _ wy ⟨v,rfl,aN,mN,cN,aM,mM,cM,rfl,sN,sM,nN,nM,bY⟩
   have hby:=(Uh HD).trans (bY.mono (Uh HD).size)
   have hlt9:wb.heap.size < wd.heap.size:=Nat.lt_of_lt_of_le (Uh HO).lt (Uh HD).size
   have HX:=Hd (And.intro sN (And.intro sM (And.intro nN nM)))
   clear KF u0 u1 u2 v0 v1 v2 sN sM nN nM bY
   unfold ratV
   have hO3:=(Uh HO).keep hby
   obtain ⟨i0,o0⟩:=hO3.cells 0 (by decide)
   obtain ⟨i1,o1⟩:=hO3.cells 1 (by decide)
   obtain ⟨i2,o2⟩:=hO3.cells 2 (by decide)
   have f0:=hO3.fz 0 (by decide)
   have f1:=hO3.fz 1 (by decide)
   have f2:=hO3.fz 2 (by decide)
   have H4:=Hd (three_set wy wb.heap.size (.bool ng) (.slice aN mN cN) (.slice aM mM cM) hO3.cells)
   have HBy:=Hd hby
   clear hO3 hby
   go_wp2_with fail
   obtain ⟨t0,t1,t2,c4⟩:=Uh H4
   generalize ((wy.setCell ⟨wb.heap.size,0,none⟩ (.bool ng)).setCell ⟨wb.heap.size,1,none⟩ (.slice aN mN cN)).setCell ⟨wb.heap.size,2,none⟩ (.slice aM mM cM) = wk at *
   refine bodyPost_ret (by simp [results,Tryz.results63,go_sem,t0,t1,t2]; try rfl) rfl ?_
   have hBy:Below w.heap.size w wy:=(Uh HBB).trans ((Uh HBy).mono (Uh HBB).size)
   have hBk:Below w.heap.size w wk:=hBy.trans (c4.below hBy.size (fun k hk => by have:=Uh Hwb; omega))
   have hwd:w.heap.size ≤ wd.heap.size:=Nat.le_trans (Uh HBB).size (Uh HD).size
   exact ⟨_,rfl,aN,mN,cN,aM,mM,cM,rfl,(Uh HX).1.chg c4 (fun x hx _ h => by have h1:=(Uh HX).2.2.1 x hx; omega),(Uh HX).2.1.chg c4 (fun x hx _ h => by have h1:=(Uh HX).2.2.2 x hx; omega),(fun x hx => Nat.le_trans hwd ((Uh HX).2.2.1 x hx)),(fun x hx => Nat.le_trans hwd ((Uh HX).2.2.2 x hx)),hBk⟩

set_option maxHeartbeats 8000000 in
set_option maxRecDepth 100000 in
theorem ratDiv_face (g1 g2:Bool) (a1 b1 a2 b2:Option Addr) (n1 c1 m1 d1 n2 c2 m2 d2:Nat) (x1 y1 x2 y2:List Nat) (w:World) (hx1:Sl w a1 n1 c1 x1) (hy1:Sl w b1 m1 d1 y1) (hx2:Sl w a2 n2 c2 x2) (hy2:Sl w b2 m2 d2 y2) (ox1:Ok x1) (oy1:Ok y1) (ox2:Ok x2) (oy2:Ok y2) (hT:Tab64 w) (ng:Bool) (zs us:List Nat) (er:Int)
  (hF:(MayR g1 x1 y1 && MayR g2 x2 y2) = true → ∀ W,Below w.heap.size w W → Calls Tryz.prog 81 #[ratV g1 a1 n1 c1 b1 m1 d1,ratV g2 a2 n2 c2 b2 m2 d2] W fun e w' => ResR W w' ng zs us er e) (hno:(MayR g1 x1 y1 && MayR g2 x2 y2) = false → ng = false ∧ zs = [] ∧ us = [] ∧ er = 40) :
  Calls Tryz.prog 43 #[ratV g1 a1 n1 c1 b1 m1 d1,ratV g2 a2 n2 c2 b2 m2 d2] w fun e w' => ResR w w' ng zs us er e:=by
 have bx:=Box.made w g1 a1 n1 c1 b1 m1 d1
 obtain ⟨wa,hwa⟩:∃ wa,ratBox w g1 a1 n1 c1 b1 m1 d1 = wa:=⟨_,rfl⟩
 rw [hwa] at bx
 have by_:=Box.made wa g2 a2 n2 c2 b2 m2 d2
 obtain ⟨wb,hwb⟩:∃ wb,ratBox wa g2 a2 n2 c2 b2 m2 d2 = wb:=⟨_,rfl⟩
 rw [hwb] at by_
 obtain ⟨wo,hwo⟩:∃ x,wb.alloc (.cells #[.bool false,.slice none 0 0,.slice none 0 0] 25) = x:=⟨_,rfl⟩
 have hba:Below w.heap.size w wa:=by rw [← hwa]; exact bAl
 have hbb:Below wa.heap.size wa wb:=by rw [← hwb]; exact bAl
 have hbo:Below wb.heap.size wb wo:=by rw [← hwo]; exact bAl
 have hO:Out wo wb.heap.size:=by rw [← hwo]; exact Out.made wb
 have bx2:=(bx.keep hbb).keep hbo
 have by2:=by_.keep hbo
 have hB:=(hba.trans (hbb.mono hba.size)).trans (hbo.mono (Nat.le_trans hba.size hbb.size))
 have Hwb:=Hd (show w.heap.size ≤ wb.heap.size from Nat.le_trans hba.size hbb.size)
 unfold ratBox at hwa hwb
 have p0:=bx2.d0
 have p1:=bx2.d1
 have p2:=bx2.d2
 have p3:=by2.d0
 have p4:=by2.d1
 have p5:=by2.d2
 have KP:=pairDiv_any g1 g2 a1 b1 a2 b2 n1 c1 m1 d1 n2 c2 m2 d2 x1 y1 x2 y2 wo (hx1.below hB) (hy1.below hB) (hx2.below hB) (hy2.below hB) ox1 oy1 ox2 oy2 (hT.below hB) ng zs us er (fun hm W hb => hF hm W (hB.trans (hb.mono hB.size))) hno
 unfold ratV at KP ⊢
 have HKP:=Hd KP
 have HBB:=Hd hB
 have HO:=Hd hO
 clear bx bx2 by_ by2 hba hbb hbo hB hO hx1 hy1 hx2 hy2 hT KP hF hno
 go_enter Tryz.func43,Tryz.ntmps43
 go_wp2_with fail
 refine (Uh HKP).mono ?_
 rintro _ wy ⟨v,rfl,aN,mN,cN,aM,mM,cM,rfl,sN,sM,nN,nM,hby⟩
 have hlt9:wb.heap.size < wo.heap.size:=(Uh HO).lt
 have HX:=Hd (And.intro sN (And.intro sM (And.intro nN nM)))
 clear HKP p0 p1 p2 p3 p4 p5 sN sM nN nM
 unfold ratV
 have hO3:=(Uh HO).keep hby
 obtain ⟨i0,o0⟩:=hO3.cells 0 (by decide)
 obtain ⟨i1,o1⟩:=hO3.cells 1 (by decide)
 obtain ⟨i2,o2⟩:=hO3.cells 2 (by decide)
 have f0:=hO3.fz 0 (by decide)
 have f1:=hO3.fz 1 (by decide)
 have f2:=hO3.fz 2 (by decide)
 have H4:=Hd (three_set wy wb.heap.size (.bool ng) (.slice aN mN cN) (.slice aM mM cM) hO3.cells)
 have HBy:=Hd hby
 clear hO3 hby
 go_wp2_with fail
 obtain ⟨t0,t1,t2,c4⟩:=Uh H4
 generalize ((wy.setCell ⟨wb.heap.size,0,none⟩ (.bool ng)).setCell ⟨wb.heap.size,1,none⟩ (.slice aN mN cN)).setCell ⟨wb.heap.size,2,none⟩ (.slice aM mM cM) = wk at *
 refine bodyPost_ret (by simp [results,Tryz.results43,go_sem,t0,t1,t2]; try rfl) rfl ?_
 have hBy:Below w.heap.size w wy:=(Uh HBB).trans ((Uh HBy).mono (Uh HBB).size)
 have hBk:Below w.heap.size w wk:=hBy.trans (c4.below hBy.size (fun k hk => by have:=Uh Hwb; omega))
 have hwd:w.heap.size ≤ wo.heap.size:=(Uh HBB).size
 exact ⟨_,rfl,aN,mN,cN,aM,mM,cM,rfl,(Uh HX).1.chg c4 (fun x hx _ h => by have h1:=(Uh HX).2.2.1 x hx; omega),(Uh HX).2.1.chg c4 (fun x hx _ h => by have h1:=(Uh HX).2.2.2 x hx; omega),(fun x hx => Nat.le_trans hwd ((Uh HX).2.2.1 x hx)),(fun x hx => Nat.le_trans hwd ((Uh HX).2.2.2 x hx)),hBk⟩
set_option maxHeartbeats 8000000 in
set_option maxRecDepth 100000 in
theorem ratdivide_any (g1 g2:Bool) (a1 b1 a2 b2:Option Addr) (n1 c1 m1 d1 n2 c2 m2 d2:Nat) (w:World) (ng:Bool) (zs us:List Nat) (er:Int)
  (hF:n2 ≠ 0 → ∀ W,Below w.heap.size w W → Calls Tryz.prog 79 #[ratV g1 a1 n1 c1 b1 m1 d1,ratV g2 b2 m2 d2 a2 n2 c2] W fun e w' => ResR W w' ng zs us er e) (hz:n2 = 0 → ng = false ∧ zs = [] ∧ us = [] ∧ er = 3) :
  Calls Tryz.prog 81 #[ratV g1 a1 n1 c1 b1 m1 d1,ratV g2 a2 n2 c2 b2 m2 d2] w fun e w' => ResR w w' ng zs us er e:=by
 have bx:=Box.made w g1 a1 n1 c1 b1 m1 d1
 obtain ⟨wa,hwa⟩:∃ wa,ratBox w g1 a1 n1 c1 b1 m1 d1 = wa:=⟨_,rfl⟩
 rw [hwa] at bx
 have by_:=Box.made wa g2 a2 n2 c2 b2 m2 d2
 obtain ⟨wb,hwb⟩:∃ wb,ratBox wa g2 a2 n2 c2 b2 m2 d2 = wb:=⟨_,rfl⟩
 rw [hwb] at by_
 obtain ⟨wo,hwo⟩:∃ x,wb.alloc (.cells #[.bool false,.slice none 0 0,.slice none 0 0] 25) = x:=⟨_,rfl⟩
 have hba:Below w.heap.size w wa:=by rw [← hwa]; exact bAl
 have hbb:Below wa.heap.size wa wb:=by rw [← hwb]; exact bAl
 have hbo:Below wb.heap.size wb wo:=by rw [← hwo]; exact bAl
 have hO:Out wo wb.heap.size:=by rw [← hwo]; exact Out.made wb
 have bx2:=(bx.keep hbb).keep hbo
 have by2:=by_.keep hbo
 have hB:=(hba.trans (hbb.mono hba.size)).trans (hbo.mono (Nat.le_trans hba.size hbb.size))
 have Hwb:=Hd (show w.heap.size ≤ wb.heap.size from Nat.le_trans hba.size hbb.size)
 unfold ratBox at hwa hwb
 have p0:=bx2.d0
 have p1:=bx2.d1
 have p2:=bx2.d2
 have p3:=by2.d0
 have p4:=by2.d1
 have p5:=by2.d2
 have hoR:Out wo wa.heap.size:=by
  have h0:=by2.lt
  refine ⟨fun i hi => ?_,fun i hi => ?_,h0⟩
  ·match i,hi with
   | 0,_ => exact ⟨_,p3⟩
   | 1,_ => exact ⟨_,p4⟩
   | 2,_ => exact ⟨_,p5⟩
  ·match i,hi with
   | 0,_ => rw [← hwo,← hwb]; simp
   | 1,_ => rw [← hwo,← hwb]; simp
   | 2,_ => rw [← hwo,← hwb]; simp
 have hab:wa.heap.size < wb.heap.size:=by_.lt
 have hne:w.heap.size ≠ wa.heap.size:=Nat.ne_of_lt bx.lt
 have hwl:w.heap.size ≤ wa.heap.size:=hba.size
 have KZ:=isZero_any g2 a2 b2 n2 c2 m2 d2 wo
 have HBX:=Hd (And.intro bx2 (And.intro by2 (And.intro hoR (And.intro hO hB))))
 by_cases h0:n2 = 0
 ·obtain ⟨rfl,rfl,rfl,rfl⟩:=hz h0
  subst h0
  simp only [decide_true] at KZ
  have HKZ:=Hd KZ
  unfold ratV at HKZ ⊢
  clear KZ bx bx2 by_ by2 hba hbb hbo hB hO hF hz hoR
  go_enter Tryz.func81,Tryz.ntmps81
  go_wp2_with fail
  refine (Uh HKZ).mono ?_
  rintro _ wy ⟨rfl,bz⟩
  have hO3:=(Uh HBX).2.2.2.1.keep bz
  obtain ⟨i0,o0⟩:=hO3.cells 0 (by decide)
  obtain ⟨i1,o1⟩:=hO3.cells 1 (by decide)
  obtain ⟨i2,o2⟩:=hO3.cells 2 (by decide)
  have f0:=hO3.fz 0 (by decide)
  have f1:=hO3.fz 1 (by decide)
  have f2:=hO3.fz 2 (by decide)
  have H4:=Hd (three_set wy wb.heap.size (.bool false) (.slice none 0 0) (.slice none 0 0) hO3.cells)
  have HBy:=Hd ((Uh HBX).2.2.2.2.trans (bz.mono (Uh HBX).2.2.2.2.size))
  clear hO3 bz HKZ HBX p0 p1 p2 p3 p4 p5
  go_wp2_with fail
  obtain ⟨t0,t1,t2,c4⟩:=Uh H4
  generalize ((wy.setCell ⟨wb.heap.size,0,none⟩ (.bool false)).setCell ⟨wb.heap.size,1,none⟩ (.slice none 0 0)).setCell ⟨wb.heap.size,2,none⟩ (.slice none 0 0) = wk at *
  refine bodyPost_ret (by simp [results,Tryz.results81,go_sem,t0,t1,t2]; try rfl) rfl ?_
  exact ⟨_,rfl,none,0,0,none,0,0,rfl,sl_nil _,sl_nil _,newAt_nil _,newAt_nil _,(Uh HBy).trans (c4.below (Uh HBy).size (fun k hk => by have:=Uh Hwb; omega))⟩
 ·simp only [h0,decide_false] at KZ
  have HKZ:=Hd KZ
  have HF:=Hd (hF h0)
  unfold ratV at HKZ HF ⊢
  clear KZ bx bx2 by_ by2 hba hbb hbo hB hO hF hz hoR
  go_enter Tryz.func81,Tryz.ntmps81
  go_wp2_with fail
  refine (Uh HKZ).mono ?_
  rintro _ wz ⟨rfl,bz⟩
  have bX:=(Uh HBX).1.keep bz
  have bY:=(Uh HBX).2.1.keep bz
  have oY:=(Uh HBX).2.2.1.keep bz
  have oO:=(Uh HBX).2.2.2.1.keep bz
  have q0:=bX.d0
  have q1:=bX.d1
  have q2:=bX.d2
  have q3:=bY.d0
  have q4:=bY.d1
  have q5:=bY.d2
  have z1:=oY.fz 1 (by decide)
  have z2:=oY.fz 2 (by decide)
  have hcs:Chg (fun j => j = wa.heap.size) wz ((wz.setCell ⟨wa.heap.size,1,none⟩ (.slice b2 m2 d2)).setCell ⟨wa.heap.size,2,none⟩ (.slice a2 n2 c2)):=(Chg.of_set (S:=fun j => j = wa.heap.size) _ _ _ _ rfl).trans (Chg.of_set (S:=fun j => j = wa.heap.size) _ _ _ _ rfl)
  have hBz:=(Uh HBX).2.2.2.2.trans (bz.mono (Uh HBX).2.2.2.2.size)
  have hBs:=hBz.trans (hcs.below hBz.size (fun k hk h => by omega))
  have hOs:Out ((wz.setCell ⟨wa.heap.size,1,none⟩ (.slice b2 m2 d2)).setCell ⟨wa.heap.size,2,none⟩ (.slice a2 n2 c2)) wb.heap.size:=by
   refine ⟨fun i hi => ?_,fun i hi => ?_,Nat.lt_of_lt_of_le oO.lt hcs.size⟩
   ·obtain ⟨v,hv⟩:=oO.cells i hi
    exact ⟨v,hcs.cell (show wb.heap.size ≠ wa.heap.size by omega) hv⟩
   ·have:=oO.fz i hi
    simpa using this
  have HBB:=Hd hBs
  have HO:=Hd hOs
  have HKP:=Hd (Uh HF _ hBs)
  clear bX bY oY oO hcs hBz hBs hOs bz HKZ HBX HF p0 p1 p2 p3 p4 p5
  go_wp2_with fail
  generalize (wz.setCell ⟨wa.heap.size,1,none⟩ (.slice b2 m2 d2)).setCell ⟨wa.heap.size,2,none⟩ (.slice a2 n2 c2) = ws at *
  refine (Uh HKP).mono ?_
  rintro _ wy ⟨v,rfl,aN,mN,cN,aM,mM,cM,rfl,sN,sM,nN,nM,hby⟩
  have hlt9:wb.heap.size < ws.heap.size:=(Uh HO).lt
  have HX:=Hd (And.intro sN (And.intro sM (And.intro nN nM)))
  clear HKP q0 q1 q2 q3 q4 q5 z1 z2 sN sM nN nM
  unfold ratV
  have hO3:=(Uh HO).keep hby
  obtain ⟨i0,o0⟩:=hO3.cells 0 (by decide)
  obtain ⟨i1,o1⟩:=hO3.cells 1 (by decide)
  obtain ⟨i2,o2⟩:=hO3.cells 2 (by decide)
  have f0:=hO3.fz 0 (by decide)
  have f1:=hO3.fz 1 (by decide)
  have f2:=hO3.fz 2 (by decide)
  have H4:=Hd (three_set wy wb.heap.size (.bool ng) (.slice aN mN cN) (.slice aM mM cM) hO3.cells)
  have HBy:=Hd hby
  clear hO3 hby
  go_wp2_with fail
  obtain ⟨t0,t1,t2,c4⟩:=Uh H4
  generalize ((wy.setCell ⟨wb.heap.size,0,none⟩ (.bool ng)).setCell ⟨wb.heap.size,1,none⟩ (.slice aN mN cN)).setCell ⟨wb.heap.size,2,none⟩ (.slice aM mM cM) = wk at *
  refine bodyPost_ret (by simp [results,Tryz.results81,go_sem,t0,t1,t2]; try rfl) rfl ?_
  have hBy:Below w.heap.size w wy:=(Uh HBB).trans ((Uh HBy).mono (Uh HBB).size)
  have hBk:Below w.heap.size w wk:=hBy.trans (c4.below hBy.size (fun k hk => by have:=Uh Hwb; omega))
  have hwd:w.heap.size ≤ ws.heap.size:=(Uh HBB).size
  exact ⟨_,rfl,aN,mN,cN,aM,mM,cM,rfl,(Uh HX).1.chg c4 (fun x hx _ h => by have h1:=(Uh HX).2.2.1 x hx; omega),(Uh HX).2.1.chg c4 (fun x hx _ h => by have h1:=(Uh HX).2.2.2 x hx; omega),(fun x hx => Nat.le_trans hwd ((Uh HX).2.2.1 x hx)),(fun x hx => Nat.le_trans hwd ((Uh HX).2.2.2 x hx)),hBk⟩

def DivF (g1:Bool) (x1 y1:List Nat) (g2:Bool) (x2 y2:List Nat):(Bool × List Nat × List Nat) × Int :=
 if MayR g1 x1 y1 && MayR g2 x2 y2 then (if x2 = [] then ((false,[],[]),3) else if bigN (mulN x1 y1 y2 x2) || bigN (mulD x1 y1 y2 x2) then ((false,[],[]),2) else (((g1 != g2) && decide (mulN x1 y1 y2 x2 ≠ 0),limbs (mulN x1 y1 y2 x2),limbs (mulD x1 y1 y2 x2)),0)) else ((false,[],[]),40)
theorem ratDiv_any (g1 g2:Bool) (a1 b1 a2 b2:Option Addr) (n1 c1 m1 d1 n2 c2 m2 d2:Nat) (x1 y1 x2 y2:List Nat) (w:World) (hx1:Sl w a1 n1 c1 x1) (hy1:Sl w b1 m1 d1 y1) (hx2:Sl w a2 n2 c2 x2) (hy2:Sl w b2 m2 d2 y2) (ox1:Ok x1) (oy1:Ok y1) (ox2:Ok x2) (oy2:Ok y2) (hT:Tab64 w) :
  Calls Tryz.prog 43 #[ratV g1 a1 n1 c1 b1 m1 d1,ratV g2 a2 n2 c2 b2 m2 d2] w fun e w' => ResR w w' (DivF g1 x1 y1 g2 x2 y2).1.1 (DivF g1 x1 y1 g2 x2 y2).1.2.1 (DivF g1 x1 y1 g2 x2 y2).1.2.2 (DivF g1 x1 y1 g2 x2 y2).2 e:=by
 refine ratDiv_face g1 g2 a1 b1 a2 b2 n1 c1 m1 d1 n2 c2 m2 d2 x1 y1 x2 y2 w hx1 hy1 hx2 hy2 ox1 oy1 ox2 oy2 hT _ _ _ _ (fun hm W hb => ?_) (fun hm => ?_)
 ·have h12:MayR g1 x1 y1 = true ∧ MayR g2 x2 y2 = true:=by simpa using hm
  obtain ⟨ka1,kb1,e1,_,_⟩:=MayR.parts h12.1
  obtain ⟨ka2,kb2,e2,_,_⟩:=MayR.parts h12.2
  have hlen:=hx2.len
  refine ratdivide_any g1 g2 a1 b1 a2 b2 n1 c1 m1 d1 n2 c2 m2 d2 W _ _ _ _ (fun hn W2 hb2 => ?_) (fun hn => ?_)
  ·have hne:x2 ≠ []:=fun e => by rw [e] at hlen; exact hn hlen.symm
   have hb3:=hb.trans (hb2.mono hb.size)
   refine (ratmultiply_any g1 g2 a1 b1 b2 a2 n1 c1 m1 d1 m2 d2 n2 c2 x1 y1 y2 x2 W2 (hx1.below hb3) (hy1.below hb3) (hy2.below hb3) (hx2.below hb3) ox1 oy1 oy2 ox2 ka1 kb1 kb2 ka2 e1 hne (hT.below hb3)).mono (fun e w' h => ?_)
   unfold MuPost at h
   unfold DivF
   rw [if_pos hm,if_neg hne]
   split at h
   ·rename_i hbig
    rw [if_pos hbig]
    exact h
   ·rename_i hbig
    rw [if_neg hbig]
    exact h
  ·have he:x2 = []:=List.eq_nil_of_length_eq_zero (by omega)
   unfold DivF
   rw [if_pos hm,if_pos he]
   exact ⟨rfl,rfl,rfl,rfl⟩
 ·unfold DivF
  rw [hm]
  exact ⟨rfl,rfl,rfl,rfl⟩
end Go.Proofs.YthmcfpeobkgihaaGreatDoor
