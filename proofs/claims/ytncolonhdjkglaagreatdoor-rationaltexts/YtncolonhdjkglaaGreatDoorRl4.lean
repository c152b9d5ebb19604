/- Wih -/
import Derived.Test.YtncolonhdjkglaaGreatDoorWik
import Derived.Test.YtncolonhdjkglaaGreatDoorMy2
import Derived.Test.YtncolonhdjkglaaGreatDoorWs4
import Derived.Test.YtncolonhdjkglaaGreatDoorRx2
import Derived.Test.YtncolonhdjkglaaGreatDoorWi2
import Derived.ProofKit
import Derived.OpenShut
import Derived.ShutString
import Derived.ChangeOld
import Derived.SizedLaws
import Derived.Deep.Strs
import Derived.ChangeArms
import Derived.Test.YtncolonhdjkglaaGreatDoorPr3
import Derived.Test.YtncolonhdjkglaaGreatDoorGiv
namespace Go.Proofs.YtncolonhdjkglaaGreatDoor
open Go.RowKit Go.Deep
set_option linter.unusedVariables false
set_option maxHeartbeats 8000000 in
set_option maxRecDepth 100000 in
theorem pairAdd_any (g1 g2:Bool) (a1 b1 a2 b2:Option Addr) (n1 c1 m1 d1 n2 c2 m2 d2:Nat) (x1 y1 x2 y2:List Nat) (w:World) (hx1:Sl w a1 n1 c1 x1) (hy1:Sl w b1 m1 d1 y1) (hx2:Sl w a2 n2 c2 x2) (hy2:Sl w b2 m2 d2 y2) (ox1:Ok x1) (oy1:Ok y1) (ox2:Ok x2) (oy2:Ok y2) (hT:Tab64 w) (ng:Bool) (zs us:List Nat) (er:Int)
  (hF:(MayR g1 x1 y1 && MayR g2 x2 y2) = true → ∀ W,Below w.heap.size w W → Calls Tryz.prog 45 #[ratV g1 a1 n1 c1 b1 m1 d1,ratV g2 a2 n2 c2 b2 m2 d2] W fun e w' => ResR W w' ng zs us er e) (hno:(MayR g1 x1 y1 && MayR g2 x2 y2) = false → ng = false ∧ zs = [] ∧ us = [] ∧ er = 40) :
  Calls Tryz.prog 44 #[ratV g1 a1 n1 c1 b1 m1 d1,ratV g2 a2 n2 c2 b2 m2 d2,.func (.func 45) #[] #[]] w fun e w' => ResR w w' ng zs us er e:=by
 have bx:=Box.made w g1 a1 n1 c1 b1 m1 d1
 obtain ⟨wa,hwa⟩:∃ wa,ratBox w g1 a1 n1 c1 b1 m1 d1 = wa:=⟨_,rfl⟩
 rw [hwa] at bx
 have by_:=Box.made wa g2 a2 n2 c2 b2 m2 d2
 obtain ⟨wb,hwb⟩:∃ wb,ratBox wa g2 a2 n2 c2 b2 m2 d2 = wb:=⟨_,rfl⟩
 rw [hwb] at by_
 obtain ⟨wo,hwo⟩:∃ x,wb.alloc (.cells #[.bool false,.slice none 0 0,.slice none 0 0] 25) = x:=⟨_,rfl⟩
 have hba:Below w.heap.size w wa:=by rw [← hwa]; exact bAl
 have hbb:Below wa.heap.size wa wb:=by rw [← hwb]; exact bAl
 have hbo:Below wb.heap.size wb wo:=by rw [← hwo]; exact bAl
 have hO:Out wo wb.heap.size:=by rw [← hwo]; exact Out.made wb
 have bx2:=(bx.keep hbb).keep hbo
 have by2:=by_.keep hbo
 have hB:=(hba.trans (hbb.mono hba.size)).trans (hbo.mono (Nat.le_trans hba.size hbb.size))
 have Hwb:=Hd (show w.heap.size ≤ wb.heap.size from Nat.le_trans hba.size hbb.size)
 unfold ratBox at hwa hwb
 have p0:=bx2.d0
 have p1:=bx2.d1
 have p2:=bx2.d2
 have p3:=by2.d0
 have p4:=by2.d1
 have p5:=by2.d2
 have HM1:=Hd (fun (W:World) (hb:Below wo.heap.size wo W) => ratMay_any g1 a1 b1 n1 c1 m1 d1 x1 y1 W ((hx1.below hB).below hb) ((hy1.below hB).below hb) ox1 oy1 ((hT.below hB).below hb))
 have HM2:=Hd (fun (W:World) (hb:Below wo.heap.size wo W) => ratMay_any g2 a2 b2 n2 c2 m2 d2 x2 y2 W ((hx2.below hB).below hb) ((hy2.below hB).below hb) ox2 oy2 ((hT.below hB).below hb))
 have HFF:=Hd (fun hm (W:World) (hb:Below wo.heap.size wo W) => hF hm W (hB.trans (hb.mono hB.size)))
 have HBx:=Hd (And.intro bx2 by2)
 have HBB:=Hd hB
 have HO:=Hd hO
 have HNo:=Hd hno
 unfold ratV at HM1 HM2 HFF ⊢
 clear bx bx2 by_ by2 hba hbb hbo hB hO hx1 hy1 hx2 hy2 hT hF hno
 cases k1:MayR g1 x1 y1
 ·obtain ⟨rfl,rfl,rfl,rfl⟩:=Uh HNo (by rw [k1]; rfl)
  have KM:=Hd (Uh HM1 wo (Below.refl _ _))
  rw [k1] at KM
  clear HM1 HM2 HFF k1 HNo
  go_enter Tryz.func44,Tryz.ntmps44
  go_wp2_with fail
  refine (Uh KM).mono ?_
  rintro _ wy ⟨rfl,hby⟩
  clear KM p0 p1 p2 p3 p4 p5
  have hO3:=(Uh HO).keep hby
  obtain ⟨i0,o0⟩:=hO3.cells 0 (by decide)
  obtain ⟨i1,o1⟩:=hO3.cells 1 (by decide)
  obtain ⟨i2,o2⟩:=hO3.cells 2 (by decide)
  have f0:=hO3.fz 0 (by decide)
  have f1:=hO3.fz 1 (by decide)
  have f2:=hO3.fz 2 (by decide)
  have H4:=Hd (three_set wy wb.heap.size (.bool false) (.slice none 0 0) (.slice none 0 0) hO3.cells)
  have HBy:=Hd hby
  clear hO3 hby
  go_wp2_with fail
  obtain ⟨t0,t1,t2,c4⟩:=Uh H4
  generalize ((wy.setCell ⟨wb.heap.size,0,none⟩ (.bool false)).setCell ⟨wb.heap.size,1,none⟩ (.slice none 0 0)).setCell ⟨wb.heap.size,2,none⟩ (.slice none 0 0) = wk at *
  refine bodyPost_ret (by simp [results,Tryz.results44,go_sem,t0,t1,t2]; try rfl) rfl ?_
  have hBy:Below w.heap.size w wy:=(Uh HBB).trans ((Uh HBy).mono (Uh HBB).size)
  have hBk:Below w.heap.size w wk:=hBy.trans (c4.below hBy.size (fun k hk => by have:=Uh Hwb; omega))
  exact ⟨_,rfl,none,0,0,none,0,0,rfl,⟨rfl,Nat.le_refl _,Nat.zero_le _,.inl rfl⟩,⟨rfl,Nat.le_refl _,Nat.zero_le _,.inl rfl⟩,(fun x hx => by cases hx),(fun x hx => by cases hx),hBk⟩
 ·have KM:=Hd (Uh HM1 wo (Below.refl _ _))
  rw [k1] at KM
  cases k2:MayR g2 x2 y2
  ·obtain ⟨rfl,rfl,rfl,rfl⟩:=Uh HNo (by rw [k1,k2]; rfl)
   have HM:=Hd (fun W hb => (by have K:=Uh HM2 W hb; rw [k2] at K; exact K:Calls Tryz.prog 24 #[.agg #[.bool g2,.slice a2 n2 c2,.slice b2 m2 d2]] W fun e w' => e = .returned (.bool false) ∧ Below W.heap.size W w'))
   clear HM1 HM2 HFF k1 k2 HNo
   go_enter Tryz.func44,Tryz.ntmps44
   go_wp2_with fail
   refine (Uh KM).mono ?_
   rintro _ wc ⟨rfl,hbc⟩
   have b2_:=(Uh HBx).2.keep hbc
   have r0:=b2_.d0
   have r1:=b2_.d1
   have r2:=b2_.d2
   have KM2:=Hd (Uh HM wc hbc)
   have HBc:=Hd hbc
   clear hbc KM b2_ HM p0 p1 p2 p3 p4 p5
   go_wp2_with fail
   refine (Uh KM2).mono ?_
   rintro _ wy ⟨rfl,hbd⟩
   have hby:=(Uh HBc).trans (hbd.mono (Uh HBc).size)
   clear KM2 r0 r1 r2 hbd
   have hO3:=(Uh HO).keep hby
   obtain ⟨i0,o0⟩:=hO3.cells 0 (by decide)
   obtain ⟨i1,o1⟩:=hO3.cells 1 (by decide)
   obtain ⟨i2,o2⟩:=hO3.cells 2 (by decide)
   have f0:=hO3.fz 0 (by decide)
   have f1:=hO3.fz 1 (by decide)
   have f2:=hO3.fz 2 (by decide)
   have H4:=Hd (three_set wy wb.heap.size (.bool false) (.slice none 0 0) (.slice none 0 0) hO3.cells)
   have HBy:=Hd hby
   clear hO3 hby
   go_wp2_with fail
   obtain ⟨t0,t1,t2,c4⟩:=Uh H4
   generalize ((wy.setCell ⟨wb.heap.size,0,none⟩ (.bool false)).setCell ⟨wb.heap.size,1,none⟩ (.slice none 0 0)).setCell ⟨wb.heap.size,2,none⟩ (.slice none 0 0) = wk at *
   refine bodyPost_ret (by simp [results,Tryz.results44,go_sem,t0,t1,t2]; try rfl) rfl ?_
   have hBy:Below w.heap.size w wy:=(Uh HBB).trans ((Uh HBy).mono (Uh HBB).size)
   have hBk:Below w.heap.size w wk:=hBy.trans (c4.below hBy.size (fun k hk => by have:=Uh Hwb; omega))
   exact ⟨_,rfl,none,0,0,none,0,0,rfl,⟨rfl,Nat.le_refl _,Nat.zero_le _,.inl rfl⟩,⟨rfl,Nat.le_refl _,Nat.zero_le _,.inl rfl⟩,(fun x hx => by cases hx),(fun x hx => by cases hx),hBk⟩
  ·have HM:=Hd (fun W hb => (by have K:=Uh HM2 W hb; rw [k2] at K; exact K:Calls Tryz.prog 24 #[.agg #[.bool g2,.slice a2 n2 c2,.slice b2 m2 d2]] W fun e w' => e = .returned (.bool true) ∧ Below W.heap.size W w'))
   have HF:=Hd (Uh HFF (by rw [k1,k2]; rfl))
   clear HM1 HM2 HFF k1 k2 HNo
   go_enter Tryz.func44,Tryz.ntmps44
   go_wp2_with fail
   refine (Uh KM).mono ?_
   rintro _ wc ⟨rfl,hbc⟩
   have bb:=And.intro ((Uh HBx).1.keep hbc) ((Uh HBx).2.keep hbc)
   have r0:=bb.2.d0
   have r1:=bb.2.d1
   have r2:=bb.2.d2
   have KM2:=Hd (Uh HM wc hbc)
   have HBc:=Hd hbc
   have HB2:=Hd bb
   clear hbc KM bb HM p0 p1 p2 p3 p4 p5
   go_wp2_with fail
   refine (Uh KM2).mono ?_
   rintro _ wd ⟨rfl,hbd⟩
   have b3:=(Uh HB2).1.keep hbd
   have b4:=(Uh HB2).2.keep hbd
   have u0:=b3.d0
   have u1:=b3.d1
   have u2:=b3.d2
   have v0:=b4.d0
   have v1:=b4.d1
   have v2:=b4.d2
   have hbd2:=(Uh HBc).trans (hbd.mono (Uh HBc).size)
   have KF:=Hd (Uh HF wd hbd2)
   have HD:=Hd hbd2
   clear hbd KM2 b3 b4 HF r0 r1 r2 hbd2
   go_wp2_with fail
   refine (Uh KF).mono ?_
   rintro _ wy ⟨v,rfl,aN,mN,cN,aM,mM,cM,rfl,sN,sM,nN,nM,bY⟩
   have hby:=(Uh HD).trans (bY.mono (Uh HD).size)
   have hlt9:wb.heap.size < wd.heap.size:=Nat.lt_of_lt_of_le (Uh HO).lt (Uh HD).size
   have HX:=Hd (And.intro sN (And.intro sM (And.intro nN nM)))
   clear KF u0 u1 u2 v0 v1 v2 sN sM nN nM bY
   unfold ratV
   have hO3:=(Uh HO).keep hby
   obtain ⟨i0,o0⟩:=hO3.cells 0 (by decide)
   obtain ⟨i1,o1⟩:=hO3.cells 1 (by decide)
   obtain ⟨i2,o2⟩:=hO3.cells 2 (by decide)
   have f0:=hO3.fz 0 (by decide)
   have f1:=hO3.fz 1 (by decide)
   have f2:=hO3.fz 2 (by decide)
   have H4:=Hd (three_set wy wb.heap.size (.bool ng) (.slice aN mN cN) (.slice aM mM cM) hO3.cells)
   have HBy:=Hd hby
   clear hO3 hby
   go_wp2_with fail
   obtain ⟨t0,t1,t2,c4⟩:=Uh H4
   generalize ((wy.setCell ⟨wb.heap.size,0,none⟩ (.bool ng)).setCell ⟨wb.heap.size,1,none⟩ (.slice aN mN cN)).setCell ⟨wb.heap.size,2,none⟩ (.slice aM mM cM) = wk at *
   refine bodyPost_ret (by simp [results,Tryz.results44,go_sem,t0,t1,t2]; try rfl) rfl ?_
   have hBy:Below w.heap.size w wy:=(Uh HBB).trans ((Uh HBy).mono (Uh HBB).size)
   have hBk:Below w.heap.size w wk:=hBy.trans (c4.below hBy.size (fun k hk => by have:=Uh Hwb; omega))
   have hwd:w.heap.size ≤ wd.heap.size:=Nat.le_trans (Uh HBB).size (Uh HD).size
   exact ⟨_,rfl,aN,mN,cN,aM,mM,cM,rfl,(Uh HX).1.chg c4 (fun x hx _ h => by have h1:=(Uh HX).2.2.1 x hx; omega),(Uh HX).2.1.chg c4 (fun x hx _ h => by have h1:=(Uh HX).2.2.2 x hx; omega),(fun x hx => Nat.le_trans hwd ((Uh HX).2.2.1 x hx)),(fun x hx => Nat.le_trans hwd ((Uh HX).2.2.2 x hx)),hBk⟩

set_option maxHeartbeats 8000000 in
set_option maxRecDepth 100000 in
theorem ratAdd_face (g1 g2:Bool) (a1 b1 a2 b2:Option Addr) (n1 c1 m1 d1 n2 c2 m2 d2:Nat) (x1 y1 x2 y2:List Nat) (w:World) (hx1:Sl w a1 n1 c1 x1) (hy1:Sl w b1 m1 d1 y1) (hx2:Sl w a2 n2 c2 x2) (hy2:Sl w b2 m2 d2 y2) (ox1:Ok x1) (oy1:Ok y1) (ox2:Ok x2) (oy2:Ok y2) (hT:Tab64 w) (ng:Bool) (zs us:List Nat) (er:Int)
  (hF:(MayR g1 x1 y1 && MayR g2 x2 y2) = true → ∀ W,Below w.heap.size w W → Calls Tryz.prog 45 #[ratV g1 a1 n1 c1 b1 m1 d1,ratV g2 a2 n2 c2 b2 m2 d2] W fun e w' => ResR W w' ng zs us er e) (hno:(MayR g1 x1 y1 && MayR g2 x2 y2) = false → ng = false ∧ zs = [] ∧ us = [] ∧ er = 40) :
  Calls Tryz.prog 22 #[ratV g1 a1 n1 c1 b1 m1 d1,ratV g2 a2 n2 c2 b2 m2 d2] w fun e w' => ResR w w' ng zs us er e:=by
 have bx:=Box.made w g1 a1 n1 c1 b1 m1 d1
 obtain ⟨wa,hwa⟩:∃ wa,ratBox w g1 a1 n1 c1 b1 m1 d1 = wa:=⟨_,rfl⟩
 rw [hwa] at bx
 have by_:=Box.made wa g2 a2 n2 c2 b2 m2 d2
 obtain ⟨wb,hwb⟩:∃ wb,ratBox wa g2 a2 n2 c2 b2 m2 d2 = wb:=⟨_,rfl⟩
 rw [hwb] at by_
 obtain ⟨wo,hwo⟩:∃ x,wb.alloc (.cells #[.bool false,.slice none 0 0,.slice none 0 0] 25) = x:=⟨_,rfl⟩
 have hba:Below w.heap.size w wa:=by rw [← hwa]; exact bAl
 have hbb:Below wa.heap.size wa wb:=by rw [← hwb]; exact bAl
 have hbo:Below wb.heap.size wb wo:=by rw [← hwo]; exact bAl
 have hO:Out wo wb.heap.size:=by rw [← hwo]; exact Out.made wb
 have bx2:=(bx.keep hbb).keep hbo
 have by2:=by_.keep hbo
 have hB:=(hba.trans (hbb.mono hba.size)).trans (hbo.mono (Nat.le_trans hba.size hbb.size))
 have Hwb:=Hd (show w.heap.size ≤ wb.heap.size from Nat.le_trans hba.size hbb.size)
 unfold ratBox at hwa hwb
 have p0:=bx2.d0
 have p1:=bx2.d1
 have p2:=bx2.d2
 have p3:=by2.d0
 have p4:=by2.d1
 have p5:=by2.d2
 have KP:=pairAdd_any g1 g2 a1 b1 a2 b2 n1 c1 m1 d1 n2 c2 m2 d2 x1 y1 x2 y2 wo (hx1.below hB) (hy1.below hB) (hx2.below hB) (hy2.below hB) ox1 oy1 ox2 oy2 (hT.below hB) ng zs us er (fun hm W hb => hF hm W (hB.trans (hb.mono hB.size))) hno
 unfold ratV at KP ⊢
 have HKP:=Hd KP
 have HBB:=Hd hB
 have HO:=Hd hO
 clear bx bx2 by_ by2 hba hbb hbo hB hO hx1 hy1 hx2 hy2 hT KP hF hno
 go_enter Tryz.func22,Tryz.ntmps22
 go_wp2_with fail
 refine (Uh HKP).mono ?_
 rintro _ wy ⟨v,rfl,aN,mN,cN,aM,mM,cM,rfl,sN,sM,nN,nM,hby⟩
 have hlt9:wb.heap.size < wo.heap.size:=(Uh HO).lt
 have HX:=Hd (And.intro sN (And.intro sM (And.intro nN nM)))
 clear HKP p0 p1 p2 p3 p4 p5 sN sM nN nM
 unfold ratV
 have hO3:=(Uh HO).keep hby
 obtain ⟨i0,o0⟩:=hO3.cells 0 (by decide)
 obtain ⟨i1,o1⟩:=hO3.cells 1 (by decide)
 obtain ⟨i2,o2⟩:=hO3.cells 2 (by decide)
 have f0:=hO3.fz 0 (by decide)
 have f1:=hO3.fz 1 (by decide)
 have f2:=hO3.fz 2 (by decide)
 have H4:=Hd (three_set wy wb.heap.size (.bool ng) (.slice aN mN cN) (.slice aM mM cM) hO3.cells)
 have HBy:=Hd hby
 clear hO3 hby
 go_wp2_with fail
 obtain ⟨t0,t1,t2,c4⟩:=Uh H4
 generalize ((wy.setCell ⟨wb.heap.size,0,none⟩ (.bool ng)).setCell ⟨wb.heap.size,1,none⟩ (.slice aN mN cN)).setCell ⟨wb.heap.size,2,none⟩ (.slice aM mM cM) = wk at *
 refine bodyPost_ret (by simp [results,Tryz.results22,go_sem,t0,t1,t2]; try rfl) rfl ?_
 have hBy:Below w.heap.size w wy:=(Uh HBB).trans ((Uh HBy).mono (Uh HBB).size)
 have hBk:Below w.heap.size w wk:=hBy.trans (c4.below hBy.size (fun k hk => by have:=Uh Hwb; omega))
 have hwd:w.heap.size ≤ wo.heap.size:=(Uh HBB).size
 exact ⟨_,rfl,aN,mN,cN,aM,mM,cM,rfl,(Uh HX).1.chg c4 (fun x hx _ h => by have h1:=(Uh HX).2.2.1 x hx; omega),(Uh HX).2.1.chg c4 (fun x hx _ h => by have h1:=(Uh HX).2.2.2 x hx; omega),(fun x hx => Nat.le_trans hwd ((Uh HX).2.2.1 x hx)),(fun x hx => Nat.le_trans hwd ((Uh HX).2.2.2 x hx)),hBk⟩

def AddF (g1:Bool) (x1 y1:List Nat) (g2:Bool) (x2 y2:List Nat):(Bool × List Nat × List Nat) × Int :=
 if MayR g1 x1 y1 && MayR g2 x2 y2 then (if bigN (adN g1 x1 y1 g2 x2 y2) || bigN (adD g1 x1 y1 g2 x2 y2) then ((false,[],[]),2) else (((adS g1 x1 y1 g2 x2 y2).2 && decide (adN g1 x1 y1 g2 x2 y2 ≠ 0),limbs (adN g1 x1 y1 g2 x2 y2),limbs (adD g1 x1 y1 g2 x2 y2)),0)) else ((false,[],[]),40)
theorem ratAdd_any (g1 g2:Bool) (a1 b1 a2 b2:Option Addr) (n1 c1 m1 d1 n2 c2 m2 d2:Nat) (x1 y1 x2 y2:List Nat) (w:World) (hx1:Sl w a1 n1 c1 x1) (hy1:Sl w b1 m1 d1 y1) (hx2:Sl w a2 n2 c2 x2) (hy2:Sl w b2 m2 d2 y2) (ox1:Ok x1) (oy1:Ok y1) (ox2:Ok x2) (oy2:Ok y2) (hT:Tab64 w) :
  Calls Tryz.prog 22 #[ratV g1 a1 n1 c1 b1 m1 d1,ratV g2 a2 n2 c2 b2 m2 d2] w fun e w' => ResR w w' (AddF g1 x1 y1 g2 x2 y2).1.1 (AddF g1 x1 y1 g2 x2 y2).1.2.1 (AddF g1 x1 y1 g2 x2 y2).1.2.2 (AddF g1 x1 y1 g2 x2 y2).2 e:=by
 refine ratAdd_face g1 g2 a1 b1 a2 b2 n1 c1 m1 d1 n2 c2 m2 d2 x1 y1 x2 y2 w hx1 hy1 hx2 hy2 ox1 oy1 ox2 oy2 hT _ _ _ _ (fun hm W hb => ?_) (fun hm => ?_)
 ·have h12:MayR g1 x1 y1 = true ∧ MayR g2 x2 y2 = true:=by simpa using hm
  obtain ⟨ka1,kb1,e1,_,_⟩:=MayR.parts h12.1
  obtain ⟨ka2,kb2,e2,_,_⟩:=MayR.parts h12.2
  refine (ratadd_any g1 g2 a1 b1 a2 b2 n1 c1 m1 d1 n2 c2 m2 d2 x1 y1 x2 y2 W (hx1.below hb) (hy1.below hb) (hx2.below hb) (hy2.below hb) ox1 oy1 ox2 oy2 ka1 kb1 ka2 kb2 e1 e2 (hT.below hb) (by_any W)).mono (fun e w' h => ?_)
  unfold MuPost at h
  unfold AddF
  rw [if_pos hm]
  split at h
  ·rename_i hbig
   rw [if_pos hbig]
   exact h
  ·rename_i hbig
   rw [if_neg hbig]
   exact h
 ·unfold AddF
  rw [hm]
  exact ⟨rfl,rfl,rfl,rfl⟩
end Go.Proofs.YtncolonhdjkglaaGreatDoor
namespace Go.Proofs.YtncolonhdjkglaaGreatDoor
open Go.ChangeShapes Go.WideShapes Go.ChangeAt Go.RowKit Go.Deep
set_option linter.unusedVariables false
structure Fct where
 p:World → Prop
 st:∀ {w w':World},Below w.heap.size w w' → p w → p w'
structure Fcts (w0 w:World) (L:List Fct):Prop where
 bel:Below w0.heap.size w0 w
 all:∀ f ∈ L,f.p w
theorem Fcts.step {w0 w w':World} {L:List Fct} (h:Fcts w0 w L) (k:Below w.heap.size w w'):Fcts w0 w' L :=
 ⟨h.bel.trans (k.mono h.bel.size),fun f hf => f.st k (h.all f hf)⟩
theorem Fcts.add {w0 w:World} {L:List Fct} (h:Fcts w0 w L) (f:Fct) (hf:f.p w):Fcts w0 w (f :: L) :=
 ⟨h.bel,fun g hg => by rcases List.mem_cons.1 hg with rfl | hg; exact hf; exact h.all g hg⟩
structure Nm (w:World) (a:Option Addr) (n c:Nat) (x:List Nat) (b:Option Addr) (m d:Nat) (y:List Nat):Prop where
 num:Sl w a n c x
 den:Sl w b m d y
structure Tri (w:World) (R:Nat) (v0 v1 v2:Value):Prop where
 c0:w.cell? ⟨R,0,none⟩ = some v0
 c1:w.cell? ⟨R,1,none⟩ = some v1
 c2:w.cell? ⟨R,2,none⟩ = some v2
 f0:w.frozen? ⟨R,0,none⟩ = false
 f1:w.frozen? ⟨R,1,none⟩ = false
 f2:w.frozen? ⟨R,2,none⟩ = false
 lt:R < w.heap.size
theorem Tri.keep {w w':World} {R:Nat} {v0 v1 v2:Value} (h:Tri w R v0 v1 v2) (k:Below w.heap.size w w'):Tri w' R v0 v1 v2:=by
 have hc:∀ i,w'.cell? ⟨R,i,none⟩ = w.cell? ⟨R,i,none⟩:=fun i => by unfold World.cell?; simp only; rw [k.block _ h.lt]
 have hf:∀ i,w'.frozen? ⟨R,i,none⟩ = w.frozen? ⟨R,i,none⟩:=fun i => by unfold World.frozen?; simp only; rw [k.block _ h.lt]
 exact ⟨(hc 0).trans h.c0,(hc 1).trans h.c1,(hc 2).trans h.c2,(hf 0).trans h.f0,(hf 1).trans h.f1,(hf 2).trans h.f2,Nat.lt_of_lt_of_le h.lt k.size⟩
theorem Tri.made (w:World) (v0 v1 v2:Value) (e:TypeId):Tri (w.alloc (.cells #[v0,v1,v2] e)) w.heap.size v0 v1 v2:=by
 refine ⟨?_,?_,?_,?_,?_,?_,?_⟩ <;> simp
def fN (a:Option Addr) (n c:Nat) (x:List Nat) (b:Option Addr) (m d:Nat) (y:List Nat):Fct:=⟨fun w => Nm w a n c x b m d y,fun k h => ⟨h.num.below k,h.den.below k⟩⟩
def fR (R:Nat) (v0 v1 v2:Value):Fct:=⟨fun w => Tri w R v0 v1 v2,fun k h => h.keep k⟩
def fTab:Fct:=⟨fun w => Tab64 w,fun k h => h.below k⟩
theorem Fcts.n {w0 w:World} {L:List Fct} (h:Fcts w0 w L) (a:Option Addr) (n c:Nat) (x:List Nat) (b:Option Addr) (m d:Nat) (y:List Nat) (hm:fN a n c x b m d y ∈ L):Nm w a n c x b m d y:=h.all _ hm
theorem Fcts.r {w0 w:World} {L:List Fct} (h:Fcts w0 w L) (R:Nat) (v0 v1 v2:Value) (hm:fR R v0 v1 v2 ∈ L):Tri w R v0 v1 v2:=h.all _ hm
theorem Fcts.tab {w0 w:World} {L:List Fct} (h:Fcts w0 w L) (hm:fTab ∈ L):Tab64 w:=h.all _ hm
theorem Fcts.box {w0 w:World} {L:List Fct} (h:Fcts w0 w L) (v0 v1 v2:Value) (e:TypeId):Fcts w0 (w.alloc (.cells #[v0,v1,v2] e)) (fR w.heap.size v0 v1 v2 :: L) :=
 (h.step (bAl)).add (fR w.heap.size v0 v1 v2) (Tri.made _ _ _ _ _)

theorem law_own:ownKnob Tryz.prog.godebug = none:=by kernel_rfl
theorem law_laid:laidOutB Tryz.prog = true:=by kernel_rfl
theorem law_bytesL:Tryz.prog.bytesOf 64 = 4:=by kernel_rfl
theorem law_cellsL:Tryz.prog.cellsOf 64 = 1:=by kernel_rfl
theorem law_cellsB:Tryz.prog.cellsOf 4 = 1:=by kernel_rfl
theorem law_cellsN:Tryz.prog.cellsOf 23 = 1:=by kernel_rfl
theorem law_cellsR:Tryz.prog.cellsOf 25 = 3:=by kernel_rfl

theorem trod_limbsZ {H:Type} {enc:TypeId × Value → H} {W:World} {fuel:Nat} {cs:List Value} {x:DataW H × List MemPlace}
  (h:DataW.trod enc Tryz.prog W 0 (fun _ => true) true fuel 23 cs = some x) (hz:∀ k ∈ x.1.weights Tryz.prog 23,k ≤ reachBytes) :
  ∃ a n c xs,cs = [.slice a n c] ∧ Sl W a n c xs ∧ Ok xs ∧ n ≤ 35184372088000 ∧ (a = none → c = 0):=by
 rcases open_ints Tryz.underlying23 Tryz.underlying64 law_cellsL h with ⟨rfl,_⟩ | ⟨y,n,c,zs,rfl,_,hl,hm,hzl,rfl,hcell,hwz⟩
 ·exact ⟨none,0,0,[],rfl,sl_nil _,Ok.nil,Nat.zero_le _,fun _ => rfl⟩
 ·have hzl':zs.length = c:=by simpa using hzl
  have hb:=hz (((lits (H:=H) .u32 (zs.take n)).length + (lits (H:=H) .u32 (zs.drop n)).length) * Tryz.prog.bytesOf 64) (by simp [DataW.weights,Tryz.underlying23])
  have hlen:(lits (H:=H) .u32 (zs.take n)).length + (lits (H:=H) .u32 (zs.drop n)).length = c:=by
   simp [lits]; omega
  rw [hlen,law_bytesL] at hb
  unfold reachBytes at hb
  refine ⟨some y,n,c,(zs.take n).map Int.toNat,rfl,⟨by simp; omega,hl,hm,?_⟩,fun z hzz => ?_,by omega,fun h => by cases h⟩
  ·by_cases h0:n = 0
   ·left; subst h0; simp
   ·right
    obtain ⟨b,off,spot⟩:=y
    have c0:=hcell 0 (by omega)
    have hspot:spot = none:=by simpa [Addr.add] using World.cell?_spot c0
    subst hspot
    refine ⟨b,off,rfl,?_⟩
    intro i hi
    have hi':i < n:=by simp at hi; omega
    have e:(⟨b,off,none⟩:Addr).add i = ⟨b,off + i,none⟩:=by unfold Addr.add; split <;> simp_all
    have hzi:=hcell i (by omega)
    rw [e] at hzi
    rw [hzi]
    have hmem:zs.getD i 0 ∈ zs:=by
     have:zs.getD i 0 = zs[i]'(by omega):=by simp [List.getD,show i < zs.length from by omega]
     rw [this]; exact List.getElem_mem _
    have r:=bounds_u32 (hwz _ hmem)
    have e2:((zs.take n).map Int.toNat).getD i 0 = (zs.getD i 0).toNat:=by
     simp [List.getD,hi',show i < zs.length from by omega]
    rw [e2]
    congr 2
    omega
  ·obtain ⟨u,hu,rfl⟩:=List.mem_map.1 hzz
   have:=bounds_u32 (hwz u (List.mem_of_mem_take hu))
   omega

set_option maxRecDepth 100000 in
theorem arg_ratZ {H:Type} {enc:TypeId × Value → H} {W:World} {v:Value} {d:DataW H} {p:List MemPlace} {r:Reach} {b0:Nat}
  (hv:Value.okWide Tryz.prog W r b0 25 v) (h:DataW.Trod enc Tryz.prog W 0 (fun _ => true) true 25 v d p) (hz:∀ k ∈ d.weights Tryz.prog 25,k ≤ reachBytes) :
  ∃ g a n c x b m d y,v = ratV g a n c b m d ∧ Sl W a n c x ∧ Sl W b m d y ∧ Ok x ∧ Ok y ∧ (n ≤ 35184372088000 ∧ m ≤ 35184372088000) ∧ (a = none → c = 0) ∧ (b = none → d = 0):=by
 obtain ⟨cs,rfl,hsz⟩:=okWide_struct Tryz.underlying25 hv
 obtain ⟨fuel,hf⟩:=h
 obtain ⟨y0,y1,y2,k,hx,hl,h0,h1,h2⟩:=trod_struct3 Tryz.underlying25 hf
 rw [law_cellsR] at hl
 have hcs:(Value.agg cs).cells.toList = cs.toList:=by simp [Value.cells]
 generalize hL:(Value.agg cs).cells.toList = L at hl h0 h1 h2
 match L,hl with
 | [c0,c1,c2],_ =>
  simp only [List.drop_zero,List.drop_succ_cons,law_cellsB,law_cellsN,List.take_succ_cons,List.take_zero] at h0 h1 h2
  obtain ⟨g,e0,e0'⟩:=DataW.trod_bool Tryz.underlying4 h0
  cases hx
  obtain ⟨a,n,c,xs,e1,k1,k2,k5,k7⟩:=trod_limbsZ h1 (fun k hk => hz k (by simp [DataW.weights,DataW.weightsEach,Tryz.underlying25,hk]))
  obtain ⟨b,m,d,ys,e2,k3,k4,k6,k8⟩:=trod_limbsZ h2 (fun k hk => hz k (by simp [DataW.weights,DataW.weightsEach,Tryz.underlying25,hk]))
  cases e0
  cases e1
  cases e2
  refine ⟨g,a,n,c,xs,b,m,d,ys,?_,k1,k3,k2,k4,⟨k5,k6⟩,k7,k8⟩
  unfold ratV
  congr 1
  apply Array.ext'
  rw [hcs] at hL
  simpa using hL

theorem LawSt.natC {w:World} {B:Nat} {v0 v1:Value} {es:List Ent} {w0:World} {L:List Pc} (h:LawSt w B v0 v1 es w0 L) (p:Pc) (hp:p ∈ L) (hn:p.n ≤ 35184372088000) (he:es.length ≤ 1000000000000) :
  Calls Tryz.prog 13 #[.pointer (some ⟨B,0,none⟩),.slice p.a p.n p.c] w fun e w' => ∃ v0' v1' E,e = .returned (.slice (some ⟨Ent.b E,0,none⟩) p.n E.c) ∧ LawSt w' B v0' v1' (es ++ [E]) w0 (⟨some ⟨E.b,0,none⟩,p.n,E.c,p.xs⟩ :: L) ∧ w.heap.size ≤ E.b ∧ Chg (Own B v0 v1) w w' ∧ ∀ k,k < w.heap.size → ¬ Own B v0 v1 k → ¬ Own B v0' v1' k:=by
 refine (gnat_any B v0 v1 es p.a p.n p.c p.xs w h.giv (h.all p hp).sl hn he).mono ?_
 rintro e w' ⟨v0',v1',E,rfl,hxs,hge,hg,hc,hsafe⟩
 refine ⟨v0',v1',E,rfl,⟨hg,?_,h.base,?_⟩,hge,hc,hsafe⟩
 ·refine h.bel.trans (hc.below h.bel.size ?_)
  intro k hk ho
  have:=h.giv.own_ge ho
  have:=h.base
  omega
 ·intro q hq
  rcases List.mem_cons.1 hq with rfl | hq
  ·have E1:=hg.ents E (by simp)
   have:=E1.sl.pre (n:=p.n) (by rw [hxs]; exact (h.all p hp).sl.len) (by rfl)
   rw [hxs] at this
   exact ⟨this,fun x hx _ => by cases hx; exact E1.s⟩
  ·have K:=h.all q hq
   refine ⟨K.sl.chg hc K.safe,?_⟩
   intro x hx hne
   exact hsafe _ (K.sl.block_lt hne x hx) (K.safe x hx hne)

theorem EntOk.ne {w:World} {B:Nat} {v0 v1:Value} {e:Ent} (h:EntOk w B v0 v1 e) {R:Nat} {b:Bool} (hR:w.cell? ⟨R,0,none⟩ = some (.bool b)):e.b ≠ R ∧ e.b0 ≠ R:=by
 have key:∀ (g n c:Nat) (xs:List Nat),Sl w (some ⟨g,0,none⟩) n c xs → xs ≠ [] → g ≠ R:=by
  intro g n c xs hs hne hg
  obtain ⟨b',off',e',hc⟩:=hs.cells.resolve_left hne
  cases e'
  have:=hc 0 (List.length_pos_iff.2 hne)
  rw [Nat.zero_add,hg,hR] at this
  cases this
 exact ⟨key _ _ _ _ h.sl (by simp [marks]),key _ _ _ _ h.sl0 (by simp [marks])⟩

theorem LawSt.setR {w w':World} {B:Nat} {v0 v1:Value} {es:List Ent} {w0:World} {L:List Pc} (h:LawSt w B v0 v1 es w0 L) {R:Nat} {b:Bool} (hR:w.cell? ⟨R,0,none⟩ = some (.bool b)) (hc:Chg (fun j => j = R) w w') (hw:w0.heap.size ≤ R) (hO:¬ Own B v0 v1 R) (hL:∀ p ∈ L,∀ x,p.a = some x → p.xs ≠ [] → x.block ≠ R) :
  LawSt w' B v0 v1 es w0 L:=by
 refine ⟨h.giv.chg hc (fun e => hO (by rw [← e]; exact .inl rfl)) (fun k hk e => hO (by rw [← e]; exact .inr (.inl hk))) (fun k hk e => hO (by rw [← e]; exact .inr (.inr hk))) (fun e he => (h.giv.ents e he).ne hR),h.bel.trans (hc.below h.bel.size (fun k hk => by omega)),h.base,?_⟩
 intro p hp
 have K:=h.all p hp
 exact ⟨K.sl.chg hc (fun x hx hne => hL p hp x hx hne),K.safe⟩
end Go.Proofs.YtncolonhdjkglaaGreatDoor
namespace Go.Proofs.YtncolonhdjkglaaGreatDoor
open Go.RowKit Go.Deep
set_option linter.unusedVariables false

end Go.Proofs.YtncolonhdjkglaaGreatDoor
