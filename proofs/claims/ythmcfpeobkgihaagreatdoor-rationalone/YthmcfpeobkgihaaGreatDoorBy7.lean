/- Wih -/
import Derived.Test.YthmcfpeobkgihaaGreatDoorWij
import Derived.Test.YthmcfpeobkgihaaGreatDoorWil
import Derived.Test.YthmcfpeobkgihaaGreatDoorWip
import Derived.Test.YthmcfpeobkgihaaGreatDoorRd1
import Derived.Test.YthmcfpeobkgihaaGreatDoorMul
import Derived.Laws.BytesArg
namespace Go.Proofs.YthmcfpeobkgihaaGreatDoor
open Go.RowKit Go.Deep
set_option linter.unusedVariables false
set_option maxHeartbeats 8000000 in
set_option maxRecDepth 100000 in
theorem pairAdd_any (g1 g2:Bool) (a1 b1 a2 b2:Option Addr) (n1 c1 m1 d1 n2 c2 m2 d2:Nat) (x1 y1 x2 y2:List Nat) (w:World) (hx1:Sl w a1 n1 c1 x1) (hy1:Sl w b1 m1 d1 y1) (hx2:Sl w a2 n2 c2 x2) (hy2:Sl w b2 m2 d2 y2) (ox1:Ok x1) (oy1:Ok y1) (ox2:Ok x2) (oy2:Ok y2) (hT:Tab64 w) (ng:Bool) (zs us:List Nat) (er:Int)
  (hF:(MayR g1 x1 y1 && MayR g2 x2 y2) = true → ∀ W,Below w.heap.size w W → Calls Tryz.prog 64 #[ratV g1 a1 n1 c1 b1 m1 d1,ratV g2 a2 n2 c2 b2 m2 d2] W fun e w' => ResR W w' ng zs us er e) (hno:(MayR g1 x1 y1 && MayR g2 x2 y2) = false → ng = false ∧ zs = [] ∧ us = [] ∧ er = 40) :
  Calls Tryz.prog 63 #[ratV g1 a1 n1 c1 b1 m1 d1,ratV g2 a2 n2 c2 b2 m2 d2,.func (.func 64) #[] #[]] w fun e w' => ResR w w' ng zs us er e:=by
 have bx:=Box.made w g1 a1 n1 c1 b1 m1 d1
 obtain ⟨wa,hwa⟩:∃ wa,ratBox w g1 a1 n1 c1 b1 m1 d1 = wa:=⟨_,rfl⟩
 rw [hwa] at bx
 have by_:=Box.made wa g2 a2 n2 c2 b2 m2 d2
 obtain ⟨wb,hwb⟩:∃ wb,ratBox wa g2 a2 n2 c2 b2 m2 d2 = wb:=⟨_,rfl⟩
 rw [hwb] at by_
 obtain ⟨wo,hwo⟩:∃ x,wb.alloc (.cells #[.bool false,.slice none 0 0,.slice none 0 0] 25) = x:=⟨_,rfl⟩
 have hba:Below w.heap.size w wa:=by rw [← hwa]; exact bAl
 have hbb:Below wa.heap.size wa wb:=by rw [← hwb]; exact bAl
 have hbo:Below wb.heap.size wb wo:=by rw [← hwo]; exact bAl
 have hO:Out wo wb.heap.size:=by rw [← hwo]; exact Out.made wb
 have bx2:=(bx.keep hbb).keep hbo
 have by2:=by_.keep hbo
 have hB:=(hba.trans (hbb.mono hba.size)).trans (hbo.mono (Nat.le_trans hba.size hbb.size))
 have Hwb:=Hd (show w.heap.size ≤ wb.heap.size from Nat.le_trans hba.size hbb.size)
 unfold ratBox at hwa hwb
 have p0:=bx2.d0
 have p1:=bx2.d1
 have p2:=bx2.d2
 have p3:=by2.d0
 have p4:=by2.d1
 have p5:=by2.d2
 have HM1:=Hd (fun (W:World) (hb:Below wo.heap.size wo W) => ratMay_any g1 a1 b1 n1 c1 m1 d1 x1 y1 W ((hx1.below hB).below hb) ((hy1.below hB).below hb) ox1 oy1 ((hT.below hB).below hb))
 have HM2:=Hd (fun (W:World) (hb:Below wo.heap.size wo W) => ratMay_any g2 a2 b2 n2 c2 m2 d2 x2 y2 W ((hx2.below hB).below hb) ((hy2.below hB).below hb) ox2 oy2 ((hT.below hB).below hb))
 have HFF:=Hd (fun hm (W:World) (hb:Below wo.heap.size wo W) => hF hm W (hB.trans (hb.mono hB.size)))
 have HBx:=Hd (And.intro bx2 by2)
 have HBB:=Hd hB
 have HO:=Hd hO
 have HNo:=Hd hno
 unfold ratV at HM1 HM2 HFF ⊢
 clear bx bx2 by_ by2 hba hbb hbo hB hO hx1 hy1 hx2 hy2 hT hF hno
 cases k1:MayR g1 x1 y1
 ·obtain ⟨rfl,rfl,rfl,rfl⟩:=Uh HNo (by rw [k1]; rfl)
  have KM:=Hd (Uh HM1 wo (Below.refl _ _))
  rw [k1] at KM
  clear HM1 HM2 HFF k1 HNo
  go_enter Tryz.func63,Tryz.ntmps63
  go_wp2_with fail
  refine (Uh KM).mono ?_
  rintro _ wy ⟨rfl,hby⟩
  clear KM p0 p1 p2 p3 p4 p5
  have hO3:=(Uh HO).keep hby
  obtain ⟨i0,o0⟩:=hO3.cells 0 (by decide)
  obtain ⟨i1,o1⟩:=hO3.cells 1 (by decide)
  obtain ⟨i2,o2⟩:=hO3.cells 2 (by decide)
  have f0:=hO3.fz 0 (by decide)
  have f1:=hO3.fz 1 (by decide)
  have f2:=hO3.fz 2 (by decide)
  have H4:=Hd (three_set wy wb.heap.size (.bool false) (.slice none 0 0) (.slice none 0 0) hO3.cells)
  have HBy:=Hd hby
  clear hO3 hby
  go_wp2_with fail
  obtain ⟨t0,t1,t2,c4⟩:=Uh H4
  generalize ((wy.setCell ⟨wb.heap.size,0,none⟩ (.bool false)).setCell ⟨wb.heap.size,1,none⟩ (.slice none 0 0)).setCell ⟨wb.heap.size,2,none⟩ (.slice none 0 0) = wk at *
  refine bodyPost_ret (by simp [results,Tryz.results63,go_sem,t0,t1,t2]; try rfl) rfl ?_
  have hBy:Below w.heap.size w wy:=(Uh HBB).trans ((Uh HBy).mono (Uh HBB).size)
  have hBk:Below w.heap.size w wk:=hBy.trans (c4.below hBy.size (fun k hk => by have:=Uh Hwb; omega))
  exact ⟨_,rfl,none,0,0,none,0,0,rfl,⟨rfl,Nat.le_refl _,Nat.zero_le _,.inl rfl⟩,⟨rfl,Nat.le_refl _,Nat.zero_le _,.inl rfl⟩,(fun x hx => by cases hx),(fun x hx => by cases hx),hBk⟩
 ·have KM:=Hd (Uh HM1 wo (Below.refl _ _))
  rw [k1] at KM
  cases k2:MayR g2 x2 y2
  ·obtain ⟨rfl,rfl,rfl,rfl⟩:=Uh HNo (by rw [k1,k2]; rfl)
   have HM:=Hd (fun W hb => (by have K:=Uh HM2 W hb; rw [k2] at K; exact K:Calls Tryz.prog 32 #[.agg #[.bool g2,.slice a2 n2 c2,.slice b2 m2 d2]] W fun e w' => e = .returned (.bool false) ∧ Below W.heap.size W w'))
   clear HM1 HM2 HFF k1 k2 HNo
   go_enter Tryz.func63,Tryz.ntmps63
   go_wp2_with fail
   refine (Uh KM).mono ?_
   rintro _ wc ⟨rfl,hbc⟩
   have b2_:=(Uh HBx).2.keep hbc
   have r0:=b2_.d0
   have r1:=b2_.d1
   have r2:=b2_.d2
   have KM2:=Hd (Uh HM wc hbc)
   have HBc:=Hd hbc
   clear hbc KM b2_ HM p0 p1 p2 p3 p4 p5
   go_wp2_with fail
   refine (Uh KM2).mono ?_
   rintro _ wy ⟨rfl,hbd⟩
   have hby:=(Uh HBc).trans (hbd.mono (Uh HBc).size)
   clear KM2 r0 r1 r2 hbd
   have hO3:=(Uh HO).keep hby
   obtain ⟨i0,o0⟩:=hO3.cells 0 (by decide)
   obtain ⟨i1,o1⟩:=hO3.cells 1 (by decide)
   obtain ⟨i2,o2⟩:=hO3.cells 2 (by decide)
   have f0:=hO3.fz 0 (by decide)
   have f1:=hO3.fz 1 (by decide)
   have f2:=hO3.fz 2 (by decide)
   have H4:=Hd (three_set wy wb.heap.size (.bool false) (.slice none 0 0) (.slice none 0 0) hO3.cells)
   have HBy:=Hd hby
   clear hO3 hby
   go_wp2_with fail
   obtain ⟨t0,t1,t2,c4⟩:=Uh H4
   generalize ((wy.setCell ⟨wb.heap.size,0,none⟩ (.bool false)).setCell ⟨wb.heap.size,1,none⟩ (.slice none 0 0)).setCell ⟨wb.heap.size,2,none⟩ (.slice none 0 0) = wk at *
   refine bodyPost_ret (by simp [results,Tryz.results63,go_sem,t0,t1,t2]; try rfl) rfl ?_
   have hBy:Below w.heap.size w wy:=(Uh HBB).trans ((Uh HBy).mono (Uh HBB).size)
   have hBk:Below w.heap.size w wk:=hBy.trans (c4.below hBy.size (fun k hk => by have:=Uh Hwb; omega))
   exact ⟨_,rfl,none,0,0,none,0,0,rfl,⟨rfl,Nat.le_refl _,Nat.zero_le _,.inl rfl⟩,⟨rfl,Nat.le_refl _,Nat.zero_le _,.inl rfl⟩,(fun x hx => by cases hx),(fun x hx => by cases hx),hBk⟩
  ·have HM:=Hd (fun W hb => (by have K:=Uh HM2 W hb; rw [k2] at K; exact K:Calls Tryz.prog 32 #[.agg #[.bool g2,.slice a2 n2 c2,.slice b2 m2 d2]] W fun e w' => e = .returned (.bool true) ∧ Below W.heap.size W w'))
   have HF:=Hd (Uh HFF (by rw [k1,k2]; rfl))
   clear HM1 HM2 HFF k1 k2 HNo
   go_enter Tryz.func63,Tryz.ntmps63
   go_wp2_with fail
   refine (Uh KM).mono ?_
   rintro _ wc ⟨rfl,hbc⟩
   have bb:=And.intro ((Uh HBx).1.keep hbc) ((Uh HBx).2.keep hbc)
   have r0:=bb.2.d0
   have r1:=bb.2.d1
   have r2:=bb.2.d2
   have KM2:=Hd (Uh HM wc hbc)
   have HBc:=Hd hbc
   have HB2:=Hd bb
   clear hbc KM bb HM p0 p1 p2 p3 p4 p5
   go_wp2_with fail
   refine (Uh KM2).mono ?_
   rintro _ wd ⟨rfl,hbd⟩
   have b3:=(Uh HB2).1.keep hbd
   have b4:=(Uh HB2).2.keep hbd
   have u0:=b3.d0
   have u1:=b3.d1
   have u2:=b3.d2
   have v0:=b4.d0
   have v1:=b4.d1
   have v2:=b4.d2
   have hbd2:=(Uh HBc).trans (hbd.mono (Uh HBc).size)
   have KF:=Hd (Uh HF wd hbd2)
   have HD:=Hd hbd2
   clear hbd KM2 b3 b4 HF r0 r1 r2 hbd2
   go_wp2_with fail
   refine (Uh KF).mono ?_
   rintro _ wy ⟨v,rfl,aN,mN,cN,aM,mM,cM,rfl,sN,sM,nN,nM,bY⟩
   have hby:=(Uh HD).trans (bY.mono (Uh HD).size)
   have hlt9:wb.heap.size < wd.heap.size:=Nat.lt_of_lt_of_le (Uh HO).lt (Uh HD).size
   have HX:=Hd (And.intro sN (And.intro sM (And.intro nN nM)))
   clear KF u0 u1 u2 v0 v1 v2 sN sM nN nM bY
   unfold ratV
   have hO3:=(Uh HO).keep hby
   obtain ⟨i0,o0⟩:=hO3.cells 0 (by decide)
   obtain ⟨i1,o1⟩:=hO3.cells 1 (by decide)
   obtain ⟨i2,o2⟩:=hO3.cells 2 (by decide)
   have f0:=hO3.fz 0 (by decide)
   have f1:=hO3.fz 1 (by decide)
   have f2:=hO3.fz 2 (by decide)
   have H4:=Hd (three_set wy wb.heap.size (.bool ng) (.slice aN mN cN) (.slice aM mM cM) hO3.cells)
   have HBy:=Hd hby
   clear hO3 hby
   go_wp2_with fail
   obtain ⟨t0,t1,t2,c4⟩:=Uh H4
   generalize ((wy.setCell ⟨wb.heap.size,0,none⟩ (.bool ng)).setCell ⟨wb.heap.size,1,none⟩ (.slice aN mN cN)).setCell ⟨wb.heap.size,2,none⟩ (.slice aM mM cM) = wk at *
   refine bodyPost_ret (by simp [results,Tryz.results63,go_sem,t0,t1,t2]; try rfl) rfl ?_
   have hBy:Below w.heap.size w wy:=(Uh HBB).trans ((Uh HBy).mono (Uh HBB).size)
   have hBk:Below w.heap.size w wk:=hBy.trans (c4.below hBy.size (fun k hk => by have:=Uh Hwb; omega))
   have hwd:w.heap.size ≤ wd.heap.size:=Nat.le_trans (Uh HBB).size (Uh HD).size
   exact ⟨_,rfl,aN,mN,cN,aM,mM,cM,rfl,(Uh HX).1.chg c4 (fun x hx _ h => by have h1:=(Uh HX).2.2.1 x hx; omega),(Uh HX).2.1.chg c4 (fun x hx _ h => by have h1:=(Uh HX).2.2.2 x hx; omega),(fun x hx => Nat.le_trans hwd ((Uh HX).2.2.1 x hx)),(fun x hx => Nat.le_trans hwd ((Uh HX).2.2.2 x hx)),hBk⟩

set_option maxHeartbeats 8000000 in
set_option maxRecDepth 100000 in
theorem ratAdd_face (g1 g2:Bool) (a1 b1 a2 b2:Option Addr) (n1 c1 m1 d1 n2 c2 m2 d2:Nat) (x1 y1 x2 y2:List Nat) (w:World) (hx1:Sl w a1 n1 c1 x1) (hy1:Sl w b1 m1 d1 y1) (hx2:Sl w a2 n2 c2 x2) (hy2:Sl w b2 m2 d2 y2) (ox1:Ok x1) (oy1:Ok y1) (ox2:Ok x2) (oy2:Ok y2) (hT:Tab64 w) (ng:Bool) (zs us:List Nat) (er:Int)
  (hF:(MayR g1 x1 y1 && MayR g2 x2 y2) = true → ∀ W,Below w.heap.size w W → Calls Tryz.prog 64 #[ratV g1 a1 n1 c1 b1 m1 d1,ratV g2 a2 n2 c2 b2 m2 d2] W fun e w' => ResR W w' ng zs us er e) (hno:(MayR g1 x1 y1 && MayR g2 x2 y2) = false → ng = false ∧ zs = [] ∧ us = [] ∧ er = 40) :
  Calls Tryz.prog 28 #[ratV g1 a1 n1 c1 b1 m1 d1,ratV g2 a2 n2 c2 b2 m2 d2] w fun e w' => ResR w w' ng zs us er e:=by
 have bx:=Box.made w g1 a1 n1 c1 b1 m1 d1
 obtain ⟨wa,hwa⟩:∃ wa,ratBox w g1 a1 n1 c1 b1 m1 d1 = wa:=⟨_,rfl⟩
 rw [hwa] at bx
 have by_:=Box.made wa g2 a2 n2 c2 b2 m2 d2
 obtain ⟨wb,hwb⟩:∃ wb,ratBox wa g2 a2 n2 c2 b2 m2 d2 = wb:=⟨_,rfl⟩
 rw [hwb] at by_
 obtain ⟨wo,hwo⟩:∃ x,wb.alloc (.cells #[.bool false,.slice none 0 0,.slice none 0 0] 25) = x:=⟨_,rfl⟩
 have hba:Below w.heap.size w wa:=by rw [← hwa]; exact bAl
 have hbb:Below wa.heap.size wa wb:=by rw [← hwb]; exact bAl
 have hbo:Below wb.heap.size wb wo:=by rw [← hwo]; exact bAl
 have hO:Out wo wb.heap.size:=by rw [← hwo]; exact Out.made wb
 have bx2:=(bx.keep hbb).keep hbo
 have by2:=by_.keep hbo
 have hB:=(hba.trans (hbb.mono hba.size)).trans (hbo.mono (Nat.le_trans hba.size hbb.size))
 have Hwb:=Hd (show w.heap.size ≤ wb.heap.size from Nat.le_trans hba.size hbb.size)
 unfold ratBox at hwa hwb
 have p0:=bx2.d0
 have p1:=bx2.d1
 have p2:=bx2.d2
 have p3:=by2.d0
 have p4:=by2.d1
 have p5:=by2.d2
 have KP:=pairAdd_any g1 g2 a1 b1 a2 b2 n1 c1 m1 d1 n2 c2 m2 d2 x1 y1 x2 y2 wo (hx1.below hB) (hy1.below hB) (hx2.below hB) (hy2.below hB) ox1 oy1 ox2 oy2 (hT.below hB) ng zs us er (fun hm W hb => hF hm W (hB.trans (hb.mono hB.size))) hno
 unfold ratV at KP ⊢
 have HKP:=Hd KP
 have HBB:=Hd hB
 have HO:=Hd hO
 clear bx bx2 by_ by2 hba hbb hbo hB hO hx1 hy1 hx2 hy2 hT KP hF hno
 go_enter Tryz.func28,Tryz.ntmps28
 go_wp2_with fail
 refine (Uh HKP).mono ?_
 rintro _ wy ⟨v,rfl,aN,mN,cN,aM,mM,cM,rfl,sN,sM,nN,nM,hby⟩
 have hlt9:wb.heap.size < wo.heap.size:=(Uh HO).lt
 have HX:=Hd (And.intro sN (And.intro sM (And.intro nN nM)))
 clear HKP p0 p1 p2 p3 p4 p5 sN sM nN nM
 unfold ratV
 have hO3:=(Uh HO).keep hby
 obtain ⟨i0,o0⟩:=hO3.cells 0 (by decide)
 obtain ⟨i1,o1⟩:=hO3.cells 1 (by decide)
 obtain ⟨i2,o2⟩:=hO3.cells 2 (by decide)
 have f0:=hO3.fz 0 (by decide)
 have f1:=hO3.fz 1 (by decide)
 have f2:=hO3.fz 2 (by decide)
 have H4:=Hd (three_set wy wb.heap.size (.bool ng) (.slice aN mN cN) (.slice aM mM cM) hO3.cells)
 have HBy:=Hd hby
 clear hO3 hby
 go_wp2_with fail
 obtain ⟨t0,t1,t2,c4⟩:=Uh H4
 generalize ((wy.setCell ⟨wb.heap.size,0,none⟩ (.bool ng)).setCell ⟨wb.heap.size,1,none⟩ (.slice aN mN cN)).setCell ⟨wb.heap.size,2,none⟩ (.slice aM mM cM) = wk at *
 refine bodyPost_ret (by simp [results,Tryz.results28,go_sem,t0,t1,t2]; try rfl) rfl ?_
 have hBy:Below w.heap.size w wy:=(Uh HBB).trans ((Uh HBy).mono (Uh HBB).size)
 have hBk:Below w.heap.size w wk:=hBy.trans (c4.below hBy.size (fun k hk => by have:=Uh Hwb; omega))
 have hwd:w.heap.size ≤ wo.heap.size:=(Uh HBB).size
 exact ⟨_,rfl,aN,mN,cN,aM,mM,cM,rfl,(Uh HX).1.chg c4 (fun x hx _ h => by have h1:=(Uh HX).2.2.1 x hx; omega),(Uh HX).2.1.chg c4 (fun x hx _ h => by have h1:=(Uh HX).2.2.2 x hx; omega),(fun x hx => Nat.le_trans hwd ((Uh HX).2.2.1 x hx)),(fun x hx => Nat.le_trans hwd ((Uh HX).2.2.2 x hx)),hBk⟩

def nI (g:Bool) (v:Nat):Int:=if g then -(v:Int) else (v:Int)
theorem nI_mul (g:Bool) (v k:Nat):nI g (v * k) = nI g v * (k:Int):=by
 cases g <;> simp [nI,Int.neg_mul]
theorem nI_and (g:Bool) (v:Nat):nI (g && decide (v ≠ 0)) v = nI g v:=by
 cases g
 ·rfl
 ·by_cases h:v = 0
  ·subst h; rfl
  ·simp [nI,h]
theorem nI_inj {g h:Bool} {u v:Nat} (e:nI g u = nI h v) (hg:g = true → u ≠ 0) (hh:h = true → v ≠ 0):g = h ∧ u = v:=by
 cases g <;> cases h <;> simp [nI] at * <;> omega
theorem cop_of {a b:Nat} (h:∀ d,d ∣ a → d ∣ b → d = 1):Nat.gcd a b = 1:=h _ (Nat.gcd_dvd_left a b) (Nat.gcd_dvd_right a b)
theorem cop_dvd {a b d:Nat} (h:Nat.gcd a b = 1) (h1:d ∣ a) (h2:d ∣ b):d = 1:=Nat.dvd_one.1 (h ▸ Nat.dvd_gcd h1 h2)
theorem cop_mul {a b c:Nat} (h1:Nat.gcd a b = 1) (h2:Nat.gcd a c = 1):Nat.gcd a (b * c) = 1:=Nat.Coprime.mul_right h1 h2
theorem cop_mul_left {a b c:Nat} (h1:Nat.gcd a c = 1) (h2:Nat.gcd b c = 1):Nat.gcd (a * b) c = 1:=by
 rw [Nat.gcd_comm]; exact cop_mul (by rw [Nat.gcd_comm]; exact h1) (by rw [Nat.gcd_comm]; exact h2)
theorem cop_le {a b a' b':Nat} (h:Nat.gcd a b = 1) (h1:a' ∣ a) (h2:b' ∣ b):Nat.gcd a' b' = 1:=cop_of fun _ d1 d2 => cop_dvd h (Nat.dvd_trans d1 h1) (Nat.dvd_trans d2 h2)
theorem cop_quot {a b:Nat} (hb:0 < b):Nat.gcd (a / Nat.gcd a b) (b / Nat.gcd a b) = 1:=by
 have hg:0 < Nat.gcd a b:=Nat.gcd_pos_of_pos_right _ hb
 rw [Nat.gcd_div (Nat.gcd_dvd_left _ _) (Nat.gcd_dvd_right _ _)]
 exact Nat.div_self hg
theorem div_of {a b:Nat} (h:b ∣ a):a = a / b * b:=(Nat.div_mul_cancel h).symm
theorem mul_low {X1 Y1 X2 Y2:Nat} (h1:Nat.gcd X1 Y1 = 1) (h2:Nat.gcd X2 Y2 = 1) (p1:0 < Y1) (p2:0 < Y2) :
  Nat.gcd (X1 / Nat.gcd X1 Y2 * (X2 / Nat.gcd X2 Y1)) (Y1 / Nat.gcd X2 Y1 * (Y2 / Nat.gcd X1 Y2)) = 1:=by
 have a1:X1 / Nat.gcd X1 Y2 ∣ X1:=Nat.div_dvd_of_dvd (Nat.gcd_dvd_left _ _)
 have a2:X2 / Nat.gcd X2 Y1 ∣ X2:=Nat.div_dvd_of_dvd (Nat.gcd_dvd_left _ _)
 have b1:Y1 / Nat.gcd X2 Y1 ∣ Y1:=Nat.div_dvd_of_dvd (Nat.gcd_dvd_right _ _)
 have b2:Y2 / Nat.gcd X1 Y2 ∣ Y2:=Nat.div_dvd_of_dvd (Nat.gcd_dvd_right _ _)
 exact cop_mul_left (cop_mul (cop_le h1 a1 b1) (cop_quot p2)) (cop_mul (cop_quot p1) (cop_le h2 a2 b2))
theorem mul_val {X1 Y1 X2 Y2:Nat} (p1:0 < Y1) (p2:0 < Y2) :
  X1 / Nat.gcd X1 Y2 * (X2 / Nat.gcd X2 Y1) * (Y1 * Y2) = X1 * X2 * (Y1 / Nat.gcd X2 Y1 * (Y2 / Nat.gcd X1 Y2)):=by
 have a1:=div_of (Nat.gcd_dvd_left X1 Y2)
 have a2:=div_of (Nat.gcd_dvd_left X2 Y1)
 have b1:=div_of (Nat.gcd_dvd_right X2 Y1)
 have b2:=div_of (Nat.gcd_dvd_right X1 Y2)
 generalize X1 / Nat.gcd X1 Y2 = x1 at *
 generalize X2 / Nat.gcd X2 Y1 = x2 at *
 generalize Y1 / Nat.gcd X2 Y1 = y1 at *
 generalize Y2 / Nat.gcd X1 Y2 = y2 at *
 generalize Nat.gcd X1 Y2 = g at *
 generalize Nat.gcd X2 Y1 = h at *
 rw [a1,a2,b1,b2]
 simp only [Nat.mul_comm,Nat.mul_left_comm]
theorem low_one {X1 Y1 X2 Y2:Nat} {g1 g2:Bool} (l1:Nat.gcd X1 Y1 = 1) (l2:Nat.gcd X2 Y2 = 1) (p1:0 < Y1) (p2:0 < Y2) (z1:g1 = true → X1 ≠ 0) (z2:g2 = true → X2 ≠ 0) (h:nI g1 X1 * (Y2:Int) = nI g2 X2 * (Y1:Int)):g1 = g2 ∧ X1 = X2 ∧ Y1 = Y2:=by
 have h':nI g1 (X1 * Y2) = nI g2 (X2 * Y1):=by rw [nI_mul,nI_mul]; exact h
 obtain ⟨hg,he⟩:=nI_inj h' (fun hg => Nat.ne_of_gt (Nat.mul_pos (Nat.pos_of_ne_zero (z1 hg)) p2)) (fun hg => Nat.ne_of_gt (Nat.mul_pos (Nat.pos_of_ne_zero (z2 hg)) p1))
 have d1:Y1 ∣ Y2:=by
  have:Y1 ∣ X1 * Y2:=by rw [he]; exact Nat.dvd_mul_left _ _
  exact Nat.Coprime.dvd_of_dvd_mul_left (by show Nat.gcd Y1 X1 = 1; rw [Nat.gcd_comm]; exact l1) this
 have d2:Y2 ∣ Y1:=by
  have:Y2 ∣ X2 * Y1:=by rw [← he]; exact Nat.dvd_mul_left _ _
  exact Nat.Coprime.dvd_of_dvd_mul_left (by show Nat.gcd Y2 X2 = 1; rw [Nat.gcd_comm]; exact l2) this
 have hy:Y1 = Y2:=Nat.dvd_antisymm d1 d2
 subst hy
 exact ⟨hg,Nat.eq_of_mul_eq_mul_right p1 he,rfl⟩

theorem mayR_pos {g:Bool} {x y:List Nat} (h:MayR g x y = true):0 < val y:=val_pos_of_may (MayR.parts h).2.1 (MayR.parts h).2.2.1
theorem div_pos_of_dvd {a b:Nat} (h:b ∣ a) (ha:0 < a):0 < a / b:=Nat.div_pos (Nat.le_of_dvd ha h) (Nat.pos_of_dvd_of_pos h ha)
def AddF (g1:Bool) (x1 y1:List Nat) (g2:Bool) (x2 y2:List Nat):(Bool × List Nat × List Nat) × Int :=
 if MayR g1 x1 y1 && MayR g2 x2 y2 then (if bigN (adN g1 x1 y1 g2 x2 y2) || bigN (adD g1 x1 y1 g2 x2 y2) then ((false,[],[]),2) else (((adS g1 x1 y1 g2 x2 y2).2 && decide (adN g1 x1 y1 g2 x2 y2 ≠ 0),limbs (adN g1 x1 y1 g2 x2 y2),limbs (adD g1 x1 y1 g2 x2 y2)),0)) else ((false,[],[]),40)
theorem ratAdd_any (g1 g2:Bool) (a1 b1 a2 b2:Option Addr) (n1 c1 m1 d1 n2 c2 m2 d2:Nat) (x1 y1 x2 y2:List Nat) (w:World) (hx1:Sl w a1 n1 c1 x1) (hy1:Sl w b1 m1 d1 y1) (hx2:Sl w a2 n2 c2 x2) (hy2:Sl w b2 m2 d2 y2) (ox1:Ok x1) (oy1:Ok y1) (ox2:Ok x2) (oy2:Ok y2) (hT:Tab64 w) :
  Calls Tryz.prog 28 #[ratV g1 a1 n1 c1 b1 m1 d1,ratV g2 a2 n2 c2 b2 m2 d2] w fun e w' => ResR w w' (AddF g1 x1 y1 g2 x2 y2).1.1 (AddF g1 x1 y1 g2 x2 y2).1.2.1 (AddF g1 x1 y1 g2 x2 y2).1.2.2 (AddF g1 x1 y1 g2 x2 y2).2 e:=by
 refine ratAdd_face g1 g2 a1 b1 a2 b2 n1 c1 m1 d1 n2 c2 m2 d2 x1 y1 x2 y2 w hx1 hy1 hx2 hy2 ox1 oy1 ox2 oy2 hT _ _ _ _ (fun hm W hb => ?_) (fun hm => ?_)
 ·have h12:MayR g1 x1 y1 = true ∧ MayR g2 x2 y2 = true:=by simpa using hm
  obtain ⟨ka1,kb1,e1,_,_⟩:=MayR.parts h12.1
  obtain ⟨ka2,kb2,e2,_,_⟩:=MayR.parts h12.2
  refine (ratadd_any g1 g2 a1 b1 a2 b2 n1 c1 m1 d1 n2 c2 m2 d2 x1 y1 x2 y2 W (hx1.below hb) (hy1.below hb) (hx2.below hb) (hy2.below hb) ox1 oy1 ox2 oy2 ka1 kb1 ka2 kb2 e1 e2 (hT.below hb) (by_any W)).mono (fun e w' h => ?_)
  unfold MuPost at h
  unfold AddF
  rw [if_pos hm]
  split at h
  ·rename_i hbig
   rw [if_pos hbig]
   exact h
  ·rename_i hbig
   rw [if_neg hbig]
   exact h
 ·unfold AddF
  rw [hm]
  exact ⟨rfl,rfl,rfl,rfl⟩
def FnB (w:World) (b off n:Nat) (f:Nat → Nat):Prop :=
 ∀ i,i < n → w.cell? ⟨b,off + i,none⟩ = some (.int .u8 (f i:Nat)) ∧ w.frozen? ⟨b,off + i,none⟩ = false
theorem FnB.set {w:World} {b off n:Nat} {f:Nat → Nat} (h:FnB w b off n f) (k v:Nat) (hk:k < n) :
  FnB (w.setCell ⟨b,off + k,none⟩ (.int .u8 (v:Nat))) b off n (fun i => if i = k then v else f i):=by
 intro i hi
 refine ⟨?_,by rw [World.frozen?_setCell]; exact (h i hi).2⟩
 by_cases e:i = k
 ·subst e
  rw [World.cell?_setCell_same _ _ _ (h i hi).1]
  simp
 ·rw [World.cell?_setCell_other _ _ _ _ (by intro h; injection h with h1 h2; omega)]
  simp [e,(h i hi).1]
theorem FnB.congr {w:World} {b off n:Nat} {f g:Nat → Nat} (h:FnB w b off n f) (he:∀ i,i < n → f i = g i):FnB w b off n g:=fun i hi => by
 have:=h i hi
 rwa [he i hi] at this
theorem FnB.made (w:World) (n:Nat) (e:TypeId):FnB (w.alloc (.cells (madeCells #[.int .u8 0] n) e)) w.heap.size 0 n (fun _ => 0):=by
 intro i hi
 refine ⟨?_,by simp⟩
 simp [madeCells,hi,Nat.mod_one]

def byteN (v i:Nat):Nat:=v / 256 ^ i % 256
def bytesN (xs:List Nat):Nat:=(bitsN xs + 7) / 8

theorem Tryz.info_u8:(Tryz.prog.info? 5).map (fun i => (i.zero,i.size,i.bytes)) = some (some (.int .u8 0),1,1):=by kernel_rfl
def valsB (xs:List Nat):List Value:=xs.map (fun x => .int .u8 (x:Nat))
def outB (xs:List Nat) (k:Nat):List Nat:=lst (fun p => byteN (val xs) (bytesN xs - 1 - p)) (bytesN xs - k)

structure ByR (wr w:World) (xs:List Nat) (v:Value) (k:Nat):Prop where
 own:wr.ownsRow w.heap.size 5 1 v (bytesN xs - k) (valsB (outB xs k))
 bel:Below w.heap.size w wr

theorem ByR.step {wr w w1:World} {xs:List Nat} {v v':Value} {k:Nat} {o:Obj} (h:ByR wr w xs v (k + 1)) (hk:k < bytesN xs)
  (hown:w1.ownsRow w.heap.size 5 1 v' (bytesN xs - (k + 1) + 1) (valsB (outB xs (k + 1)) ++ [.int .u8 (byteN (val xs) k:Nat)])) (hg:(wr.alloc o).grownBy w1 v.ownBlock):ByR w1 w xs v' k:=by
 have hs:=h.bel.size
 refine ⟨?_,Below.grown (h.bel.alloc (by omega) o) hg (by simp; omega) (fun k hk => (own_ge h.own k hk).1)⟩
 have e1:bytesN xs - (k + 1) + 1 = bytesN xs - k:=by omega
 have e:valsB (outB xs (k + 1)) ++ [.int .u8 (byteN (val xs) k:Nat)] = valsB (outB xs k):=by
  unfold outB valsB
  rw [← e1]
  simp only [lst,List.range_succ,List.map_append,List.map_cons,List.map_nil]
  rw [show bytesN xs - 1 - (bytesN xs - (k + 1)) = k from by omega]
 rw [e,e1] at hown
 exact hown
theorem ByR.skip {wr w:World} {xs:List Nat} {v:Value} {k:Nat} (h:ByR wr w xs v (k + 1)) (hk:bytesN xs ≤ k):ByR wr w xs v k:=by
 have e:bytesN xs - (k + 1) = bytesN xs - k:=by omega
 refine ⟨?_,h.bel⟩
 have:=h.own
 unfold outB at *
 rw [e] at this
 exact this

theorem own_len {w:World} {base k:Nat} {e:TypeId} {v:Value} {ws:List Value} (h:w.ownsRow base e 1 v k ws):∃ a c,v = .slice a k c:=by
 rcases h.2 with ⟨e,h0⟩ | ⟨g,cap,cur,e,hb,h5,h6,h7,h8,h9⟩
 ·subst e h0
  exact ⟨none,0,rfl⟩
 ·subst e
  exact ⟨_,_,rfl⟩
structure SlB (w:World) (a:Option Addr) (n c:Nat) (bs:List Nat):Prop where
 len:bs.length = n
 le:n ≤ c
 ok:∀ x ∈ bs,x < 256
 cells:bs = [] ∨ ∃ b off,a = some ⟨b,off,none⟩ ∧ ∀ i,i < bs.length → w.cell? ⟨b,off + i,none⟩ = some (.int .u8 (bs.getD i 0:Nat))
theorem SlB.below {w w':World} {a:Option Addr} {n c:Nat} {bs:List Nat} (h:SlB w a n c bs) (k:Below w.heap.size w w'):SlB w' a n c bs:=by
 refine ⟨h.len,h.le,h.ok,?_⟩
 rcases h.cells with e | ⟨b,off,e,hc⟩
 ·exact .inl e
 ·refine .inr ⟨b,off,e,fun i hi => ?_⟩
  have h1:=hc i hi
  rw [k.cell (World.block_lt_of_cell? _ _ h1)]
  exact h1

def lowB (bs:List Nat):Nat → Nat
 | 0 => 0
 | k + 1 => lowB bs k + bs.getD (bs.length - 1 - k) 0 * 256 ^ k
theorem lowB_lt {bs:List Nat} (ok:∀ x ∈ bs,x < 256):∀ (k:Nat),lowB bs k < 256 ^ k
 | 0 => by simp [lowB]
 | k + 1 => by
  have h1:=lowB_lt ok k
  simp only [lowB]
  have h2:bs.getD (bs.length - 1 - k) 0 < 256:=by
   by_cases hl:bs.length - 1 - k < bs.length
   ·rw [show bs.getD (bs.length - 1 - k) 0 = bs[bs.length - 1 - k] from by simp [List.getD,hl]]
    exact ok _ (List.getElem_mem _)
   ·rw [getD_ge (by omega)]; decide
  have h3:bs.getD (bs.length - 1 - k) 0 * 256 ^ k ≤ 255 * 256 ^ k:=Nat.mul_le_mul_right _ (by omega)
  rw [Nat.pow_succ]
  generalize 256 ^ k = P at *
  omega

theorem valF_putB {f:Nat → Nat} {l d:Nat}:∀ {n:Nat},l < n → valF (fun i => if i = l then f l + d else f i) n = valF f n + 4294967296 ^ l * d
 | 0,h => by omega
 | n + 1,h => by
  simp only [valF]
  by_cases e:n = l
  ·subst e
   rw [valF_congr (g:=f) (fun i hi => by rw [if_neg (by omega)])]
   simp only [if_true,Nat.mul_add]
   omega
  ·rw [valF_putB (n:=n) (by omega),if_neg e]
   omega

theorem byte_put {f:Nat → Nat} {M i l s c:Nat} (ok:∀ j,j < M → f j < 4294967296) (hl:i / 4 = l) (hs:i % 4 = s) (hM:l < M) (hv:valF f M < 256 ^ i) (hc:c < 256) :
  bits .or .u32 (f l:Int) ((c * 2 ^ (8 * s):Nat):Int) = ((f l + c * 2 ^ (8 * s):Nat):Int) ∧ f l + c * 2 ^ (8 * s) < 4294967296 ∧ c * 2 ^ (8 * s) < 4294967296 ∧ 4294967296 ^ l * (c * 2 ^ (8 * s)) = c * 256 ^ i:=by
 have p1:(256:Nat) ^ i = 4294967296 ^ l * 2 ^ (8 * s):=by
  rw [show i = 4 * l + s from by omega,show (256:Nat) = 2 ^ 8 from rfl,← Nat.pow_mul,pow_limb,← Nat.pow_add]
  congr 1
  omega
 have hd:f l < 2 ^ (8 * s):=by
  rw [valF_digit ok hM]
  refine Nat.lt_of_le_of_lt (Nat.mod_le _ _) ?_
  rw [Nat.div_lt_iff_lt_mul (pow_pos l),Nat.mul_comm,← p1]
  exact hv
 have hp:2 ^ (8 * s) * 256 ≤ 4294967296:=by
  rw [show (256:Nat) = 2 ^ 8 from rfl,← Nat.pow_add]
  exact Nat.le_trans (Nat.pow_le_pow_right (by decide) (show 8 * s + 8 ≤ 32 by omega)) (by decide)
 have hcm:c * 2 ^ (8 * s) + 2 ^ (8 * s) ≤ 2 ^ (8 * s) * 256:=by
  rw [← Nat.succ_mul,Nat.mul_comm]
  exact Nat.mul_le_mul_left _ hc
 have hP:=Nat.two_pow_pos (8 * s)
 have ho:c * 2 ^ (8 * s) ||| f l = c * 2 ^ (8 * s) + f l:=by
  have:=Nat.shiftLeft_add_eq_or_of_lt hd c
  rw [Nat.shiftLeft_eq] at this
  exact this.symm
 have h1:c * 2 ^ (8 * s) < 4294967296:=by omega
 have h2:f l < 4294967296:=ok l hM
 refine ⟨?_,by omega,h1,?_⟩
 ·rw [u32_or_nat _ _ h2 h1,Nat.or_comm,ho,Nat.add_comm]
 ·rw [p1,← Nat.mul_assoc,Nat.mul_comm _ c,Nat.mul_assoc]
structure FbR (wr w:World) (M:Nat) (r:List Nat) (i:Nat) (f:Nat → Nat):Prop where
 fn:Fn wr w.heap.size 0 M f
 ok:∀ j,j < M → f j < 4294967296
 val:valF f M = lowB r i
 bel:Below w.heap.size w wr

theorem FbR.drewN {wr w:World} {M:Nat} {r:List Nat} {i:Nat} {f:Nat → Nat} (h:FbR wr w M r i f) (j:Nat):FbR (wr.drewN j) w M r i f:=⟨h.fn,h.ok,h.val,bel_drewN h.bel j⟩
theorem FbR.step {wr w:World} {M:Nat} {r:List Nat} {i l s c:Nat} {f:Nat → Nat} (h:FbR wr w M r i f) (okr:∀ x ∈ r,x < 256) (hl:i / 4 = l) (hs:i % 4 = s) (hM:l < M) (hc:r.getD (r.length - 1 - i) 0 = c) (hc2:c < 256) :
  FbR (wr.setCell ⟨w.heap.size,l,none⟩ (.int .u32 (f l + c * 2 ^ (8 * s):Nat))) w M r (i + 1) (fun j => if j = l then f l + c * 2 ^ (8 * s) else f j):=by
 have hp:=byte_put h.ok hl hs hM (by rw [h.val]; exact lowB_lt okr i) hc2
 have hS:=h.fn.set l (f l + c * 2 ^ (8 * s)) hM
 rw [Nat.zero_add] at hS
 refine ⟨hS,?_,?_,h.bel.trans (((Upd.refl w.heap.size 0 M wr).set l (.int .u32 (f l + c * 2 ^ (8 * s):Nat)) (by omega) hM).below (Nat.le_refl _) h.bel.size)⟩
 ·intro j hj
  by_cases e:j = l
  ·simp only [e,if_true]; exact hp.2.1
  ·simp only [e,if_false]; exact h.ok j hj
 ·rw [valF_putB hM,h.val,hp.2.2.2]
  simp only [lowB]
  rw [hc]

def strB (bs:List Nat):ByteArray:=strOfNums (bs.map (fun x:Nat => (x:Int)))

theorem SlB.conv {w:World} {a:Option Addr} {n c:Nat} {bs:List Nat} (h:SlB w a n c bs) :
  (convert 164 9 (.slice a n c)).run Tryz.prog w = .ok (.string (strB bs)) w:=by
 have hl:=h.len
 cases a with
 | none =>
  rcases h.cells with e | ⟨b,off,e,_⟩
  ·subst e
   exact run_convert_bytes_nil w 164 5 Tryz.underlying164 Tryz.underlying5 n c 9 Tryz.underlying9
  ·cases e
 | some x =>
  rcases h.cells with e | ⟨b,off,e,hc⟩
  ·subst e
   simp at hl
   subst hl
   rw [run_convert_bytes_string w 164 9 5 _ 0 c Tryz.underlying164 Tryz.underlying5 Tryz.underlying9,run_bytesToString w x 0 c [] (by simpa using run_loadCells_list (P:=Tryz.prog) w x [] (by simp))]
   rfl
  ·cases e
   refine run_convert_bytes_arg w 164 5 Tryz.underlying164 Tryz.underlying5 b off n c (bs.map (fun x:Nat => (x:Int))) (by simpa using hl) (fun i hi => ?_) 9 Tryz.underlying9
   rw [hc i (by omega)]
   congr 2
   simp only [List.getD_eq_getElem?_getD,List.getElem?_map]
   cases bs[i]? <;> rfl
theorem lst_mem {f:Nat → Nat} {n x:Nat} (h:x ∈ lst f n):∃ i,i < n ∧ f i = x:=by
 simpa [lst] using h
end Go.Proofs.YthmcfpeobkgihaaGreatDoor
