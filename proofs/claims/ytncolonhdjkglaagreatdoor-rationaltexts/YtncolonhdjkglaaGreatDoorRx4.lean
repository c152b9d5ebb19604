/- Rx4 -/
import Derived.Test.YtncolonhdjkglaaGreatDoorRx2
import Derived.Test.YtncolonhdjkglaaGreatDoorWik
namespace Go.Proofs.YtncolonhdjkglaaGreatDoor
open Go.RowKit Go.Deep
set_option linter.unusedVariables false
theorem txt_limbs {xs:List Nat} (ox:Ok xs) (m:MayL xs = true):limbs (val xs) = xs:=limbs_val ox (MayL.norm m)
theorem cat3 (a b c d:ByteArray):a ++ b ++ c ++ d = a ++ (b ++ (c ++ d)):=by rw [ByteArray.append_assoc,ByteArray.append_assoc]
theorem cat2 (b c d:ByteArray):b ++ c ++ d = ⟨#[]⟩ ++ (b ++ (c ++ d)):=by
 rw [ByteArray.append_assoc]
 exact (ByteArray.empty_append).symm
theorem cat1 (b:ByteArray):b = ⟨#[]⟩ ++ b:=(ByteArray.empty_append).symm

set_option maxRecDepth 100000 in
set_option maxHeartbeats 8000000 in
theorem wprint_p1 (a b:Option Addr) (n c m d:Nat) (x y:List Nat) (w:World) (hx:Sl w a n c x) (hy:Sl w b m d y) (ox:Ok x) (oy:Ok y) (hm:MayR false x y = true) (hy1:y = [1]) :
  Calls Tryz.prog 9 #[ratV false a n c b m d] w fun e w' => PrRPost false x y w e w':=by
 have bx:=Box.made w false a n c b m d
 obtain ⟨wa,hwa⟩:∃ wa,ratBox w false a n c b m d = wa:=⟨_,rfl⟩
 rw [hwa] at bx
 have hba:Below w.heap.size w wa:=by rw [← hwa]; exact bAl
 unfold ratBox at hwa
 have p0:=bx.d0
 have p1:=bx.d1
 have p2:=bx.d2
 obtain ⟨kx,ky,ey,_,_⟩:=MayR.parts hm
 have KM:=wmay_any false a b n c m d x y wa (hx.below hba) (hy.below hba) ox oy
 rw [hm] at KM
 unfold ratV at KM ⊢
 have HKM:=Hd KM
 have HBx:=Hd bx
 have HBa:=Hd hba
 have hX:Sl w a n c (limbs (val x)):=by rw [txt_limbs ox kx]; exact hx
 have hY:Sl w b m d (limbs (val y)):=by rw [txt_limbs oy ky]; exact hy
 have hn:n ≤ 100000:=by have:=MayL.len kx; have:=hx.len; omega
 have hm2:m ≤ 100000:=by have:=MayL.len ky; have:=hy.len; omega
 have hm0:0 < m:=by
  rcases Nat.eq_zero_or_pos m with e | e
  ·exfalso; apply ey; apply List.eq_nil_of_length_eq_zero; have:=hy.len; omega
  ·exact e
 have HX:=Hd (And.intro hX (And.intro hY hy))
 have HM:=Hd (And.intro hm (And.intro kx ky))
 have hm1:m = 1:=by have:=hy.len; rw [hy1] at this; simp at this; omega
 subst hm1
 have HY:=Hd hy1
 clear KM hx hy bx hba hm kx ky ey hX hY hy1
 go_enter Tryz.func9,Tryz.ntmps9
 go_wp2_with fail
 refine (Uh HKM).mono ?_
 rintro _ wb ⟨rfl,hbb⟩
 have b2:=(Uh HBx).keep hbb
 have r0:=b2.d0
 have r1:=b2.d1
 have r2:=b2.d2
 have hB:=(Uh HBa).trans (hbb.mono (Uh HBa).size)
 have HKD:=Hd (wdigits_any a n c (val x) wb ((Uh HX).1.below hB) hn)
 have HB:=Hd hB
 have HB2:=Hd b2
 clear hbb HKM b2 p0 p1 p2 hB
 go_wp2_with fail
 refine (Uh HKD).mono ?_
 rintro _ wc ⟨k1,ht1,rfl,hbc⟩
 have hC:=(Uh HB).trans (hbc.mono (Uh HB).size)
 have b3:=(Uh HB2).keep hbc
 have q0:=b3.d0
 have q1:=b3.d1
 have q2:=b3.d2
 obtain ⟨S1,hS1⟩:∃ S1,strB (txtL (val x) 10 k1) = S1:=⟨_,rfl⟩
 rw [hS1]
 have HS1:=Hd (And.intro hS1 ht1)
 have l1:=txt_len ox (Uh HM).2.1 ht1
 rw [hS1] at l1
 have HC:=Hd hC
 have HB3:=Hd b3
 have hyC:=(Uh HX).2.2.below hC
 have hne:y ≠ []:=by intro e; have:=hyC.len; rw [e] at this; simp at this
 obtain ⟨yb,yo,rfl,hcell⟩:=hyC.cells.resolve_left hne
 have c0:=hcell 0 (by have:=hyC.len; omega)
 rw [Nat.add_zero] at c0
 rw [show y.getD 0 0 = 1 by rw [Uh HY]; rfl] at c0
 clear ht1 hS1 hC hbc b3 r0 r1 r2 HKD hyC hne hcell
 go_wp2_with fail
 go_ret2
 exact ⟨_,_,rfl,by rw [← (Uh HS1).1,cat1 (strB _)]; exact PrR.whole k1 (Uh HM).1 (Uh HY) (Uh HS1).2,Uh HC⟩
set_option maxRecDepth 100000 in
set_option maxHeartbeats 8000000 in
theorem wprint_pL (a b:Option Addr) (n c m d:Nat) (x y:List Nat) (w:World) (hx:Sl w a n c x) (hy:Sl w b m d y) (ox:Ok x) (oy:Ok y) (hm:MayR false x y = true) (hy1:m ≠ 1) :
  Calls Tryz.prog 9 #[ratV false a n c b m d] w fun e w' => PrRPost false x y w e w':=by
 have bx:=Box.made w false a n c b m d
 obtain ⟨wa,hwa⟩:∃ wa,ratBox w false a n c b m d = wa:=⟨_,rfl⟩
 rw [hwa] at bx
 have hba:Below w.heap.size w wa:=by rw [← hwa]; exact bAl
 unfold ratBox at hwa
 have p0:=bx.d0
 have p1:=bx.d1
 have p2:=bx.d2
 obtain ⟨kx,ky,ey,_,_⟩:=MayR.parts hm
 have KM:=wmay_any false a b n c m d x y wa (hx.below hba) (hy.below hba) ox oy
 rw [hm] at KM
 unfold ratV at KM ⊢
 have HKM:=Hd KM
 have HBx:=Hd bx
 have HBa:=Hd hba
 have hX:Sl w a n c (limbs (val x)):=by rw [txt_limbs ox kx]; exact hx
 have hY:Sl w b m d (limbs (val y)):=by rw [txt_limbs oy ky]; exact hy
 have hn:n ≤ 100000:=by have:=MayL.len kx; have:=hx.len; omega
 have hm2:m ≤ 100000:=by have:=MayL.len ky; have:=hy.len; omega
 have hm0:0 < m:=by
  rcases Nat.eq_zero_or_pos m with e | e
  ·exfalso; apply ey; apply List.eq_nil_of_length_eq_zero; have:=hy.len; omega
  ·exact e
 have HX:=Hd (And.intro hX (And.intro hY hy))
 have HM:=Hd (And.intro hm (And.intro kx ky))
 have HY:=Hd (show y ≠ [1] from fun e => hy1 (by have:=hy.len; rw [e] at this; simp at this; omega))
 have t1:((m:Int) != 1) = true:=by rw [bne_iff_ne]; omega
 have t2:¬ (m:Int) = 1:=by omega
 have t3:((m:Int) == 1) = false:=by simp; omega
 clear KM hx hy bx hba hm kx ky ey hX hY
 go_enter Tryz.func9,Tryz.ntmps9
 go_wp2_with fail
 refine (Uh HKM).mono ?_
 rintro _ wb ⟨rfl,hbb⟩
 have b2:=(Uh HBx).keep hbb
 have r0:=b2.d0
 have r1:=b2.d1
 have r2:=b2.d2
 have hB:=(Uh HBa).trans (hbb.mono (Uh HBa).size)
 have HKD:=Hd (wdigits_any a n c (val x) wb ((Uh HX).1.below hB) hn)
 have HB:=Hd hB
 have HB2:=Hd b2
 clear hbb HKM b2 p0 p1 p2 hB
 go_wp2_with fail
 refine (Uh HKD).mono ?_
 rintro _ wc ⟨k1,ht1,rfl,hbc⟩
 have hC:=(Uh HB).trans (hbc.mono (Uh HB).size)
 have b3:=(Uh HB2).keep hbc
 have q0:=b3.d0
 have q1:=b3.d1
 have q2:=b3.d2
 obtain ⟨S1,hS1⟩:∃ S1,strB (txtL (val x) 10 k1) = S1:=⟨_,rfl⟩
 rw [hS1]
 have HS1:=Hd (And.intro hS1 ht1)
 have l1:=txt_len ox (Uh HM).2.1 ht1
 rw [hS1] at l1
 have HC:=Hd hC
 have HB3:=Hd b3
 clear ht1 hS1 hC hbc b3 r0 r1 r2 HKD
 have KD2:=Hd (wdigits_any b m d (val y) wc ((Uh HX).2.1.below (Uh HC)) hm2)
 go_wp2_with fail
 refine (Uh KD2).mono ?_
 rintro _ wd ⟨k2,ht2,rfl,hbd⟩
 obtain ⟨S2,hS2⟩:∃ S2,strB (txtL (val y) 10 k2) = S2:=⟨_,rfl⟩
 rw [hS2]
 have HS2:=Hd (And.intro hS2 ht2)
 have l2:=txt_len oy (Uh HM).2.2 ht2
 rw [hS2] at l2
 have HD:=Hd ((Uh HC).trans (hbd.mono (Uh HC).size))
 clear ht2 hS2 hbd KD2
 go_wp2_with fail
 go_ret2
 exact ⟨_,_,rfl,by rw [← (Uh HS1).1,← (Uh HS2).1]; (first | rw [cat2] | skip); exact PrR.frac k1 k2 (Uh HM).1 (Uh HY) (Uh HS1).2 (Uh HS2).2,Uh HD⟩
set_option maxRecDepth 100000 in
set_option maxHeartbeats 8000000 in
theorem wprint_pV (a b:Option Addr) (n c m d:Nat) (x y:List Nat) (w:World) (hx:Sl w a n c x) (hy:Sl w b m d y) (ox:Ok x) (oy:Ok y) (hm:MayR false x y = true) (hy1:m = 1 ∧ y.getD 0 0 ≠ 1) :
  Calls Tryz.prog 9 #[ratV false a n c b m d] w fun e w' => PrRPost false x y w e w':=by
 have bx:=Box.made w false a n c b m d
 obtain ⟨wa,hwa⟩:∃ wa,ratBox w false a n c b m d = wa:=⟨_,rfl⟩
 rw [hwa] at bx
 have hba:Below w.heap.size w wa:=by rw [← hwa]; exact bAl
 unfold ratBox at hwa
 have p0:=bx.d0
 have p1:=bx.d1
 have p2:=bx.d2
 obtain ⟨kx,ky,ey,_,_⟩:=MayR.parts hm
 have KM:=wmay_any false a b n c m d x y wa (hx.below hba) (hy.below hba) ox oy
 rw [hm] at KM
 unfold ratV at KM ⊢
 have HKM:=Hd KM
 have HBx:=Hd bx
 have HBa:=Hd hba
 have hX:Sl w a n c (limbs (val x)):=by rw [txt_limbs ox kx]; exact hx
 have hY:Sl w b m d (limbs (val y)):=by rw [txt_limbs oy ky]; exact hy
 have hn:n ≤ 100000:=by have:=MayL.len kx; have:=hx.len; omega
 have hm2:m ≤ 100000:=by have:=MayL.len ky; have:=hy.len; omega
 have hm0:0 < m:=by
  rcases Nat.eq_zero_or_pos m with e | e
  ·exfalso; apply ey; apply List.eq_nil_of_length_eq_zero; have:=hy.len; omega
  ·exact e
 have HX:=Hd (And.intro hX (And.intro hY hy))
 have HM:=Hd (And.intro hm (And.intro kx ky))
 obtain ⟨rfl,hv⟩:=hy1
 have HY:=Hd (show y ≠ [1] from fun e => hv (by rw [e]; rfl))
 obtain ⟨Y0,hY0⟩:∃ z,y.getD 0 0 = z:=⟨_,rfl⟩
 rw [hY0] at hv
 have HY0:=Hd hY0
 have t1:((Y0:Int) != 1) = true:=by rw [bne_iff_ne]; omega
 have t2:¬ (Y0:Int) = 1:=by omega
 have t3:((Y0:Int) == 1) = false:=by simp; omega
 clear KM hx hy bx hba hm kx ky ey hX hY hY0
 go_enter Tryz.func9,Tryz.ntmps9
 go_wp2_with fail
 refine (Uh HKM).mono ?_
 rintro _ wb ⟨rfl,hbb⟩
 have b2:=(Uh HBx).keep hbb
 have r0:=b2.d0
 have r1:=b2.d1
 have r2:=b2.d2
 have hB:=(Uh HBa).trans (hbb.mono (Uh HBa).size)
 have HKD:=Hd (wdigits_any a n c (val x) wb ((Uh HX).1.below hB) hn)
 have HB:=Hd hB
 have HB2:=Hd b2
 clear hbb HKM b2 p0 p1 p2 hB
 go_wp2_with fail
 refine (Uh HKD).mono ?_
 rintro _ wc ⟨k1,ht1,rfl,hbc⟩
 have hC:=(Uh HB).trans (hbc.mono (Uh HB).size)
 have b3:=(Uh HB2).keep hbc
 have q0:=b3.d0
 have q1:=b3.d1
 have q2:=b3.d2
 obtain ⟨S1,hS1⟩:∃ S1,strB (txtL (val x) 10 k1) = S1:=⟨_,rfl⟩
 rw [hS1]
 have HS1:=Hd (And.intro hS1 ht1)
 have l1:=txt_len ox (Uh HM).2.1 ht1
 rw [hS1] at l1
 have HC:=Hd hC
 have HB3:=Hd b3
 have hyC:=(Uh HX).2.2.below hC
 have hne:y ≠ []:=by intro e; have:=hyC.len; rw [e] at this; simp at this
 obtain ⟨yb,yo,rfl,hcell⟩:=hyC.cells.resolve_left hne
 have c0:=hcell 0 (by have:=hyC.len; omega)
 rw [Nat.add_zero] at c0
 rw [Uh HY0] at c0
 clear ht1 hS1 hC hbc b3 r0 r1 r2 HKD hyC hne hcell
 have KD2:=Hd (wdigits_any (some ⟨yb,yo,none⟩) 1 d (val y) wc ((Uh HX).2.1.below (Uh HC)) (by omega))
 go_wp2_with fail
 refine (Uh KD2).mono ?_
 rintro _ wd ⟨k2,ht2,rfl,hbd⟩
 obtain ⟨S2,hS2⟩:∃ S2,strB (txtL (val y) 10 k2) = S2:=⟨_,rfl⟩
 rw [hS2]
 have HS2:=Hd (And.intro hS2 ht2)
 have l2:=txt_len oy (Uh HM).2.2 ht2
 rw [hS2] at l2
 have HD:=Hd ((Uh HC).trans (hbd.mono (Uh HC).size))
 clear ht2 hS2 hbd KD2
 go_wp2_with fail
 go_ret2
 exact ⟨_,_,rfl,by rw [← (Uh HS1).1,← (Uh HS2).1]; (first | rw [cat2] | skip); exact PrR.frac k1 k2 (Uh HM).1 (Uh HY) (Uh HS1).2 (Uh HS2).2,Uh HD⟩
set_option maxRecDepth 100000 in
set_option maxHeartbeats 8000000 in
theorem wprint_n1 (a b:Option Addr) (n c m d:Nat) (x y:List Nat) (w:World) (hx:Sl w a n c x) (hy:Sl w b m d y) (ox:Ok x) (oy:Ok y) (hm:MayR true x y = true) (hy1:y = [1]) :
  Calls Tryz.prog 9 #[ratV true a n c b m d] w fun e w' => PrRPost true x y w e w':=by
 have bx:=Box.made w true a n c b m d
 obtain ⟨wa,hwa⟩:∃ wa,ratBox w true a n c b m d = wa:=⟨_,rfl⟩
 rw [hwa] at bx
 have hba:Below w.heap.size w wa:=by rw [← hwa]; exact bAl
 unfold ratBox at hwa
 have p0:=bx.d0
 have p1:=bx.d1
 have p2:=bx.d2
 obtain ⟨kx,ky,ey,_,_⟩:=MayR.parts hm
 have KM:=wmay_any true a b n c m d x y wa (hx.below hba) (hy.below hba) ox oy
 rw [hm] at KM
 unfold ratV at KM ⊢
 have HKM:=Hd KM
 have HBx:=Hd bx
 have HBa:=Hd hba
 have hX:Sl w a n c (limbs (val x)):=by rw [txt_limbs ox kx]; exact hx
 have hY:Sl w b m d (limbs (val y)):=by rw [txt_limbs oy ky]; exact hy
 have hn:n ≤ 100000:=by have:=MayL.len kx; have:=hx.len; omega
 have hm2:m ≤ 100000:=by have:=MayL.len ky; have:=hy.len; omega
 have hm0:0 < m:=by
  rcases Nat.eq_zero_or_pos m with e | e
  ·exfalso; apply ey; apply List.eq_nil_of_length_eq_zero; have:=hy.len; omega
  ·exact e
 have HX:=Hd (And.intro hX (And.intro hY hy))
 have HM:=Hd (And.intro hm (And.intro kx ky))
 have hm1:m = 1:=by have:=hy.len; rw [hy1] at this; simp at this; omega
 subst hm1
 have HY:=Hd hy1
 clear KM hx hy bx hba hm kx ky ey hX hY hy1
 go_enter Tryz.func9,Tryz.ntmps9
 go_wp2_with fail
 refine (Uh HKM).mono ?_
 rintro _ wb ⟨rfl,hbb⟩
 have b2:=(Uh HBx).keep hbb
 have r0:=b2.d0
 have r1:=b2.d1
 have r2:=b2.d2
 have hB:=(Uh HBa).trans (hbb.mono (Uh HBa).size)
 have HKD:=Hd (wdigits_any a n c (val x) wb ((Uh HX).1.below hB) hn)
 have HB:=Hd hB
 have HB2:=Hd b2
 clear hbb HKM b2 p0 p1 p2 hB
 go_wp2_with fail
 refine (Uh HKD).mono ?_
 rintro _ wc ⟨k1,ht1,rfl,hbc⟩
 have hC:=(Uh HB).trans (hbc.mono (Uh HB).size)
 have b3:=(Uh HB2).keep hbc
 have q0:=b3.d0
 have q1:=b3.d1
 have q2:=b3.d2
 obtain ⟨S1,hS1⟩:∃ S1,strB (txtL (val x) 10 k1) = S1:=⟨_,rfl⟩
 rw [hS1]
 have HS1:=Hd (And.intro hS1 ht1)
 have l1:=txt_len ox (Uh HM).2.1 ht1
 rw [hS1] at l1
 have HC:=Hd hC
 have HB3:=Hd b3
 have hyC:=(Uh HX).2.2.below hC
 have hne:y ≠ []:=by intro e; have:=hyC.len; rw [e] at this; simp at this
 obtain ⟨yb,yo,rfl,hcell⟩:=hyC.cells.resolve_left hne
 have c0:=hcell 0 (by have:=hyC.len; omega)
 rw [Nat.add_zero] at c0
 rw [show y.getD 0 0 = 1 by rw [Uh HY]; rfl] at c0
 clear ht1 hS1 hC hbc b3 r0 r1 r2 HKD hyC hne hcell
 go_wp2_with fail
 go_ret2
 exact ⟨_,_,rfl,by rw [← (Uh HS1).1]; exact PrR.whole k1 (Uh HM).1 (Uh HY) (Uh HS1).2,Uh HC⟩
set_option maxRecDepth 100000 in
set_option maxHeartbeats 8000000 in
theorem wprint_nL (a b:Option Addr) (n c m d:Nat) (x y:List Nat) (w:World) (hx:Sl w a n c x) (hy:Sl w b m d y) (ox:Ok x) (oy:Ok y) (hm:MayR true x y = true) (hy1:m ≠ 1) :
  Calls Tryz.prog 9 #[ratV true a n c b m d] w fun e w' => PrRPost true x y w e w':=by
 have bx:=Box.made w true a n c b m d
 obtain ⟨wa,hwa⟩:∃ wa,ratBox w true a n c b m d = wa:=⟨_,rfl⟩
 rw [hwa] at bx
 have hba:Below w.heap.size w wa:=by rw [← hwa]; exact bAl
 unfold ratBox at hwa
 have p0:=bx.d0
 have p1:=bx.d1
 have p2:=bx.d2
 obtain ⟨kx,ky,ey,_,_⟩:=MayR.parts hm
 have KM:=wmay_any true a b n c m d x y wa (hx.below hba) (hy.below hba) ox oy
 rw [hm] at KM
 unfold ratV at KM ⊢
 have HKM:=Hd KM
 have HBx:=Hd bx
 have HBa:=Hd hba
 have hX:Sl w a n c (limbs (val x)):=by rw [txt_limbs ox kx]; exact hx
 have hY:Sl w b m d (limbs (val y)):=by rw [txt_limbs oy ky]; exact hy
 have hn:n ≤ 100000:=by have:=MayL.len kx; have:=hx.len; omega
 have hm2:m ≤ 100000:=by have:=MayL.len ky; have:=hy.len; omega
 have hm0:0 < m:=by
  rcases Nat.eq_zero_or_pos m with e | e
  ·exfalso; apply ey; apply List.eq_nil_of_length_eq_zero; have:=hy.len; omega
  ·exact e
 have HX:=Hd (And.intro hX (And.intro hY hy))
 have HM:=Hd (And.intro hm (And.intro kx ky))
 have HY:=Hd (show y ≠ [1] from fun e => hy1 (by have:=hy.len; rw [e] at this; simp at this; omega))
 have t1:((m:Int) != 1) = true:=by rw [bne_iff_ne]; omega
 have t2:¬ (m:Int) = 1:=by omega
 have t3:((m:Int) == 1) = false:=by simp; omega
 clear KM hx hy bx hba hm kx ky ey hX hY
 go_enter Tryz.func9,Tryz.ntmps9
 go_wp2_with fail
 refine (Uh HKM).mono ?_
 rintro _ wb ⟨rfl,hbb⟩
 have b2:=(Uh HBx).keep hbb
 have r0:=b2.d0
 have r1:=b2.d1
 have r2:=b2.d2
 have hB:=(Uh HBa).trans (hbb.mono (Uh HBa).size)
 have HKD:=Hd (wdigits_any a n c (val x) wb ((Uh HX).1.below hB) hn)
 have HB:=Hd hB
 have HB2:=Hd b2
 clear hbb HKM b2 p0 p1 p2 hB
 go_wp2_with fail
 refine (Uh HKD).mono ?_
 rintro _ wc ⟨k1,ht1,rfl,hbc⟩
 have hC:=(Uh HB).trans (hbc.mono (Uh HB).size)
 have b3:=(Uh HB2).keep hbc
 have q0:=b3.d0
 have q1:=b3.d1
 have q2:=b3.d2
 obtain ⟨S1,hS1⟩:∃ S1,strB (txtL (val x) 10 k1) = S1:=⟨_,rfl⟩
 rw [hS1]
 have HS1:=Hd (And.intro hS1 ht1)
 have l1:=txt_len ox (Uh HM).2.1 ht1
 rw [hS1] at l1
 have HC:=Hd hC
 have HB3:=Hd b3
 clear ht1 hS1 hC hbc b3 r0 r1 r2 HKD
 have KD2:=Hd (wdigits_any b m d (val y) wc ((Uh HX).2.1.below (Uh HC)) hm2)
 go_wp2_with fail
 refine (Uh KD2).mono ?_
 rintro _ wd ⟨k2,ht2,rfl,hbd⟩
 obtain ⟨S2,hS2⟩:∃ S2,strB (txtL (val y) 10 k2) = S2:=⟨_,rfl⟩
 rw [hS2]
 have HS2:=Hd (And.intro hS2 ht2)
 have l2:=txt_len oy (Uh HM).2.2 ht2
 rw [hS2] at l2
 have HD:=Hd ((Uh HC).trans (hbd.mono (Uh HC).size))
 clear ht2 hS2 hbd KD2
 go_wp2_with fail
 go_ret2
 exact ⟨_,_,rfl,by rw [← (Uh HS1).1,← (Uh HS2).1]; (first | rw [cat3] | skip); exact PrR.frac k1 k2 (Uh HM).1 (Uh HY) (Uh HS1).2 (Uh HS2).2,Uh HD⟩
set_option maxRecDepth 100000 in
set_option maxHeartbeats 8000000 in
theorem wprint_nV (a b:Option Addr) (n c m d:Nat) (x y:List Nat) (w:World) (hx:Sl w a n c x) (hy:Sl w b m d y) (ox:Ok x) (oy:Ok y) (hm:MayR true x y = true) (hy1:m = 1 ∧ y.getD 0 0 ≠ 1) :
  Calls Tryz.prog 9 #[ratV true a n c b m d] w fun e w' => PrRPost true x y w e w':=by
 have bx:=Box.made w true a n c b m d
 obtain ⟨wa,hwa⟩:∃ wa,ratBox w true a n c b m d = wa:=⟨_,rfl⟩
 rw [hwa] at bx
 have hba:Below w.heap.size w wa:=by rw [← hwa]; exact bAl
 unfold ratBox at hwa
 have p0:=bx.d0
 have p1:=bx.d1
 have p2:=bx.d2
 obtain ⟨kx,ky,ey,_,_⟩:=MayR.parts hm
 have KM:=wmay_any true a b n c m d x y wa (hx.below hba) (hy.below hba) ox oy
 rw [hm] at KM
 unfold ratV at KM ⊢
 have HKM:=Hd KM
 have HBx:=Hd bx
 have HBa:=Hd hba
 have hX:Sl w a n c (limbs (val x)):=by rw [txt_limbs ox kx]; exact hx
 have hY:Sl w b m d (limbs (val y)):=by rw [txt_limbs oy ky]; exact hy
 have hn:n ≤ 100000:=by have:=MayL.len kx; have:=hx.len; omega
 have hm2:m ≤ 100000:=by have:=MayL.len ky; have:=hy.len; omega
 have hm0:0 < m:=by
  rcases Nat.eq_zero_or_pos m with e | e
  ·exfalso; apply ey; apply List.eq_nil_of_length_eq_zero; have:=hy.len; omega
  ·exact e
 have HX:=Hd (And.intro hX (And.intro hY hy))
 have HM:=Hd (And.intro hm (And.intro kx ky))
 obtain ⟨rfl,hv⟩:=hy1
 have HY:=Hd (show y ≠ [1] from fun e => hv (by rw [e]; rfl))
 obtain ⟨Y0,hY0⟩:∃ z,y.getD 0 0 = z:=⟨_,rfl⟩
 rw [hY0] at hv
 have HY0:=Hd hY0
 have t1:((Y0:Int) != 1) = true:=by rw [bne_iff_ne]; omega
 have t2:¬ (Y0:Int) = 1:=by omega
 have t3:((Y0:Int) == 1) = false:=by simp; omega
 clear KM hx hy bx hba hm kx ky ey hX hY hY0
 go_enter Tryz.func9,Tryz.ntmps9
 go_wp2_with fail
 refine (Uh HKM).mono ?_
 rintro _ wb ⟨rfl,hbb⟩
 have b2:=(Uh HBx).keep hbb
 have r0:=b2.d0
 have r1:=b2.d1
 have r2:=b2.d2
 have hB:=(Uh HBa).trans (hbb.mono (Uh HBa).size)
 have HKD:=Hd (wdigits_any a n c (val x) wb ((Uh HX).1.below hB) hn)
 have HB:=Hd hB
 have HB2:=Hd b2
 clear hbb HKM b2 p0 p1 p2 hB
 go_wp2_with fail
 refine (Uh HKD).mono ?_
 rintro _ wc ⟨k1,ht1,rfl,hbc⟩
 have hC:=(Uh HB).trans (hbc.mono (Uh HB).size)
 have b3:=(Uh HB2).keep hbc
 have q0:=b3.d0
 have q1:=b3.d1
 have q2:=b3.d2
 obtain ⟨S1,hS1⟩:∃ S1,strB (txtL (val x) 10 k1) = S1:=⟨_,rfl⟩
 rw [hS1]
 have HS1:=Hd (And.intro hS1 ht1)
 have l1:=txt_len ox (Uh HM).2.1 ht1
 rw [hS1] at l1
 have HC:=Hd hC
 have HB3:=Hd b3
 have hyC:=(Uh HX).2.2.below hC
 have hne:y ≠ []:=by intro e; have:=hyC.len; rw [e] at this; simp at this
 obtain ⟨yb,yo,rfl,hcell⟩:=hyC.cells.resolve_left hne
 have c0:=hcell 0 (by have:=hyC.len; omega)
 rw [Nat.add_zero] at c0
 rw [Uh HY0] at c0
 clear ht1 hS1 hC hbc b3 r0 r1 r2 HKD hyC hne hcell
 have KD2:=Hd (wdigits_any (some ⟨yb,yo,none⟩) 1 d (val y) wc ((Uh HX).2.1.below (Uh HC)) (by omega))
 go_wp2_with fail
 refine (Uh KD2).mono ?_
 rintro _ wd ⟨k2,ht2,rfl,hbd⟩
 obtain ⟨S2,hS2⟩:∃ S2,strB (txtL (val y) 10 k2) = S2:=⟨_,rfl⟩
 rw [hS2]
 have HS2:=Hd (And.intro hS2 ht2)
 have l2:=txt_len oy (Uh HM).2.2 ht2
 rw [hS2] at l2
 have HD:=Hd ((Uh HC).trans (hbd.mono (Uh HC).size))
 clear ht2 hS2 hbd KD2
 go_wp2_with fail
 go_ret2
 exact ⟨_,_,rfl,by rw [← (Uh HS1).1,← (Uh HS2).1]; (first | rw [cat3] | skip); exact PrR.frac k1 k2 (Uh HM).1 (Uh HY) (Uh HS1).2 (Uh HS2).2,Uh HD⟩
set_option maxRecDepth 100000 in
set_option maxHeartbeats 8000000 in
theorem wprint_any (g:Bool) (a b:Option Addr) (n c m d:Nat) (x y:List Nat) (w:World) (hx:Sl w a n c x) (hy:Sl w b m d y) (ox:Ok x) (oy:Ok y) :
  Calls Tryz.prog 9 #[ratV g a n c b m d] w fun e w' => PrRPost g x y w e w':=by
 cases hm:MayR g x y
 ·have bx:=Box.made w g a n c b m d
  obtain ⟨wa,hwa⟩:∃ wa,ratBox w g a n c b m d = wa:=⟨_,rfl⟩
  rw [hwa] at bx
  have hba:Below w.heap.size w wa:=by rw [← hwa]; exact bAl
  unfold ratBox at hwa
  have p0:=bx.d0
  have p1:=bx.d1
  have p2:=bx.d2
  have KM:=wmay_any g a b n c m d x y wa (hx.below hba) (hy.below hba) ox oy
  rw [hm] at KM
  unfold ratV at KM ⊢
  have HKM:=Hd KM
  have HBa:=Hd hba
  have HR:=Hd (PrR.bad hm)
  clear KM hx hy bx hba hm
  go_enter Tryz.func9,Tryz.ntmps9
  go_wp2_with fail
  refine (Uh HKM).mono ?_
  rintro _ wb ⟨rfl,hbb⟩
  have HB:=Hd ((Uh HBa).trans (hbb.mono (Uh HBa).size))
  clear hbb HKM
  go_wp2_with fail
  go_ret2
  exact ⟨_,_,rfl,Uh HR,Uh HB⟩
 ·have key:y = [1] ∨ m ≠ 1 ∨ (m = 1 ∧ y.getD 0 0 ≠ 1):=by
   by_cases e:m = 1
   ·by_cases e2:y.getD 0 0 = 1
    ·left
     have hl:=hy.len
     rw [e] at hl
     match y,hl with
     | [z],_ => simp at e2; rw [e2]
    ·exact .inr (.inr ⟨e,e2⟩)
   ·exact .inr (.inl e)
  cases g
  ·rcases key with k | k | k
   ·exact wprint_p1 a b n c m d x y w hx hy ox oy hm k
   ·exact wprint_pL a b n c m d x y w hx hy ox oy hm k
   ·exact wprint_pV a b n c m d x y w hx hy ox oy hm k
  ·rcases key with k | k | k
   ·exact wprint_n1 a b n c m d x y w hx hy ox oy hm k
   ·exact wprint_nL a b n c m d x y w hx hy ox oy hm k
   ·exact wprint_nV a b n c m d x y w hx hy ox oy hm k
end Go.Proofs.YtncolonhdjkglaaGreatDoor
