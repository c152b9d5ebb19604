/- Rx4 -/
import Derived.Test.YtpicknbdfjjflaaGreatDoorRx2
import Derived.Test.YtpicknbdfjjflaaGreatDoorWrd
import Derived.Test.YtpicknbdfjjflaaGreatDoorWrc
import Derived.Test.YtpicknbdfjjflaaGreatDoorTg3
namespace Go.Proofs.YtpicknbdfjjflaaGreatDoor
open Go.RowKit Go.Deep
set_option linter.unusedVariables false
theorem txt_limbs {xs : List Nat} (ox : Ok xs) (m : MayL xs = true) : limbs (val xs) = xs := limbs_val ox (MayL.norm m)
theorem cat3 (a b c d : ByteArray) : a ++ b ++ c ++ d = a ++ (b ++ (c ++ d)) := by rw [ByteArray.append_assoc, ByteArray.append_assoc]
theorem cat2 (b c d : ByteArray) : b ++ c ++ d = ⟨#[]⟩ ++ (b ++ (c ++ d)) := by
  rw [ByteArray.append_assoc]
  exact (ByteArray.empty_append).symm
theorem cat1 (b : ByteArray) : b = ⟨#[]⟩ ++ b := (ByteArray.empty_append).symm

set_option maxRecDepth 100000 in
set_option maxHeartbeats 8000000 in
theorem wprint_p1 (a b : Option Addr) (n c m d : Nat) (x y : List Nat) (w : World) (hx : Sl w a n c x) (hy : Sl w b m d y) (ox : Ok x) (oy : Ok y) (hm : MayR false x y = true) (hy1 : y = [1]) :
    Calls Tryz.prog 76 #[ratV false a n c b m d] w fun e w' => PrRPost false x y w e w' := by
  have bx := Box.made w false a n c b m d
  obtain ⟨wa, hwa⟩ : ∃ wa, ratBox w false a n c b m d = wa := ⟨_, rfl⟩
  rw [hwa] at bx
  have hba : Below w.heap.size w wa := by rw [← hwa]; exact (Below.refl _ _).alloc (Nat.le_refl _) _
  unfold ratBox at hwa
  have p0 := bx.d0
  have p1 := bx.d1
  have p2 := bx.d2
  obtain ⟨kx, ky, ey, _, _⟩ := MayR.parts hm
  have KM := wmay_any false a b n c m d x y wa (hx.below hba) (hy.below hba) ox oy
  rw [hm] at KM
  unfold ratV at KM ⊢
  have HKM := hide KM
  have HBx := hide bx
  have HBa := hide hba
  have hX : Sl w a n c (limbs (val x)) := by rw [txt_limbs ox kx]; exact hx
  have hY : Sl w b m d (limbs (val y)) := by rw [txt_limbs oy ky]; exact hy
  have hn : n ≤ 100000 := by have := MayL.len kx; have := hx.len; omega
  have hm2 : m ≤ 100000 := by have := MayL.len ky; have := hy.len; omega
  have hm0 : 0 < m := by
    rcases Nat.eq_zero_or_pos m with e | e
    · exfalso; apply ey; apply List.eq_nil_of_length_eq_zero; have := hy.len; omega
    · exact e
  have HX := hide (And.intro hX (And.intro hY hy))
  have HM := hide (And.intro hm (And.intro kx ky))
  have hm1 : m = 1 := by have := hy.len; rw [hy1] at this; simp at this; omega
  subst hm1
  have HY := hide hy1
  clear KM hx hy bx hba hm kx ky ey hX hY hy1
  go_enter Tryz.func76, Tryz.ntmps76
  go_wp2_with fail
  refine (unhide HKM).mono ?_
  rintro _ wb ⟨rfl, hbb⟩
  have b2 := (unhide HBx).keep hbb
  have r0 := b2.d0
  have r1 := b2.d1
  have r2 := b2.d2
  have hB := (unhide HBa).trans (hbb.mono (unhide HBa).size)
  have HKD := hide (wdigits_any a n c (val x) wb ((unhide HX).1.below hB) hn)
  have HB := hide hB
  have HB2 := hide b2
  clear hbb HKM b2 p0 p1 p2 hB
  go_wp2_with fail
  refine (unhide HKD).mono ?_
  rintro _ wc ⟨k1, ht1, rfl, hbc⟩
  have hC := (unhide HB).trans (hbc.mono (unhide HB).size)
  have b3 := (unhide HB2).keep hbc
  have q0 := b3.d0
  have q1 := b3.d1
  have q2 := b3.d2
  obtain ⟨S1, hS1⟩ : ∃ S1, strB (txtL (val x) 10 k1) = S1 := ⟨_, rfl⟩
  rw [hS1]
  have HS1 := hide (And.intro hS1 ht1)
  have l1 := txt_len ox (unhide HM).2.1 ht1
  rw [hS1] at l1
  have HC := hide hC
  have HB3 := hide b3
  have hyC := (unhide HX).2.2.below hC
  have hne : y ≠ [] := by intro e; have := hyC.len; rw [e] at this; simp at this
  obtain ⟨yb, yo, rfl, hcell⟩ := hyC.cells.resolve_left hne
  have c0 := hcell 0 (by have := hyC.len; omega)
  rw [Nat.add_zero] at c0
  rw [show y.getD 0 0 = 1 by rw [unhide HY]; rfl] at c0
  clear ht1 hS1 hC hbc b3 r0 r1 r2 HKD hyC hne hcell
  go_wp2_with fail
  go_ret2
  exact ⟨_, _, rfl, by rw [← (unhide HS1).1, cat1 (strB _)]; exact PrR.whole k1 (unhide HM).1 (unhide HY) (unhide HS1).2, unhide HC⟩
set_option maxRecDepth 100000 in
set_option maxHeartbeats 8000000 in
theorem wprint_pL (a b : Option Addr) (n c m d : Nat) (x y : List Nat) (w : World) (hx : Sl w a n c x) (hy : Sl w b m d y) (ox : Ok x) (oy : Ok y) (hm : MayR false x y = true) (hy1 : m ≠ 1) :
    Calls Tryz.prog 76 #[ratV false a n c b m d] w fun e w' => PrRPost false x y w e w' := by
  have bx := Box.made w false a n c b m d
  obtain ⟨wa, hwa⟩ : ∃ wa, ratBox w false a n c b m d = wa := ⟨_, rfl⟩
  rw [hwa] at bx
  have hba : Below w.heap.size w wa := by rw [← hwa]; exact (Below.refl _ _).alloc (Nat.le_refl _) _
  unfold ratBox at hwa
  have p0 := bx.d0
  have p1 := bx.d1
  have p2 := bx.d2
  obtain ⟨kx, ky, ey, _, _⟩ := MayR.parts hm
  have KM := wmay_any false a b n c m d x y wa (hx.below hba) (hy.below hba) ox oy
  rw [hm] at KM
  unfold ratV at KM ⊢
  have HKM := hide KM
  have HBx := hide bx
  have HBa := hide hba
  have hX : Sl w a n c (limbs (val x)) := by rw [txt_limbs ox kx]; exact hx
  have hY : Sl w b m d (limbs (val y)) := by rw [txt_limbs oy ky]; exact hy
  have hn : n ≤ 100000 := by have := MayL.len kx; have := hx.len; omega
  have hm2 : m ≤ 100000 := by have := MayL.len ky; have := hy.len; omega
  have hm0 : 0 < m := by
    rcases Nat.eq_zero_or_pos m with e | e
    · exfalso; apply ey; apply List.eq_nil_of_length_eq_zero; have := hy.len; omega
    · exact e
  have HX := hide (And.intro hX (And.intro hY hy))
  have HM := hide (And.intro hm (And.intro kx ky))
  have HY := hide (show y ≠ [1] from fun e => hy1 (by have := hy.len; rw [e] at this; simp at this; omega))
  have t1 : ((m:Int) != 1) = true := by rw [bne_iff_ne]; omega
  have t2 : ¬ (m:Int) = 1 := by omega
  have t3 : ((m:Int) == 1) = false := by simp; omega
  clear KM hx hy bx hba hm kx ky ey hX hY
  go_enter Tryz.func76, Tryz.ntmps76
  go_wp2_with fail
  refine (unhide HKM).mono ?_
  rintro _ wb ⟨rfl, hbb⟩
  have b2 := (unhide HBx).keep hbb
  have r0 := b2.d0
  have r1 := b2.d1
  have r2 := b2.d2
  have hB := (unhide HBa).trans (hbb.mono (unhide HBa).size)
  have HKD := hide (wdigits_any a n c (val x) wb ((unhide HX).1.below hB) hn)
  have HB := hide hB
  have HB2 := hide b2
  clear hbb HKM b2 p0 p1 p2 hB
  go_wp2_with fail
  refine (unhide HKD).mono ?_
  rintro _ wc ⟨k1, ht1, rfl, hbc⟩
  have hC := (unhide HB).trans (hbc.mono (unhide HB).size)
  have b3 := (unhide HB2).keep hbc
  have q0 := b3.d0
  have q1 := b3.d1
  have q2 := b3.d2
  obtain ⟨S1, hS1⟩ : ∃ S1, strB (txtL (val x) 10 k1) = S1 := ⟨_, rfl⟩
  rw [hS1]
  have HS1 := hide (And.intro hS1 ht1)
  have l1 := txt_len ox (unhide HM).2.1 ht1
  rw [hS1] at l1
  have HC := hide hC
  have HB3 := hide b3
  clear ht1 hS1 hC hbc b3 r0 r1 r2 HKD
  have KD2 := hide (wdigits_any b m d (val y) wc ((unhide HX).2.1.below (unhide HC)) hm2)
  go_wp2_with fail
  refine (unhide KD2).mono ?_
  rintro _ wd ⟨k2, ht2, rfl, hbd⟩
  obtain ⟨S2, hS2⟩ : ∃ S2, strB (txtL (val y) 10 k2) = S2 := ⟨_, rfl⟩
  rw [hS2]
  have HS2 := hide (And.intro hS2 ht2)
  have l2 := txt_len oy (unhide HM).2.2 ht2
  rw [hS2] at l2
  have HD := hide ((unhide HC).trans (hbd.mono (unhide HC).size))
  clear ht2 hS2 hbd KD2
  go_wp2_with fail
  go_ret2
  exact ⟨_, _, rfl, by rw [← (unhide HS1).1, ← (unhide HS2).1]; (first | rw [cat2] | skip); exact PrR.frac k1 k2 (unhide HM).1 (unhide HY) (unhide HS1).2 (unhide HS2).2, unhide HD⟩
set_option maxRecDepth 100000 in
set_option maxHeartbeats 8000000 in
theorem wprint_pV (a b : Option Addr) (n c m d : Nat) (x y : List Nat) (w : World) (hx : Sl w a n c x) (hy : Sl w b m d y) (ox : Ok x) (oy : Ok y) (hm : MayR false x y = true) (hy1 : m = 1 ∧ y.getD 0 0 ≠ 1) :
    Calls Tryz.prog 76 #[ratV false a n c b m d] w fun e w' => PrRPost false x y w e w' := by
  have bx := Box.made w false a n c b m d
  obtain ⟨wa, hwa⟩ : ∃ wa, ratBox w false a n c b m d = wa := ⟨_, rfl⟩
  rw [hwa] at bx
  have hba : Below w.heap.size w wa := by rw [← hwa]; exact (Below.refl _ _).alloc (Nat.le_refl _) _
  unfold ratBox at hwa
  have p0 := bx.d0
  have p1 := bx.d1
  have p2 := bx.d2
  obtain ⟨kx, ky, ey, _, _⟩ := MayR.parts hm
  have KM := wmay_any false a b n c m d x y wa (hx.below hba) (hy.below hba) ox oy
  rw [hm] at KM
  unfold ratV at KM ⊢
  have HKM := hide KM
  have HBx := hide bx
  have HBa := hide hba
  have hX : Sl w a n c (limbs (val x)) := by rw [txt_limbs ox kx]; exact hx
  have hY : Sl w b m d (limbs (val y)) := by rw [txt_limbs oy ky]; exact hy
  have hn : n ≤ 100000 := by have := MayL.len kx; have := hx.len; omega
  have hm2 : m ≤ 100000 := by have := MayL.len ky; have := hy.len; omega
  have hm0 : 0 < m := by
    rcases Nat.eq_zero_or_pos m with e | e
    · exfalso; apply ey; apply List.eq_nil_of_length_eq_zero; have := hy.len; omega
    · exact e
  have HX := hide (And.intro hX (And.intro hY hy))
  have HM := hide (And.intro hm (And.intro kx ky))
  obtain ⟨rfl, hv⟩ := hy1
  have HY := hide (show y ≠ [1] from fun e => hv (by rw [e]; rfl))
  obtain ⟨Y0, hY0⟩ : ∃ z, y.getD 0 0 = z := ⟨_, rfl⟩
  rw [hY0] at hv
  have HY0 := hide hY0
  have t1 : ((Y0:Int) != 1) = true := by rw [bne_iff_ne]; omega
  have t2 : ¬ (Y0:Int) = 1 := by omega
  have t3 : ((Y0:Int) == 1) = false := by simp; omega
  clear KM hx hy bx hba hm kx ky ey hX hY hY0
  go_enter Tryz.func76, Tryz.ntmps76
  go_wp2_with fail
  refine (unhide HKM).mono ?_
  rintro _ wb ⟨rfl, hbb⟩
  have b2 := (unhide HBx).keep hbb
  have r0 := b2.d0
  have r1 := b2.d1
  have r2 := b2.d2
  have hB := (unhide HBa).trans (hbb.mono (unhide HBa).size)
  have HKD := hide (wdigits_any a n c (val x) wb ((unhide HX).1.below hB) hn)
  have HB := hide hB
  have HB2 := hide b2
  clear hbb HKM b2 p0 p1 p2 hB
  go_wp2_with fail
  refine (unhide HKD).mono ?_
  rintro _ wc ⟨k1, ht1, rfl, hbc⟩
  have hC := (unhide HB).trans (hbc.mono (unhide HB).size)
  have b3 := (unhide HB2).keep hbc
  have q0 := b3.d0
  have q1 := b3.d1
  have q2 := b3.d2
  obtain ⟨S1, hS1⟩ : ∃ S1, strB (txtL (val x) 10 k1) = S1 := ⟨_, rfl⟩
  rw [hS1]
  have HS1 := hide (And.intro hS1 ht1)
  have l1 := txt_len ox (unhide HM).2.1 ht1
  rw [hS1] at l1
  have HC := hide hC
  have HB3 := hide b3
  have hyC := (unhide HX).2.2.below hC
  have hne : y ≠ [] := by intro e; have := hyC.len; rw [e] at this; simp at this
  obtain ⟨yb, yo, rfl, hcell⟩ := hyC.cells.resolve_left hne
  have c0 := hcell 0 (by have := hyC.len; omega)
  rw [Nat.add_zero] at c0
  rw [unhide HY0] at c0
  clear ht1 hS1 hC hbc b3 r0 r1 r2 HKD hyC hne hcell
  have KD2 := hide (wdigits_any (some ⟨yb, yo, none⟩) 1 d (val y) wc ((unhide HX).2.1.below (unhide HC)) (by omega))
  go_wp2_with fail
  refine (unhide KD2).mono ?_
  rintro _ wd ⟨k2, ht2, rfl, hbd⟩
  obtain ⟨S2, hS2⟩ : ∃ S2, strB (txtL (val y) 10 k2) = S2 := ⟨_, rfl⟩
  rw [hS2]
  have HS2 := hide (And.intro hS2 ht2)
  have l2 := txt_len oy (unhide HM).2.2 ht2
  rw [hS2] at l2
  have HD := hide ((unhide HC).trans (hbd.mono (unhide HC).size))
  clear ht2 hS2 hbd KD2
  go_wp2_with fail
  go_ret2
  exact ⟨_, _, rfl, by rw [← (unhide HS1).1, ← (unhide HS2).1]; (first | rw [cat2] | skip); exact PrR.frac k1 k2 (unhide HM).1 (unhide HY) (unhide HS1).2 (unhide HS2).2, unhide HD⟩
set_option maxRecDepth 100000 in
set_option maxHeartbeats 8000000 in
theorem wprint_n1 (a b : Option Addr) (n c m d : Nat) (x y : List Nat) (w : World) (hx : Sl w a n c x) (hy : Sl w b m d y) (ox : Ok x) (oy : Ok y) (hm : MayR true x y = true) (hy1 : y = [1]) :
    Calls Tryz.prog 76 #[ratV true a n c b m d] w fun e w' => PrRPost true x y w e w' := by
  have bx := Box.made w true a n c b m d
  obtain ⟨wa, hwa⟩ : ∃ wa, ratBox w true a n c b m d = wa := ⟨_, rfl⟩
  rw [hwa] at bx
  have hba : Below w.heap.size w wa := by rw [← hwa]; exact (Below.refl _ _).alloc (Nat.le_refl _) _
  unfold ratBox at hwa
  have p0 := bx.d0
  have p1 := bx.d1
  have p2 := bx.d2
  obtain ⟨kx, ky, ey, _, _⟩ := MayR.parts hm
  have KM := wmay_any true a b n c m d x y wa (hx.below hba) (hy.below hba) ox oy
  rw [hm] at KM
  unfold ratV at KM ⊢
  have HKM := hide KM
  have HBx := hide bx
  have HBa := hide hba
  have hX : Sl w a n c (limbs (val x)) := by rw [txt_limbs ox kx]; exact hx
  have hY : Sl w b m d (limbs (val y)) := by rw [txt_limbs oy ky]; exact hy
  have hn : n ≤ 100000 := by have := MayL.len kx; have := hx.len; omega
  have hm2 : m ≤ 100000 := by have := MayL.len ky; have := hy.len; omega
  have hm0 : 0 < m := by
    rcases Nat.eq_zero_or_pos m with e | e
    · exfalso; apply ey; apply List.eq_nil_of_length_eq_zero; have := hy.len; omega
    · exact e
  have HX := hide (And.intro hX (And.intro hY hy))
  have HM := hide (And.intro hm (And.intro kx ky))
  have hm1 : m = 1 := by have := hy.len; rw [hy1] at this; simp at this; omega
  subst hm1
  have HY := hide hy1
  clear KM hx hy bx hba hm kx ky ey hX hY hy1
  go_enter Tryz.func76, Tryz.ntmps76
  go_wp2_with fail
  refine (unhide HKM).mono ?_
  rintro _ wb ⟨rfl, hbb⟩
  have b2 := (unhide HBx).keep hbb
  have r0 := b2.d0
  have r1 := b2.d1
  have r2 := b2.d2
  have hB := (unhide HBa).trans (hbb.mono (unhide HBa).size)
  have HKD := hide (wdigits_any a n c (val x) wb ((unhide HX).1.below hB) hn)
  have HB := hide hB
  have HB2 := hide b2
  clear hbb HKM b2 p0 p1 p2 hB
  go_wp2_with fail
  refine (unhide HKD).mono ?_
  rintro _ wc ⟨k1, ht1, rfl, hbc⟩
  have hC := (unhide HB).trans (hbc.mono (unhide HB).size)
  have b3 := (unhide HB2).keep hbc
  have q0 := b3.d0
  have q1 := b3.d1
  have q2 := b3.d2
  obtain ⟨S1, hS1⟩ : ∃ S1, strB (txtL (val x) 10 k1) = S1 := ⟨_, rfl⟩
  rw [hS1]
  have HS1 := hide (And.intro hS1 ht1)
  have l1 := txt_len ox (unhide HM).2.1 ht1
  rw [hS1] at l1
  have HC := hide hC
  have HB3 := hide b3
  have hyC := (unhide HX).2.2.below hC
  have hne : y ≠ [] := by intro e; have := hyC.len; rw [e] at this; simp at this
  obtain ⟨yb, yo, rfl, hcell⟩ := hyC.cells.resolve_left hne
  have c0 := hcell 0 (by have := hyC.len; omega)
  rw [Nat.add_zero] at c0
  rw [show y.getD 0 0 = 1 by rw [unhide HY]; rfl] at c0
  clear ht1 hS1 hC hbc b3 r0 r1 r2 HKD hyC hne hcell
  go_wp2_with fail
  go_ret2
  exact ⟨_, _, rfl, by rw [← (unhide HS1).1]; exact PrR.whole k1 (unhide HM).1 (unhide HY) (unhide HS1).2, unhide HC⟩
set_option maxRecDepth 100000 in
set_option maxHeartbeats 8000000 in
theorem wprint_nL (a b : Option Addr) (n c m d : Nat) (x y : List Nat) (w : World) (hx : Sl w a n c x) (hy : Sl w b m d y) (ox : Ok x) (oy : Ok y) (hm : MayR true x y = true) (hy1 : m ≠ 1) :
    Calls Tryz.prog 76 #[ratV true a n c b m d] w fun e w' => PrRPost true x y w e w' := by
  have bx := Box.made w true a n c b m d
  obtain ⟨wa, hwa⟩ : ∃ wa, ratBox w true a n c b m d = wa := ⟨_, rfl⟩
  rw [hwa] at bx
  have hba : Below w.heap.size w wa := by rw [← hwa]; exact (Below.refl _ _).alloc (Nat.le_refl _) _
  unfold ratBox at hwa
  have p0 := bx.d0
  have p1 := bx.d1
  have p2 := bx.d2
  obtain ⟨kx, ky, ey, _, _⟩ := MayR.parts hm
  have KM := wmay_any true a b n c m d x y wa (hx.below hba) (hy.below hba) ox oy
  rw [hm] at KM
  unfold ratV at KM ⊢
  have HKM := hide KM
  have HBx := hide bx
  have HBa := hide hba
  have hX : Sl w a n c (limbs (val x)) := by rw [txt_limbs ox kx]; exact hx
  have hY : Sl w b m d (limbs (val y)) := by rw [txt_limbs oy ky]; exact hy
  have hn : n ≤ 100000 := by have := MayL.len kx; have := hx.len; omega
  have hm2 : m ≤ 100000 := by have := MayL.len ky; have := hy.len; omega
  have hm0 : 0 < m := by
    rcases Nat.eq_zero_or_pos m with e | e
    · exfalso; apply ey; apply List.eq_nil_of_length_eq_zero; have := hy.len; omega
    · exact e
  have HX := hide (And.intro hX (And.intro hY hy))
  have HM := hide (And.intro hm (And.intro kx ky))
  have HY := hide (show y ≠ [1] from fun e => hy1 (by have := hy.len; rw [e] at this; simp at this; omega))
  have t1 : ((m:Int) != 1) = true := by rw [bne_iff_ne]; omega
  have t2 : ¬ (m:Int) = 1 := by omega
  have t3 : ((m:Int) == 1) = false := by simp; omega
  clear KM hx hy bx hba hm kx ky ey hX hY
  go_enter Tryz.func76, Tryz.ntmps76
  go_wp2_with fail
  refine (unhide HKM).mono ?_
  rintro _ wb ⟨rfl, hbb⟩
  have b2 := (unhide HBx).keep hbb
  have r0 := b2.d0
  have r1 := b2.d1
  have r2 := b2.d2
  have hB := (unhide HBa).trans (hbb.mono (unhide HBa).size)
  have HKD := hide (wdigits_any a n c (val x) wb ((unhide HX).1.below hB) hn)
  have HB := hide hB
  have HB2 := hide b2
  clear hbb HKM b2 p0 p1 p2 hB
  go_wp2_with fail
  refine (unhide HKD).mono ?_
  rintro _ wc ⟨k1, ht1, rfl, hbc⟩
  have hC := (unhide HB).trans (hbc.mono (unhide HB).size)
  have b3 := (unhide HB2).keep hbc
  have q0 := b3.d0
  have q1 := b3.d1
  have q2 := b3.d2
  obtain ⟨S1, hS1⟩ : ∃ S1, strB (txtL (val x) 10 k1) = S1 := ⟨_, rfl⟩
  rw [hS1]
  have HS1 := hide (And.intro hS1 ht1)
  have l1 := txt_len ox (unhide HM).2.1 ht1
  rw [hS1] at l1
  have HC := hide hC
  have HB3 := hide b3
  clear ht1 hS1 hC hbc b3 r0 r1 r2 HKD
  have KD2 := hide (wdigits_any b m d (val y) wc ((unhide HX).2.1.below (unhide HC)) hm2)
  go_wp2_with fail
  refine (unhide KD2).mono ?_
  rintro _ wd ⟨k2, ht2, rfl, hbd⟩
  obtain ⟨S2, hS2⟩ : ∃ S2, strB (txtL (val y) 10 k2) = S2 := ⟨_, rfl⟩
  rw [hS2]
  have HS2 := hide (And.intro hS2 ht2)
  have l2 := txt_len oy (unhide HM).2.2 ht2
  rw [hS2] at l2
  have HD := hide ((unhide HC).trans (hbd.mono (unhide HC).size))
  clear ht2 hS2 hbd KD2
  go_wp2_with fail
  go_ret2
  exact ⟨_, _, rfl, by rw [← (unhide HS1).1, ← (unhide HS2).1]; (first | rw [cat3] | skip); exact PrR.frac k1 k2 (unhide HM).1 (unhide HY) (unhide HS1).2 (unhide HS2).2, unhide HD⟩
set_option maxRecDepth 100000 in
set_option maxHeartbeats 8000000 in
theorem wprint_nV (a b : Option Addr) (n c m d : Nat) (x y : List Nat) (w : World) (hx : Sl w a n c x) (hy : Sl w b m d y) (ox : Ok x) (oy : Ok y) (hm : MayR true x y = true) (hy1 : m = 1 ∧ y.getD 0 0 ≠ 1) :
    Calls Tryz.prog 76 #[ratV true a n c b m d] w fun e w' => PrRPost true x y w e w' := by
  have bx := Box.made w true a n c b m d
  obtain ⟨wa, hwa⟩ : ∃ wa, ratBox w true a n c b m d = wa := ⟨_, rfl⟩
  rw [hwa] at bx
  have hba : Below w.heap.size w wa := by rw [← hwa]; exact (Below.refl _ _).alloc (Nat.le_refl _) _
  unfold ratBox at hwa
  have p0 := bx.d0
  have p1 := bx.d1
  have p2 := bx.d2
  obtain ⟨kx, ky, ey, _, _⟩ := MayR.parts hm
  have KM := wmay_any true a b n c m d x y wa (hx.below hba) (hy.below hba) ox oy
  rw [hm] at KM
  unfold ratV at KM ⊢
  have HKM := hide KM
  have HBx := hide bx
  have HBa := hide hba
  have hX : Sl w a n c (limbs (val x)) := by rw [txt_limbs ox kx]; exact hx
  have hY : Sl w b m d (limbs (val y)) := by rw [txt_limbs oy ky]; exact hy
  have hn : n ≤ 100000 := by have := MayL.len kx; have := hx.len; omega
  have hm2 : m ≤ 100000 := by have := MayL.len ky; have := hy.len; omega
  have hm0 : 0 < m := by
    rcases Nat.eq_zero_or_pos m with e | e
    · exfalso; apply ey; apply List.eq_nil_of_length_eq_zero; have := hy.len; omega
    · exact e
  have HX := hide (And.intro hX (And.intro hY hy))
  have HM := hide (And.intro hm (And.intro kx ky))
  obtain ⟨rfl, hv⟩ := hy1
  have HY := hide (show y ≠ [1] from fun e => hv (by rw [e]; rfl))
  obtain ⟨Y0, hY0⟩ : ∃ z, y.getD 0 0 = z := ⟨_, rfl⟩
  rw [hY0] at hv
  have HY0 := hide hY0
  have t1 : ((Y0:Int) != 1) = true := by rw [bne_iff_ne]; omega
  have t2 : ¬ (Y0:Int) = 1 := by omega
  have t3 : ((Y0:Int) == 1) = false := by simp; omega
  clear KM hx hy bx hba hm kx ky ey hX hY hY0
  go_enter Tryz.func76, Tryz.ntmps76
  go_wp2_with fail
  refine (unhide HKM).mono ?_
  rintro _ wb ⟨rfl, hbb⟩
  have b2 := (unhide HBx).keep hbb
  have r0 := b2.d0
  have r1 := b2.d1
  have r2 := b2.d2
  have hB := (unhide HBa).trans (hbb.mono (unhide HBa).size)
  have HKD := hide (wdigits_any a n c (val x) wb ((unhide HX).1.below hB) hn)
  have HB := hide hB
  have HB2 := hide b2
  clear hbb HKM b2 p0 p1 p2 hB
  go_wp2_with fail
  refine (unhide HKD).mono ?_
  rintro _ wc ⟨k1, ht1, rfl, hbc⟩
  have hC := (unhide HB).trans (hbc.mono (unhide HB).size)
  have b3 := (unhide HB2).keep hbc
  have q0 := b3.d0
  have q1 := b3.d1
  have q2 := b3.d2
  obtain ⟨S1, hS1⟩ : ∃ S1, strB (txtL (val x) 10 k1) = S1 := ⟨_, rfl⟩
  rw [hS1]
  have HS1 := hide (And.intro hS1 ht1)
  have l1 := txt_len ox (unhide HM).2.1 ht1
  rw [hS1] at l1
  have HC := hide hC
  have HB3 := hide b3
  have hyC := (unhide HX).2.2.below hC
  have hne : y ≠ [] := by intro e; have := hyC.len; rw [e] at this; simp at this
  obtain ⟨yb, yo, rfl, hcell⟩ := hyC.cells.resolve_left hne
  have c0 := hcell 0 (by have := hyC.len; omega)
  rw [Nat.add_zero] at c0
  rw [unhide HY0] at c0
  clear ht1 hS1 hC hbc b3 r0 r1 r2 HKD hyC hne hcell
  have KD2 := hide (wdigits_any (some ⟨yb, yo, none⟩) 1 d (val y) wc ((unhide HX).2.1.below (unhide HC)) (by omega))
  go_wp2_with fail
  refine (unhide KD2).mono ?_
  rintro _ wd ⟨k2, ht2, rfl, hbd⟩
  obtain ⟨S2, hS2⟩ : ∃ S2, strB (txtL (val y) 10 k2) = S2 := ⟨_, rfl⟩
  rw [hS2]
  have HS2 := hide (And.intro hS2 ht2)
  have l2 := txt_len oy (unhide HM).2.2 ht2
  rw [hS2] at l2
  have HD := hide ((unhide HC).trans (hbd.mono (unhide HC).size))
  clear ht2 hS2 hbd KD2
  go_wp2_with fail
  go_ret2
  exact ⟨_, _, rfl, by rw [← (unhide HS1).1, ← (unhide HS2).1]; (first | rw [cat3] | skip); exact PrR.frac k1 k2 (unhide HM).1 (unhide HY) (unhide HS1).2 (unhide HS2).2, unhide HD⟩
set_option maxRecDepth 100000 in
set_option maxHeartbeats 8000000 in
theorem wprint_any (g : Bool) (a b : Option Addr) (n c m d : Nat) (x y : List Nat) (w : World) (hx : Sl w a n c x) (hy : Sl w b m d y) (ox : Ok x) (oy : Ok y) :
    Calls Tryz.prog 76 #[ratV g a n c b m d] w fun e w' => PrRPost g x y w e w' := by
  cases hm : MayR g x y
  · have bx := Box.made w g a n c b m d
    obtain ⟨wa, hwa⟩ : ∃ wa, ratBox w g a n c b m d = wa := ⟨_, rfl⟩
    rw [hwa] at bx
    have hba : Below w.heap.size w wa := by rw [← hwa]; exact (Below.refl _ _).alloc (Nat.le_refl _) _
    unfold ratBox at hwa
    have p0 := bx.d0
    have p1 := bx.d1
    have p2 := bx.d2
    have KM := wmay_any g a b n c m d x y wa (hx.below hba) (hy.below hba) ox oy
    rw [hm] at KM
    unfold ratV at KM ⊢
    have HKM := hide KM
    have HBa := hide hba
    have HR := hide (PrR.bad hm)
    clear KM hx hy bx hba hm
    go_enter Tryz.func76, Tryz.ntmps76
    go_wp2_with fail
    refine (unhide HKM).mono ?_
    rintro _ wb ⟨rfl, hbb⟩
    have HB := hide ((unhide HBa).trans (hbb.mono (unhide HBa).size))
    clear hbb HKM
    go_wp2_with fail
    go_ret2
    exact ⟨_, _, rfl, unhide HR, unhide HB⟩
  · have key : y = [1] ∨ m ≠ 1 ∨ (m = 1 ∧ y.getD 0 0 ≠ 1) := by
      by_cases e : m = 1
      · by_cases e2 : y.getD 0 0 = 1
        · left
          have hl := hy.len
          rw [e] at hl
          match y, hl with
          | [z], _ => simp at e2; rw [e2]
        · exact .inr (.inr ⟨e, e2⟩)
      · exact .inr (.inl e)
    cases g
    · rcases key with k | k | k
      · exact wprint_p1 a b n c m d x y w hx hy ox oy hm k
      · exact wprint_pL a b n c m d x y w hx hy ox oy hm k
      · exact wprint_pV a b n c m d x y w hx hy ox oy hm k
    · rcases key with k | k | k
      · exact wprint_n1 a b n c m d x y w hx hy ox oy hm k
      · exact wprint_nL a b n c m d x y w hx hy ox oy hm k
      · exact wprint_nV a b n c m d x y w hx hy ox oy hm k
def bl (x : ByteArray) : List UInt8 := x.data.toList
theorem bl_app (x y : ByteArray) : bl (x ++ y) = bl x ++ bl y := by
  unfold bl
  rw [ByteArray.data_append, Array.toList_append]
theorem bl_inj {x y : ByteArray} (h : bl x = bl y) : x = y := by
  unfold bl at h
  cases x
  cases y
  simp only [ByteArray.mk.injEq]
  exact Array.toList_inj.1 h
theorem bl_len (x : ByteArray) : (bl x).length = x.size := by
  unfold bl
  rw [Array.length_toList]
  rfl
theorem prR_uniq {g : Bool} {x y : List Nat} {s t : ByteArray} {e f : Int} (h : PrR g x y s e) (k : PrR g x y t f) : s = t ∧ e = f := by
  cases h with
  | bad h =>
    cases k with
    | bad => exact ⟨rfl, rfl⟩
    | whole n k => rw [h] at k; cases k
    | frac n m k => rw [h] at k; cases k
  | whole n h hy ht =>
    cases k with
    | bad k => rw [h] at k; cases k
    | whole n' k hy' ht' =>
      rw [ht.uniq (by decide) ht']
      exact ⟨rfl, rfl⟩
    | frac n' m' k hy' => exact absurd hy hy'
  | frac n m h hy ht hm =>
    cases k with
    | bad k => rw [h] at k; cases k
    | whole n' k hy' => exact absurd hy' hy
    | frac n' m' k hy' ht' hm' =>
      rw [ht.uniq (by decide) ht', hm.uniq (by decide) hm']
      exact ⟨rfl, rfl⟩
open Classical in
noncomputable def prTf (g : Bool) (x y : List Nat) : ByteArray := if h : ∃ s, ∃ e, PrR g x y s e then Classical.choose h else ⟨#[]⟩
noncomputable def prT (p : Nq) : ByteArray := prTf p.g p.x p.y
theorem prT_of {p : Nq} {s : ByteArray} {e : Int} (h : PrR p.g p.x p.y s e) : s = prT p := by
  unfold prT prTf
  have hx : ∃ s, ∃ e, PrR p.g p.x p.y s e := ⟨s, e, h⟩
  rw [dif_pos hx]
  obtain ⟨e', h'⟩ := Classical.choose_spec hx
  exact (prR_uniq h h').1
theorem prR_size {g : Bool} {x y : List Nat} {s : ByteArray} {e : Int} (h : PrR g x y s e) (ox : Ok x) (oy : Ok y) : s.size ≤ 200000 := by
  have hm := mnB_size g
  cases h with
  | bad => simp [ByteArray.size]
  | whole n h hy ht =>
    obtain ⟨kx, ky, _, _, _⟩ := MayR.parts h
    have := txt_len ox kx ht
    rw [ByteArray.size_append]
    omega
  | frac n m h hy ht hm2 =>
    obtain ⟨kx, ky, _, _, _⟩ := MayR.parts h
    have h1 := txt_len ox kx ht
    have h2 := txt_len oy ky hm2
    rw [ByteArray.size_append, ByteArray.size_append, ByteArray.size_append]
    have : (⟨#[47]⟩ : ByteArray).size = 1 := rfl
    omega
theorem prT_size {p : Nq} (ox : Ok p.x) (oy : Ok p.y) : (prT p).size ≤ 200000 := by
  unfold prT prTf
  split
  · rename_i h
    obtain ⟨e, h'⟩ := Classical.choose_spec h
    exact prR_size h' ox oy
  · simp [ByteArray.size]
theorem prT_con {o q : On} (h : conO o = conO q) : prT o.p = prT q.p := by
  unfold conO conQ at h
  simp only [Prod.mk.injEq] at h
  obtain ⟨_, h1, h2, h3⟩ := h
  unfold prT
  rw [h1, h2, h3]
theorem prOf_t {w : World} {p : Nq} (h : NqL w p) (hT : Tab64 w) : PrOf w p (prT p) := by
  intro W hb
  have K := ratPrint_any p.g p.a p.b p.n p.c p.m p.d p.x p.y W (h.x.below hb) (h.y.below hb) h.ox h.oy (hT.below hb)
  unfold ratV at K
  by_cases hx : ∃ er, PrR p.g p.x p.y (prT p) er
  · obtain ⟨er, he⟩ := hx
    refine ⟨er, K.mono ?_⟩
    rintro e w' ⟨s, er', rfl, hP, hb'⟩
    obtain ⟨rfl, rfl⟩ := prR_uniq hP he
    exact ⟨rfl, hb'⟩
  · refine ⟨0, K.mono ?_⟩
    rintro e w' ⟨s, er', rfl, hP, hb'⟩
    exact absurd ⟨er', by rw [← prT_of hP]; exact hP⟩ hx
def PrOw (w : World) (p : Nq) (PT : ByteArray) : Prop := ∀ W, Below w.heap.size w W → ∃ er, Calls Tryz.prog 76 #[.agg #[.bool p.g, .slice p.a p.n p.c, .slice p.b p.m p.d]] W fun e w' => e = .returned (.tuple #[.string PT, .int .i64 er]) ∧ Below W.heap.size W w'
theorem prOw_t {w : World} {p : Nq} (h : NqL w p) : PrOw w p (prT p) := by
  intro W hb
  have K := wprint_any p.g p.a p.b p.n p.c p.m p.d p.x p.y W (h.x.below hb) (h.y.below hb) h.ox h.oy
  unfold ratV at K
  by_cases hx : ∃ er, PrR p.g p.x p.y (prT p) er
  · obtain ⟨er, he⟩ := hx
    refine ⟨er, K.mono ?_⟩
    rintro e w' ⟨s, er', rfl, hP, hb'⟩
    obtain ⟨rfl, rfl⟩ := prR_uniq hP he
    exact ⟨rfl, hb'⟩
  · refine ⟨0, K.mono ?_⟩
    rintro e w' ⟨s, er', rfl, hP, hb'⟩
    exact absurd ⟨er', by rw [← prT_of hP]; exact hP⟩ hx
end Go.Proofs.YtpicknbdfjjflaaGreatDoor
