/-
  sloperef3.Product, Both, Closure, refused: contracts.
-/
import Derived.Test.YtbendkndnojihabDoorBxe
import Derived.Test.YtbendkndnojihabDoorBu2
import Derived.Test.YtbendkndnojihabDoorBxd
namespace Go.Proofs.YtbendkndnojihabDoor
open Go.RowKit Go.Deep
set_option linter.unusedVariables false

set_option maxHeartbeats 4000000 in
theorem rboth_no1 (s : Int) (a : Option Addr) (n c : Nat) (L : List SetC) (w : World) (h : SlS w a n c L) (hm : MayT s L = false) :
    Calls Tryd.prog 33 #[setV s a n c] w fun r w' => ResN w w' 0 0 [] 61 r := by
  have hle := h.le
  have hcap := h.cap
  unfold maxLen at hcap
  obtain ⟨wa, hwa⟩ : ∃ x, w.alloc (.cells #[.int .i64 s, .slice a n c] 24) = x := ⟨_, rfl⟩
  obtain ⟨wb, hwb⟩ : ∃ x, wa.alloc (.cells #[.int .i64 0, .slice none 0 0] 24) = x := ⟨_, rfl⟩
  have ba : Below w.heap.size w wa := by rw [← hwa]; exact (Below.refl _ _).alloc (Nat.le_refl _) _
  have bb : Below wa.heap.size wa wb := by rw [← hwb]; exact (Below.refl _ _).alloc (Nat.le_refl _) _
  have A0 : Two wb w.heap.size (.int .i64 s) (.slice a n c) := by
    refine Two.keep (w := wa) ?_ bb
    rw [← hwa]; exact Two.made _ _ _ _
  have R0 : Two wb wa.heap.size (.int .i64 0) (.slice none 0 0) := by rw [← hwb]; exact Two.made _ _ _ _
  have hB0 := ba.trans (bb.mono ba.size)
  have K := rmayT_any s a n c L wb ((h.below ba).below bb)
  rw [hm] at K
  have la := ba.size
  have HA := hide (And.intro A0 (And.intro R0 hB0))
  have a0 := A0.c0
  have a1 := A0.c1
  unfold setV at K ⊢
  have HK := hide K
  clear hm A0 R0 h ba bb hB0 K
  go_enter Tryd.func33, Tryd.ntmps33
  go_wp2_with fail
  refine (unhide HK).mono ?_
  rintro _ wd ⟨rfl, hbd⟩
  have A1 := (unhide HA).1.keep hbd
  have R1 := (unhide HA).2.1.keep hbd
  clear a0 a1
  have b0 := A1.c0
  have b1 := A1.c1
  have r0 := R1.c0
  have r1 := R1.c1
  have f0 := R1.f0
  have f1 := R1.f1
  have T3 := R1.set (.int .i64 0) (.slice none 0 0)
  have p0 := T3.c0
  have p1 := T3.c1
  have HB := hide (two_below ((unhide HA).2.2.trans (hbd.mono (unhide HA).2.2.size)) wa.heap.size la (.int .i64 0) (.slice none 0 0))
  clear hbd A1 R1 T3 hwa hwb
  go_wp2_with fail
  refine bodyPost_ret (by simp [results, Tryd.results33, go_sem, p0, p1]; try rfl) rfl ?_
  exact resN_zero (unhide HB)

set_option maxHeartbeats 4000000 in
theorem rboth_no2 (s : Int) (a : Option Addr) (n c : Nat) (L : List SetC) (w : World) (h : SlS w a n c L) (hm : MayT s L = true) (hs : ¬ s = (n : Int)) :
    Calls Tryd.prog 33 #[setV s a n c] w fun r w' => ResN w w' 0 0 [] 60 r := by
  have hle := h.le
  have hcap := h.cap
  unfold maxLen at hcap
  obtain ⟨wa, hwa⟩ : ∃ x, w.alloc (.cells #[.int .i64 s, .slice a n c] 24) = x := ⟨_, rfl⟩
  obtain ⟨wb, hwb⟩ : ∃ x, wa.alloc (.cells #[.int .i64 0, .slice none 0 0] 24) = x := ⟨_, rfl⟩
  have ba : Below w.heap.size w wa := by rw [← hwa]; exact (Below.refl _ _).alloc (Nat.le_refl _) _
  have bb : Below wa.heap.size wa wb := by rw [← hwb]; exact (Below.refl _ _).alloc (Nat.le_refl _) _
  have A0 : Two wb w.heap.size (.int .i64 s) (.slice a n c) := by
    refine Two.keep (w := wa) ?_ bb
    rw [← hwa]; exact Two.made _ _ _ _
  have R0 : Two wb wa.heap.size (.int .i64 0) (.slice none 0 0) := by rw [← hwb]; exact Two.made _ _ _ _
  have hB0 := ba.trans (bb.mono ba.size)
  have K := rmayT_any s a n c L wb ((h.below ba).below bb)
  rw [hm] at K
  have la := ba.size
  have HA := hide (And.intro A0 (And.intro R0 hB0))
  have a0 := A0.c0
  have a1 := A0.c1
  have hs1 : (s == (n : Int)) = false := by simpa using hs
  have hs2 : decide (s = (n : Int)) = false := by simpa using hs
  clear hs
  unfold setV at K ⊢
  have HK := hide K
  clear hm A0 R0 h ba bb hB0 K
  go_enter Tryd.func33, Tryd.ntmps33
  go_wp2_with fail
  refine (unhide HK).mono ?_
  rintro _ wd ⟨rfl, hbd⟩
  have A1 := (unhide HA).1.keep hbd
  have R1 := (unhide HA).2.1.keep hbd
  clear a0 a1
  have b0 := A1.c0
  have b1 := A1.c1
  have r0 := R1.c0
  have r1 := R1.c1
  have f0 := R1.f0
  have f1 := R1.f1
  have T3 := R1.set (.int .i64 0) (.slice none 0 0)
  have p0 := T3.c0
  have p1 := T3.c1
  have HB := hide (two_below ((unhide HA).2.2.trans (hbd.mono (unhide HA).2.2.size)) wa.heap.size la (.int .i64 0) (.slice none 0 0))
  clear hbd A1 R1 T3 hwa hwb
  go_wp2_with fail
  refine bodyPost_ret (by simp [results, Tryd.results33, go_sem, p0, p1]; try rfl) rfl ?_
  exact resN_zero (unhide HB)

set_option maxHeartbeats 4000000 in
theorem rclosure_no1 (s : Int) (a : Option Addr) (n c : Nat) (L : List SetC) (w : World) (h : SlS w a n c L) (hm : MayT s L = false) :
    Calls Tryd.prog 34 #[setV s a n c] w fun r w' => ResN w w' 0 0 [] 61 r := by
  have hle := h.le
  have hcap := h.cap
  unfold maxLen at hcap
  obtain ⟨wa, hwa⟩ : ∃ x, w.alloc (.cells #[.int .i64 s, .slice a n c] 24) = x := ⟨_, rfl⟩
  obtain ⟨wb, hwb⟩ : ∃ x, wa.alloc (.cells #[.int .i64 0, .slice none 0 0] 24) = x := ⟨_, rfl⟩
  have ba : Below w.heap.size w wa := by rw [← hwa]; exact (Below.refl _ _).alloc (Nat.le_refl _) _
  have bb : Below wa.heap.size wa wb := by rw [← hwb]; exact (Below.refl _ _).alloc (Nat.le_refl _) _
  have A0 : Two wb w.heap.size (.int .i64 s) (.slice a n c) := by
    refine Two.keep (w := wa) ?_ bb
    rw [← hwa]; exact Two.made _ _ _ _
  have R0 : Two wb wa.heap.size (.int .i64 0) (.slice none 0 0) := by rw [← hwb]; exact Two.made _ _ _ _
  have hB0 := ba.trans (bb.mono ba.size)
  have K := rmayT_any s a n c L wb ((h.below ba).below bb)
  rw [hm] at K
  have la := ba.size
  have HA := hide (And.intro A0 (And.intro R0 hB0))
  have a0 := A0.c0
  have a1 := A0.c1
  unfold setV at K ⊢
  have HK := hide K
  clear hm A0 R0 h ba bb hB0 K
  go_enter Tryd.func34, Tryd.ntmps34
  go_wp2_with fail
  refine (unhide HK).mono ?_
  rintro _ wd ⟨rfl, hbd⟩
  have A1 := (unhide HA).1.keep hbd
  have R1 := (unhide HA).2.1.keep hbd
  clear a0 a1
  have b0 := A1.c0
  have b1 := A1.c1
  have r0 := R1.c0
  have r1 := R1.c1
  have f0 := R1.f0
  have f1 := R1.f1
  have T3 := R1.set (.int .i64 0) (.slice none 0 0)
  have p0 := T3.c0
  have p1 := T3.c1
  have HB := hide (two_below ((unhide HA).2.2.trans (hbd.mono (unhide HA).2.2.size)) wa.heap.size la (.int .i64 0) (.slice none 0 0))
  clear hbd A1 R1 T3 hwa hwb
  go_wp2_with fail
  refine bodyPost_ret (by simp [results, Tryd.results34, go_sem, p0, p1]; try rfl) rfl ?_
  exact resN_zero (unhide HB)

set_option maxHeartbeats 4000000 in
theorem rclosure_no2 (s : Int) (a : Option Addr) (n c : Nat) (L : List SetC) (w : World) (h : SlS w a n c L) (hm : MayT s L = true) (hs : ¬ s = (n : Int)) :
    Calls Tryd.prog 34 #[setV s a n c] w fun r w' => ResN w w' 0 0 [] 60 r := by
  have hle := h.le
  have hcap := h.cap
  unfold maxLen at hcap
  obtain ⟨wa, hwa⟩ : ∃ x, w.alloc (.cells #[.int .i64 s, .slice a n c] 24) = x := ⟨_, rfl⟩
  obtain ⟨wb, hwb⟩ : ∃ x, wa.alloc (.cells #[.int .i64 0, .slice none 0 0] 24) = x := ⟨_, rfl⟩
  have ba : Below w.heap.size w wa := by rw [← hwa]; exact (Below.refl _ _).alloc (Nat.le_refl _) _
  have bb : Below wa.heap.size wa wb := by rw [← hwb]; exact (Below.refl _ _).alloc (Nat.le_refl _) _
  have A0 : Two wb w.heap.size (.int .i64 s) (.slice a n c) := by
    refine Two.keep (w := wa) ?_ bb
    rw [← hwa]; exact Two.made _ _ _ _
  have R0 : Two wb wa.heap.size (.int .i64 0) (.slice none 0 0) := by rw [← hwb]; exact Two.made _ _ _ _
  have hB0 := ba.trans (bb.mono ba.size)
  have K := rmayT_any s a n c L wb ((h.below ba).below bb)
  rw [hm] at K
  have la := ba.size
  have HA := hide (And.intro A0 (And.intro R0 hB0))
  have a0 := A0.c0
  have a1 := A0.c1
  have hs1 : (s == (n : Int)) = false := by simpa using hs
  have hs2 : decide (s = (n : Int)) = false := by simpa using hs
  clear hs
  unfold setV at K ⊢
  have HK := hide K
  clear hm A0 R0 h ba bb hB0 K
  go_enter Tryd.func34, Tryd.ntmps34
  go_wp2_with fail
  refine (unhide HK).mono ?_
  rintro _ wd ⟨rfl, hbd⟩
  have A1 := (unhide HA).1.keep hbd
  have R1 := (unhide HA).2.1.keep hbd
  clear a0 a1
  have b0 := A1.c0
  have b1 := A1.c1
  have r0 := R1.c0
  have r1 := R1.c1
  have f0 := R1.f0
  have f1 := R1.f1
  have T3 := R1.set (.int .i64 0) (.slice none 0 0)
  have p0 := T3.c0
  have p1 := T3.c1
  have HB := hide (two_below ((unhide HA).2.2.trans (hbd.mono (unhide HA).2.2.size)) wa.heap.size la (.int .i64 0) (.slice none 0 0))
  clear hbd A1 R1 T3 hwa hwb
  go_wp2_with fail
  refine bodyPost_ret (by simp [results, Tryd.results34, go_sem, p0, p1]; try rfl) rfl ?_
  exact resN_zero (unhide HB)

set_option maxHeartbeats 4000000 in
theorem rproduct_no1 (s : Int) (a : Option Addr) (n c : Nat) (L : List SetC) (sb : Int) (a2 : Option Addr) (n2 c2 : Nat) (M : List SetC) (w : World) (h : SlS w a n c L) (h2 : SlS w a2 n2 c2 M) (hm : MayT s L = false) :
    Calls Tryd.prog 31 #[setV s a n c, setV sb a2 n2 c2] w fun r w' => r = .returned (.tuple #[setV 0 none 0 0, .int .i64 61]) ∧ Below w.heap.size w w' := by
  have hle := h.le
  have hcap := h.cap
  unfold maxLen at hcap
  have hle2 := h2.le
  have hcap2 := h2.cap
  unfold maxLen at hcap2
  obtain ⟨wa, hwa⟩ : ∃ x, w.alloc (.cells #[.int .i64 s, .slice a n c] 24) = x := ⟨_, rfl⟩
  obtain ⟨wa2, hwa2⟩ : ∃ x, wa.alloc (.cells #[.int .i64 sb, .slice a2 n2 c2] 24) = x := ⟨_, rfl⟩
  obtain ⟨wb, hwb⟩ : ∃ x, wa2.alloc (.cells #[.int .i64 0, .slice none 0 0] 24) = x := ⟨_, rfl⟩
  have ba : Below w.heap.size w wa := by rw [← hwa]; exact (Below.refl _ _).alloc (Nat.le_refl _) _
  have ba2 : Below wa.heap.size wa wa2 := by rw [← hwa2]; exact (Below.refl _ _).alloc (Nat.le_refl _) _
  have bb : Below wa2.heap.size wa2 wb := by rw [← hwb]; exact (Below.refl _ _).alloc (Nat.le_refl _) _
  have A0 : Two wb w.heap.size (.int .i64 s) (.slice a n c) := by
    refine Two.keep (w := wa2) (Two.keep (w := wa) ?_ ba2) bb
    rw [← hwa]; exact Two.made _ _ _ _
  have B0 : Two wb wa.heap.size (.int .i64 sb) (.slice a2 n2 c2) := by
    refine Two.keep (w := wa2) ?_ bb
    rw [← hwa2]; exact Two.made _ _ _ _
  have R0 : Two wb wa2.heap.size (.int .i64 0) (.slice none 0 0) := by rw [← hwb]; exact Two.made _ _ _ _
  have hB00 := ba.trans (ba2.mono ba.size)
  have hB0 := hB00.trans (bb.mono hB00.size)
  have HK := hide (rmayT_any s a n c L wb (h.below hB0))
  have la := hB00.size
  have HA := hide (And.intro A0 (And.intro B0 (And.intro R0 hB0)))
  have a0 := A0.c0
  have a1 := A0.c1
  have HSl2 := hide h2
  unfold setV at HK ⊢
  rw [hm] at HK
  clear hm A0 B0 R0 h h2 ba bb ba2 hB0 hB00
  go_enter Tryd.func31, Tryd.ntmps31
  go_wp2_with fail
  refine (unhide HK).mono ?_
  rintro _ wd ⟨rfl, hbd⟩
  have R1 := (unhide HA).2.2.1.keep hbd
  have hB1 := (unhide HA).2.2.2.trans (hbd.mono (unhide HA).2.2.2.size)
  clear a0 a1 hwa hwb hwa2
  have r0 := R1.c0
  have r1 := R1.c1
  have f0 := R1.f0
  have f1 := R1.f1
  have T3 := R1.set (.int .i64 0) (.slice none 0 0)
  have p0 := T3.c0
  have p1 := T3.c1
  have HB := hide (two_below hB1 wa2.heap.size la (.int .i64 0) (.slice none 0 0))
  clear hbd R1 T3 hB1
  go_wp2_with fail
  refine bodyPost_ret (by simp [results, Tryd.results31, go_sem, p0, p1]; try rfl) rfl ?_
  exact ⟨rfl, unhide HB⟩

set_option maxHeartbeats 4000000 in
theorem rproduct_no2 (s : Int) (a : Option Addr) (n c : Nat) (L : List SetC) (sb : Int) (a2 : Option Addr) (n2 c2 : Nat) (M : List SetC) (w : World) (h : SlS w a n c L) (h2 : SlS w a2 n2 c2 M) (hm : MayT s L = true) (hm2 : MayT sb M = false) :
    Calls Tryd.prog 31 #[setV s a n c, setV sb a2 n2 c2] w fun r w' => r = .returned (.tuple #[setV 0 none 0 0, .int .i64 61]) ∧ Below w.heap.size w w' := by
  have hle := h.le
  have hcap := h.cap
  unfold maxLen at hcap
  have hle2 := h2.le
  have hcap2 := h2.cap
  unfold maxLen at hcap2
  obtain ⟨wa, hwa⟩ : ∃ x, w.alloc (.cells #[.int .i64 s, .slice a n c] 24) = x := ⟨_, rfl⟩
  obtain ⟨wa2, hwa2⟩ : ∃ x, wa.alloc (.cells #[.int .i64 sb, .slice a2 n2 c2] 24) = x := ⟨_, rfl⟩
  obtain ⟨wb, hwb⟩ : ∃ x, wa2.alloc (.cells #[.int .i64 0, .slice none 0 0] 24) = x := ⟨_, rfl⟩
  have ba : Below w.heap.size w wa := by rw [← hwa]; exact (Below.refl _ _).alloc (Nat.le_refl _) _
  have ba2 : Below wa.heap.size wa wa2 := by rw [← hwa2]; exact (Below.refl _ _).alloc (Nat.le_refl _) _
  have bb : Below wa2.heap.size wa2 wb := by rw [← hwb]; exact (Below.refl _ _).alloc (Nat.le_refl _) _
  have A0 : Two wb w.heap.size (.int .i64 s) (.slice a n c) := by
    refine Two.keep (w := wa2) (Two.keep (w := wa) ?_ ba2) bb
    rw [← hwa]; exact Two.made _ _ _ _
  have B0 : Two wb wa.heap.size (.int .i64 sb) (.slice a2 n2 c2) := by
    refine Two.keep (w := wa2) ?_ bb
    rw [← hwa2]; exact Two.made _ _ _ _
  have R0 : Two wb wa2.heap.size (.int .i64 0) (.slice none 0 0) := by rw [← hwb]; exact Two.made _ _ _ _
  have hB00 := ba.trans (ba2.mono ba.size)
  have hB0 := hB00.trans (bb.mono hB00.size)
  have HK := hide (rmayT_any s a n c L wb (h.below hB0))
  have la := hB00.size
  have HA := hide (And.intro A0 (And.intro B0 (And.intro R0 hB0)))
  have a0 := A0.c0
  have a1 := A0.c1
  have HSl2 := hide h2
  unfold setV at HK ⊢
  rw [hm] at HK
  have HM2 := hide hm2
  clear hm hm2 A0 B0 R0 h h2 ba bb ba2 hB0 hB00
  go_enter Tryd.func31, Tryd.ntmps31
  go_wp2_with fail
  refine (unhide HK).mono ?_
  rintro _ wd ⟨rfl, hbd⟩
  have A1 := (unhide HA).1.keep hbd
  have B1 := (unhide HA).2.1.keep hbd
  have R1 := (unhide HA).2.2.1.keep hbd
  have hB1 := (unhide HA).2.2.2.trans (hbd.mono (unhide HA).2.2.2.size)
  have HK2 := hide (rmayT_any sb a2 n2 c2 M wd ((unhide HSl2).below hB1))
  rw [unhide HM2] at HK2
  unfold setV at HK2
  clear a0 a1
  have b0 := A1.c0
  have b1 := A1.c1
  have y0 := B1.c0
  have y1 := B1.c1
  have HA1 := hide (And.intro A1 (And.intro B1 (And.intro R1 hB1)))
  clear A1 B1 R1 hB1 hbd HA HK hwa hwb hwa2
  go_wp2_with fail
  refine (unhide HK2).mono ?_
  rintro _ wd2 ⟨rfl, hbd⟩
  have A1 := (unhide HA1).1.keep hbd
  have B1 := (unhide HA1).2.1.keep hbd
  have R1 := (unhide HA1).2.2.1.keep hbd
  have hB1 := (unhide HA1).2.2.2.trans (hbd.mono (unhide HA1).2.2.2.size)
  clear b0 b1 y0 y1
  clear A1 B1
  have r0 := R1.c0
  have r1 := R1.c1
  have f0 := R1.f0
  have f1 := R1.f1
  have T3 := R1.set (.int .i64 0) (.slice none 0 0)
  have p0 := T3.c0
  have p1 := T3.c1
  have HB := hide (two_below hB1 wa2.heap.size la (.int .i64 0) (.slice none 0 0))
  clear hbd R1 T3 hB1
  go_wp2_with fail
  refine bodyPost_ret (by simp [results, Tryd.results31, go_sem, p0, p1]; try rfl) rfl ?_
  exact ⟨rfl, unhide HB⟩

set_option maxHeartbeats 4000000 in
theorem rproduct_no3 (s : Int) (a : Option Addr) (n c : Nat) (L : List SetC) (sb : Int) (a2 : Option Addr) (n2 c2 : Nat) (M : List SetC) (w : World) (h : SlS w a n c L) (h2 : SlS w a2 n2 c2 M) (hm : MayT s L = true) (hm2 : MayT sb M = true) (hs : ¬ s = (n2 : Int)) :
    Calls Tryd.prog 31 #[setV s a n c, setV sb a2 n2 c2] w fun r w' => r = .returned (.tuple #[setV 0 none 0 0, .int .i64 60]) ∧ Below w.heap.size w w' := by
  have hle := h.le
  have hcap := h.cap
  unfold maxLen at hcap
  have hle2 := h2.le
  have hcap2 := h2.cap
  unfold maxLen at hcap2
  obtain ⟨wa, hwa⟩ : ∃ x, w.alloc (.cells #[.int .i64 s, .slice a n c] 24) = x := ⟨_, rfl⟩
  obtain ⟨wa2, hwa2⟩ : ∃ x, wa.alloc (.cells #[.int .i64 sb, .slice a2 n2 c2] 24) = x := ⟨_, rfl⟩
  obtain ⟨wb, hwb⟩ : ∃ x, wa2.alloc (.cells #[.int .i64 0, .slice none 0 0] 24) = x := ⟨_, rfl⟩
  have ba : Below w.heap.size w wa := by rw [← hwa]; exact (Below.refl _ _).alloc (Nat.le_refl _) _
  have ba2 : Below wa.heap.size wa wa2 := by rw [← hwa2]; exact (Below.refl _ _).alloc (Nat.le_refl _) _
  have bb : Below wa2.heap.size wa2 wb := by rw [← hwb]; exact (Below.refl _ _).alloc (Nat.le_refl _) _
  have A0 : Two wb w.heap.size (.int .i64 s) (.slice a n c) := by
    refine Two.keep (w := wa2) (Two.keep (w := wa) ?_ ba2) bb
    rw [← hwa]; exact Two.made _ _ _ _
  have B0 : Two wb wa.heap.size (.int .i64 sb) (.slice a2 n2 c2) := by
    refine Two.keep (w := wa2) ?_ bb
    rw [← hwa2]; exact Two.made _ _ _ _
  have R0 : Two wb wa2.heap.size (.int .i64 0) (.slice none 0 0) := by rw [← hwb]; exact Two.made _ _ _ _
  have hB00 := ba.trans (ba2.mono ba.size)
  have hB0 := hB00.trans (bb.mono hB00.size)
  have HK := hide (rmayT_any s a n c L wb (h.below hB0))
  have la := hB00.size
  have HA := hide (And.intro A0 (And.intro B0 (And.intro R0 hB0)))
  have a0 := A0.c0
  have a1 := A0.c1
  have HSl2 := hide h2
  unfold setV at HK ⊢
  rw [hm] at HK
  have HM2 := hide hm2
  have hs1 : (s == (n2 : Int)) = false := by simpa using hs
  have hs2 : decide (s = (n2 : Int)) = false := by simpa using hs
  clear hm hm2 A0 B0 R0 h h2 ba bb ba2 hB0 hB00 hs
  go_enter Tryd.func31, Tryd.ntmps31
  go_wp2_with fail
  refine (unhide HK).mono ?_
  rintro _ wd ⟨rfl, hbd⟩
  have A1 := (unhide HA).1.keep hbd
  have B1 := (unhide HA).2.1.keep hbd
  have R1 := (unhide HA).2.2.1.keep hbd
  have hB1 := (unhide HA).2.2.2.trans (hbd.mono (unhide HA).2.2.2.size)
  have HK2 := hide (rmayT_any sb a2 n2 c2 M wd ((unhide HSl2).below hB1))
  rw [unhide HM2] at HK2
  unfold setV at HK2
  clear a0 a1
  have b0 := A1.c0
  have b1 := A1.c1
  have y0 := B1.c0
  have y1 := B1.c1
  have HA1 := hide (And.intro A1 (And.intro B1 (And.intro R1 hB1)))
  clear A1 B1 R1 hB1 hbd HA HK hwa hwb hwa2
  go_wp2_with fail
  refine (unhide HK2).mono ?_
  rintro _ wd2 ⟨rfl, hbd⟩
  have A1 := (unhide HA1).1.keep hbd
  have B1 := (unhide HA1).2.1.keep hbd
  have R1 := (unhide HA1).2.2.1.keep hbd
  have hB1 := (unhide HA1).2.2.2.trans (hbd.mono (unhide HA1).2.2.2.size)
  clear b0 b1 y0 y1
  have b0 := A1.c0
  have b1 := A1.c1
  have y0 := B1.c0
  have y1 := B1.c1
  clear A1 B1
  have r0 := R1.c0
  have r1 := R1.c1
  have f0 := R1.f0
  have f1 := R1.f1
  have T3 := R1.set (.int .i64 0) (.slice none 0 0)
  have p0 := T3.c0
  have p1 := T3.c1
  have HB := hide (two_below hB1 wa2.heap.size la (.int .i64 0) (.slice none 0 0))
  clear hbd R1 T3 hB1
  go_wp2_with fail
  refine bodyPost_ret (by simp [results, Tryd.results31, go_sem, p0, p1]; try rfl) rfl ?_
  exact ⟨rfl, unhide HB⟩
theorem rproduct_bad (s : Int) (a : Option Addr) (n c : Nat) (L : List SetC) (sb : Int) (a2 : Option Addr) (n2 c2 : Nat) (M : List SetC) (w : World) (h : SlS w a n c L) (h2 : SlS w a2 n2 c2 M) (hno : prdE s L sb M ≠ 0) :
    Calls Tryd.prog 31 #[setV s a n c, setV sb a2 n2 c2] w fun r w' => ResN w w' 0 0 [] (prdE s L sb M) r := by
  cases hm : MayT s L
  · rw [show prdE s L sb M = 61 from by simp [prdE, hm]]
    refine (rproduct_no1 s a n c L sb a2 n2 c2 M w h h2 hm).mono ?_
    rintro _ w' ⟨rfl, hb⟩
    exact resN_zero hb
  · cases hm2 : MayT sb M
    · rw [show prdE s L sb M = 61 from by simp [prdE, hm, hm2]]
      refine (rproduct_no2 s a n c L sb a2 n2 c2 M w h h2 hm hm2).mono ?_
      rintro _ w' ⟨rfl, hb⟩
      exact resN_zero hb
    · by_cases hs : s = (n2 : Int)
      · exact absurd (by unfold prdE; rw [hm, hm2, h2.len]; simp [hs]) hno
      · rw [show prdE s L sb M = 60 from by unfold prdE; rw [hm, hm2, h2.len]; simp [hs]]
        refine (rproduct_no3 s a n c L sb a2 n2 c2 M w h h2 hm hm2 hs).mono ?_
        rintro _ w' ⟨rfl, hb⟩
        exact resN_zero hb
theorem product_bad2 (s : Int) (a : Option Addr) (n c : Nat) (L : List SetC) (sb : Int) (a2 : Option Addr) (n2 c2 : Nat) (M : List SetC) (w : World) (h : SlS w a n c L) (h2 : SlS w a2 n2 c2 M) (hno : prdE s L sb M ≠ 0) :
    Calls Tryd.prog 12 #[setV s a n c, setV sb a2 n2 c2] w fun r w' => ResN w w' 0 0 [] (prdE s L sb M) r := by
  refine (product_no s a n c L sb a2 n2 c2 M w h h2 hno).mono ?_
  rintro _ w' ⟨rfl, hb⟩
  exact resN_zero hb
theorem both_bad2 (s : Int) (a : Option Addr) (n c : Nat) (L : List SetC) (w : World) (h : SlS w a n c L) (hno : sqE s L ≠ 0) :
    Calls Tryd.prog 32 #[setV s a n c] w fun r w' => ResN w w' 0 0 [] (sqE s L) r := by
  refine (both_no s a n c L w h hno).mono ?_
  rintro _ w' ⟨rfl, hb⟩
  exact resN_zero hb
theorem rboth_bad (s : Int) (a : Option Addr) (n c : Nat) (L : List SetC) (w : World) (h : SlS w a n c L) (hno : sqE s L ≠ 0) :
    Calls Tryd.prog 33 #[setV s a n c] w fun r w' => ResN w w' 0 0 [] (sqE s L) r := by
  cases hm : MayT s L
  · rw [show sqE s L = 61 from by simp [sqE, hm]]
    exact rboth_no1 s a n c L w h hm
  · by_cases hs : s = (n : Int)
    · exact absurd (by unfold sqE; rw [hm, h.len]; simp [hs]) hno
    · have hs' : ¬ (n : Int) = s := fun e => hs e.symm
      rw [show sqE s L = 60 from by unfold sqE; rw [hm, h.len]; simp [hs']]
      exact rboth_no2 s a n c L w h hm hs
theorem rclosure_bad (s : Int) (a : Option Addr) (n c : Nat) (L : List SetC) (w : World) (h : SlS w a n c L) (hno : sqE s L ≠ 0) :
    Calls Tryd.prog 34 #[setV s a n c] w fun r w' => ResN w w' 0 0 [] (sqE s L) r := by
  cases hm : MayT s L
  · rw [show sqE s L = 61 from by simp [sqE, hm]]
    exact rclosure_no1 s a n c L w h hm
  · by_cases hs : s = (n : Int)
    · exact absurd (by unfold sqE; rw [hm, h.len]; simp [hs]) hno
    · have hs' : ¬ (n : Int) = s := fun e => hs e.symm
      rw [show sqE s L = 60 from by unfold sqE; rw [hm, h.len]; simp [hs']]
      exact rclosure_no2 s a n c L w h hm hs
end Go.Proofs.YtbendkndnojihabDoor
