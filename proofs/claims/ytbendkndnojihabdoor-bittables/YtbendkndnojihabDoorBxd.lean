/-
  bitset.Both and bitset.Product, refused: contracts.
-/
import Derived.Test.YtbendkndnojihabDoorBxr
namespace Go.Proofs.YtbendkndnojihabDoor
open Go.RowKit Go.Deep
set_option linter.unusedVariables false

set_option maxHeartbeats 4000000 in
/-- bitset.Both, refused. -/
theorem both_no (s : Int) (a : Option Addr) (n c : Nat) (L : List SetC) (w : World) (h : SlS w a n c L) (hno : sqE s L ≠ 0) :
    Calls Tryd.prog 32 #[setV s a n c] w fun r w' => r = .returned (.tuple #[setV 0 none 0 0, .int .i64 (sqE s L)]) ∧ Below w.heap.size w w' := by
  have hle := h.le
  have hcap := h.cap
  unfold maxLen at hcap
  obtain ⟨wa, hwa⟩ : ∃ x, w.alloc (.cells #[.int .i64 s, .slice a n c] 24) = x := ⟨_, rfl⟩
  obtain ⟨wb, hwb⟩ : ∃ x, wa.alloc (.cells #[.int .i64 0, .slice none 0 0] 24) = x := ⟨_, rfl⟩
  have ba : Below w.heap.size w wa := by rw [← hwa]; exact (Below.refl _ _).alloc (Nat.le_refl _) _
  have bb : Below wa.heap.size wa wb := by rw [← hwb]; exact (Below.refl _ _).alloc (Nat.le_refl _) _
  have A0 : Two wb w.heap.size (.int .i64 s) (.slice a n c) := by
    refine Two.keep (w := wa) ?_ bb
    rw [← hwa]; exact Two.made _ _ _ _
  have R0 : Two wb wa.heap.size (.int .i64 0) (.slice none 0 0) := by rw [← hwb]; exact Two.made _ _ _ _
  have hB0 := ba.trans (bb.mono ba.size)
  have K := square_any s a n c L wb ((h.below ba).below bb)
  have la := ba.size
  have HA := hide (And.intro R0 hB0)
  have a0 := A0.c0
  have a1 := A0.c1
  unfold setV at K ⊢
  have hne : (sqE s L == 0) = false := by simpa using hno
  have hd : decide (sqE s L = 0) = false := by simpa using hno
  generalize sqE s L = E at *
  have HK := hide K
  clear hno A0 R0 h ba bb hB0 K
  go_enter Tryd.func32, Tryd.ntmps32
  go_wp2_with fail
  refine (unhide HK).mono ?_
  rintro _ wd ⟨rfl, hbd⟩
  have R1 := (unhide HA).1.keep hbd
  have r0 := R1.c0
  have r1 := R1.c1
  have f0 := R1.f0
  have f1 := R1.f1
  have T3 := R1.set (.int .i64 0) (.slice none 0 0)
  have p0 := T3.c0
  have p1 := T3.c1
  have HB := hide (two_below ((unhide HA).2.trans (hbd.mono (unhide HA).2.size)) wa.heap.size la (.int .i64 0) (.slice none 0 0))
  clear hbd R1 T3 a0 a1 hwa hwb
  go_wp2_with fail
  refine bodyPost_ret (by simp [results, Tryd.results32, go_sem, p0, p1]; try rfl) rfl ?_
  exact ⟨rfl, unhide HB⟩

/-- What Product refuses. -/
def prdE (s : Int) (L : List SetC) (sb : Int) (M : List SetC) : Int := if MayT s L && MayT sb M then (if s = (M.length : Int) then 0 else 60) else 61

set_option maxHeartbeats 4000000 in
theorem product_no1 (s : Int) (a : Option Addr) (n c : Nat) (L : List SetC) (sb : Int) (a2 : Option Addr) (n2 c2 : Nat) (M : List SetC) (w : World) (h : SlS w a n c L) (h2 : SlS w a2 n2 c2 M) (hm : MayT s L = false) :
    Calls Tryd.prog 12 #[setV s a n c, setV sb a2 n2 c2] w fun r w' => r = .returned (.tuple #[setV 0 none 0 0, .int .i64 61]) ∧ Below w.heap.size w w' := by
  have hle := h.le
  have hcap := h.cap
  unfold maxLen at hcap
  have hle2 := h2.le
  have hcap2 := h2.cap
  unfold maxLen at hcap2
  obtain ⟨wa, hwa⟩ : ∃ x, w.alloc (.cells #[.int .i64 s, .slice a n c] 24) = x := ⟨_, rfl⟩
  obtain ⟨wa2, hwa2⟩ : ∃ x, wa.alloc (.cells #[.int .i64 sb, .slice a2 n2 c2] 24) = x := ⟨_, rfl⟩
  obtain ⟨wb, hwb⟩ : ∃ x, wa2.alloc (.cells #[.int .i64 0, .slice none 0 0] 24) = x := ⟨_, rfl⟩
  have ba : Below w.heap.size w wa := by rw [← hwa]; exact (Below.refl _ _).alloc (Nat.le_refl _) _
  have ba2 : Below wa.heap.size wa wa2 := by rw [← hwa2]; exact (Below.refl _ _).alloc (Nat.le_refl _) _
  have bb : Below wa2.heap.size wa2 wb := by rw [← hwb]; exact (Below.refl _ _).alloc (Nat.le_refl _) _
  have A0 : Two wb w.heap.size (.int .i64 s) (.slice a n c) := by
    refine Two.keep (w := wa2) (Two.keep (w := wa) ?_ ba2) bb
    rw [← hwa]; exact Two.made _ _ _ _
  have B0 : Two wb wa.heap.size (.int .i64 sb) (.slice a2 n2 c2) := by
    refine Two.keep (w := wa2) ?_ bb
    rw [← hwa2]; exact Two.made _ _ _ _
  have R0 : Two wb wa2.heap.size (.int .i64 0) (.slice none 0 0) := by rw [← hwb]; exact Two.made _ _ _ _
  have hB00 := ba.trans (ba2.mono ba.size)
  have hB0 := hB00.trans (bb.mono hB00.size)
  have HK := hide (mayT_any s a n c L wb (h.below hB0))
  have la := hB00.size
  have HA := hide (And.intro A0 (And.intro B0 (And.intro R0 hB0)))
  have a0 := A0.c0
  have a1 := A0.c1
  have HSl2 := hide h2
  unfold setV at HK ⊢
  rw [hm] at HK
  clear hm A0 B0 R0 h h2 ba bb ba2 hB0 hB00
  go_enter Tryd.func12, Tryd.ntmps12
  go_wp2_with fail
  refine (unhide HK).mono ?_
  rintro _ wd ⟨rfl, hbd⟩
  have R1 := (unhide HA).2.2.1.keep hbd
  have hB1 := (unhide HA).2.2.2.trans (hbd.mono (unhide HA).2.2.2.size)
  clear a0 a1 hwa hwb hwa2
  have r0 := R1.c0
  have r1 := R1.c1
  have f0 := R1.f0
  have f1 := R1.f1
  have T3 := R1.set (.int .i64 0) (.slice none 0 0)
  have p0 := T3.c0
  have p1 := T3.c1
  have HB := hide (two_below hB1 wa2.heap.size la (.int .i64 0) (.slice none 0 0))
  clear hbd R1 T3 hB1
  go_wp2_with fail
  refine bodyPost_ret (by simp [results, Tryd.results12, go_sem, p0, p1]; try rfl) rfl ?_
  exact ⟨rfl, unhide HB⟩

set_option maxHeartbeats 4000000 in
theorem product_no2 (s : Int) (a : Option Addr) (n c : Nat) (L : List SetC) (sb : Int) (a2 : Option Addr) (n2 c2 : Nat) (M : List SetC) (w : World) (h : SlS w a n c L) (h2 : SlS w a2 n2 c2 M) (hm : MayT s L = true) (hm2 : MayT sb M = false) :
    Calls Tryd.prog 12 #[setV s a n c, setV sb a2 n2 c2] w fun r w' => r = .returned (.tuple #[setV 0 none 0 0, .int .i64 61]) ∧ Below w.heap.size w w' := by
  have hle := h.le
  have hcap := h.cap
  unfold maxLen at hcap
  have hle2 := h2.le
  have hcap2 := h2.cap
  unfold maxLen at hcap2
  obtain ⟨wa, hwa⟩ : ∃ x, w.alloc (.cells #[.int .i64 s, .slice a n c] 24) = x := ⟨_, rfl⟩
  obtain ⟨wa2, hwa2⟩ : ∃ x, wa.alloc (.cells #[.int .i64 sb, .slice a2 n2 c2] 24) = x := ⟨_, rfl⟩
  obtain ⟨wb, hwb⟩ : ∃ x, wa2.alloc (.cells #[.int .i64 0, .slice none 0 0] 24) = x := ⟨_, rfl⟩
  have ba : Below w.heap.size w wa := by rw [← hwa]; exact (Below.refl _ _).alloc (Nat.le_refl _) _
  have ba2 : Below wa.heap.size wa wa2 := by rw [← hwa2]; exact (Below.refl _ _).alloc (Nat.le_refl _) _
  have bb : Below wa2.heap.size wa2 wb := by rw [← hwb]; exact (Below.refl _ _).alloc (Nat.le_refl _) _
  have A0 : Two wb w.heap.size (.int .i64 s) (.slice a n c) := by
    refine Two.keep (w := wa2) (Two.keep (w := wa) ?_ ba2) bb
    rw [← hwa]; exact Two.made _ _ _ _
  have B0 : Two wb wa.heap.size (.int .i64 sb) (.slice a2 n2 c2) := by
    refine Two.keep (w := wa2) ?_ bb
    rw [← hwa2]; exact Two.made _ _ _ _
  have R0 : Two wb wa2.heap.size (.int .i64 0) (.slice none 0 0) := by rw [← hwb]; exact Two.made _ _ _ _
  have hB00 := ba.trans (ba2.mono ba.size)
  have hB0 := hB00.trans (bb.mono hB00.size)
  have HK := hide (mayT_any s a n c L wb (h.below hB0))
  have la := hB00.size
  have HA := hide (And.intro A0 (And.intro B0 (And.intro R0 hB0)))
  have a0 := A0.c0
  have a1 := A0.c1
  have HSl2 := hide h2
  unfold setV at HK ⊢
  rw [hm] at HK
  have HM2 := hide hm2
  clear hm hm2 A0 B0 R0 h h2 ba bb ba2 hB0 hB00
  go_enter Tryd.func12, Tryd.ntmps12
  go_wp2_with fail
  refine (unhide HK).mono ?_
  rintro _ wd ⟨rfl, hbd⟩
  have A1 := (unhide HA).1.keep hbd
  have B1 := (unhide HA).2.1.keep hbd
  have R1 := (unhide HA).2.2.1.keep hbd
  have hB1 := (unhide HA).2.2.2.trans (hbd.mono (unhide HA).2.2.2.size)
  have HK2 := hide (mayT_any sb a2 n2 c2 M wd ((unhide HSl2).below hB1))
  rw [unhide HM2] at HK2
  unfold setV at HK2
  clear a0 a1
  have b0 := A1.c0
  have b1 := A1.c1
  have y0 := B1.c0
  have y1 := B1.c1
  have HA1 := hide (And.intro A1 (And.intro B1 (And.intro R1 hB1)))
  clear A1 B1 R1 hB1 hbd HA HK hwa hwb hwa2
  go_wp2_with fail
  refine (unhide HK2).mono ?_
  rintro _ wd2 ⟨rfl, hbd⟩
  have A1 := (unhide HA1).1.keep hbd
  have B1 := (unhide HA1).2.1.keep hbd
  have R1 := (unhide HA1).2.2.1.keep hbd
  have hB1 := (unhide HA1).2.2.2.trans (hbd.mono (unhide HA1).2.2.2.size)
  clear b0 b1 y0 y1
  clear A1 B1
  have r0 := R1.c0
  have r1 := R1.c1
  have f0 := R1.f0
  have f1 := R1.f1
  have T3 := R1.set (.int .i64 0) (.slice none 0 0)
  have p0 := T3.c0
  have p1 := T3.c1
  have HB := hide (two_below hB1 wa2.heap.size la (.int .i64 0) (.slice none 0 0))
  clear hbd R1 T3 hB1
  go_wp2_with fail
  refine bodyPost_ret (by simp [results, Tryd.results12, go_sem, p0, p1]; try rfl) rfl ?_
  exact ⟨rfl, unhide HB⟩

set_option maxHeartbeats 4000000 in
theorem product_no3 (s : Int) (a : Option Addr) (n c : Nat) (L : List SetC) (sb : Int) (a2 : Option Addr) (n2 c2 : Nat) (M : List SetC) (w : World) (h : SlS w a n c L) (h2 : SlS w a2 n2 c2 M) (hm : MayT s L = true) (hm2 : MayT sb M = true) (hs : ¬ s = (n2 : Int)) :
    Calls Tryd.prog 12 #[setV s a n c, setV sb a2 n2 c2] w fun r w' => r = .returned (.tuple #[setV 0 none 0 0, .int .i64 60]) ∧ Below w.heap.size w w' := by
  have hle := h.le
  have hcap := h.cap
  unfold maxLen at hcap
  have hle2 := h2.le
  have hcap2 := h2.cap
  unfold maxLen at hcap2
  obtain ⟨wa, hwa⟩ : ∃ x, w.alloc (.cells #[.int .i64 s, .slice a n c] 24) = x := ⟨_, rfl⟩
  obtain ⟨wa2, hwa2⟩ : ∃ x, wa.alloc (.cells #[.int .i64 sb, .slice a2 n2 c2] 24) = x := ⟨_, rfl⟩
  obtain ⟨wb, hwb⟩ : ∃ x, wa2.alloc (.cells #[.int .i64 0, .slice none 0 0] 24) = x := ⟨_, rfl⟩
  have ba : Below w.heap.size w wa := by rw [← hwa]; exact (Below.refl _ _).alloc (Nat.le_refl _) _
  have ba2 : Below wa.heap.size wa wa2 := by rw [← hwa2]; exact (Below.refl _ _).alloc (Nat.le_refl _) _
  have bb : Below wa2.heap.size wa2 wb := by rw [← hwb]; exact (Below.refl _ _).alloc (Nat.le_refl _) _
  have A0 : Two wb w.heap.size (.int .i64 s) (.slice a n c) := by
    refine Two.keep (w := wa2) (Two.keep (w := wa) ?_ ba2) bb
    rw [← hwa]; exact Two.made _ _ _ _
  have B0 : Two wb wa.heap.size (.int .i64 sb) (.slice a2 n2 c2) := by
    refine Two.keep (w := wa2) ?_ bb
    rw [← hwa2]; exact Two.made _ _ _ _
  have R0 : Two wb wa2.heap.size (.int .i64 0) (.slice none 0 0) := by rw [← hwb]; exact Two.made _ _ _ _
  have hB00 := ba.trans (ba2.mono ba.size)
  have hB0 := hB00.trans (bb.mono hB00.size)
  have HK := hide (mayT_any s a n c L wb (h.below hB0))
  have la := hB00.size
  have HA := hide (And.intro A0 (And.intro B0 (And.intro R0 hB0)))
  have a0 := A0.c0
  have a1 := A0.c1
  have HSl2 := hide h2
  unfold setV at HK ⊢
  rw [hm] at HK
  have HM2 := hide hm2
  have hs1 : (s == (n2 : Int)) = false := by simpa using hs
  have hs2 : decide (s = (n2 : Int)) = false := by simpa using hs
  clear hm hm2 A0 B0 R0 h h2 ba bb ba2 hB0 hB00 hs
  go_enter Tryd.func12, Tryd.ntmps12
  go_wp2_with fail
  refine (unhide HK).mono ?_
  rintro _ wd ⟨rfl, hbd⟩
  have A1 := (unhide HA).1.keep hbd
  have B1 := (unhide HA).2.1.keep hbd
  have R1 := (unhide HA).2.2.1.keep hbd
  have hB1 := (unhide HA).2.2.2.trans (hbd.mono (unhide HA).2.2.2.size)
  have HK2 := hide (mayT_any sb a2 n2 c2 M wd ((unhide HSl2).below hB1))
  rw [unhide HM2] at HK2
  unfold setV at HK2
  clear a0 a1
  have b0 := A1.c0
  have b1 := A1.c1
  have y0 := B1.c0
  have y1 := B1.c1
  have HA1 := hide (And.intro A1 (And.intro B1 (And.intro R1 hB1)))
  clear A1 B1 R1 hB1 hbd HA HK hwa hwb hwa2
  go_wp2_with fail
  refine (unhide HK2).mono ?_
  rintro _ wd2 ⟨rfl, hbd⟩
  have A1 := (unhide HA1).1.keep hbd
  have B1 := (unhide HA1).2.1.keep hbd
  have R1 := (unhide HA1).2.2.1.keep hbd
  have hB1 := (unhide HA1).2.2.2.trans (hbd.mono (unhide HA1).2.2.2.size)
  clear b0 b1 y0 y1
  have b0 := A1.c0
  have b1 := A1.c1
  have y0 := B1.c0
  have y1 := B1.c1
  clear A1 B1
  have r0 := R1.c0
  have r1 := R1.c1
  have f0 := R1.f0
  have f1 := R1.f1
  have T3 := R1.set (.int .i64 0) (.slice none 0 0)
  have p0 := T3.c0
  have p1 := T3.c1
  have HB := hide (two_below hB1 wa2.heap.size la (.int .i64 0) (.slice none 0 0))
  clear hbd R1 T3 hB1
  go_wp2_with fail
  refine bodyPost_ret (by simp [results, Tryd.results12, go_sem, p0, p1]; try rfl) rfl ?_
  exact ⟨rfl, unhide HB⟩

/-- bitset.Product, refused. -/
theorem product_no (s : Int) (a : Option Addr) (n c : Nat) (L : List SetC) (sb : Int) (a2 : Option Addr) (n2 c2 : Nat) (M : List SetC) (w : World) (h : SlS w a n c L) (h2 : SlS w a2 n2 c2 M) (hno : prdE s L sb M ≠ 0) :
    Calls Tryd.prog 12 #[setV s a n c, setV sb a2 n2 c2] w fun r w' => r = .returned (.tuple #[setV 0 none 0 0, .int .i64 (prdE s L sb M)]) ∧ Below w.heap.size w w' := by
  cases hm : MayT s L
  · rw [show prdE s L sb M = 61 from by simp [prdE, hm]]
    exact product_no1 s a n c L sb a2 n2 c2 M w h h2 hm
  · cases hm2 : MayT sb M
    · rw [show prdE s L sb M = 61 from by simp [prdE, hm, hm2]]
      exact product_no2 s a n c L sb a2 n2 c2 M w h h2 hm hm2
    · by_cases hs : s = (n2 : Int)
      · exact absurd (by unfold prdE; rw [hm, hm2, h2.len]; simp [hs]) hno
      · rw [show prdE s L sb M = 60 from by simp [prdE, hm, hm2, h2.len, hs]]
        exact product_no3 s a n c L sb a2 n2 c2 M w h h2 hm hm2 hs
end Go.Proofs.YtbendkndnojihabDoor
