/-
  bitset.May: its contract.
-/
import Derived.Test.YtbendkndnojihaaBt9
namespace Go.Proofs.Ytbendkndnojihaa
open Go.RowKit Go.Deep
set_option linter.unusedVariables false

theorem tb_ones (r j : Nat) : (2 ^ r - 1).testBit j = decide (j < r) := Nat.testBit_two_pow_sub_one r j
theorem pow_le64 {r : Nat} (h : r ≤ 64) : 2 ^ r - 1 < 18446744073709551616 := by
  have : (2:Nat) ^ r ≤ 2 ^ 64 := Nat.pow_le_pow_right (by decide) h
  have e : (2:Nat) ^ 64 = 18446744073709551616 := by decide
  have := Nat.two_pow_pos r
  omega
theorem lastB_le (n : Nat) : lastB n ≤ 64 := by unfold lastB; omega
theorem lastB_eq (n : Nat) (h : 0 < nW n) : 64 * (nW n - 1) + lastB n = n := by unfold lastB nW at *; omega
theorem top_zero {x r : Nat} (hx : x < 18446744073709551616) (hr : r ≤ 64) : (anot x (2 ^ r - 1) = 0) ↔ ∀ j, r ≤ j → j < 64 → x.testBit j = false := by
  constructor
  · intro h j h1 h2
    have := tb_anot (j := j) hx (pow_le64 hr)
    rw [h, tb_ones] at this
    simp at this
    cases hh : x.testBit j
    · rfl
    · have := this hh; omega
  · intro h
    apply Nat.eq_of_testBit_eq
    intro j
    rw [tb_anot hx (pow_le64 hr), tb_ones]
    simp
    intro h1
    by_cases hj : j < 64
    · by_cases hjr : j < r
      · exact hjr
      · rw [h j (by omega) hj] at h1; cases h1
    · rw [tb_big hx (by omega)] at h1; cases h1

theorem may_top {n : Nat} {xs : List Nat} (hok : ∀ x ∈ xs, x < 18446744073709551616) (hn : n ≤ 4096) (hl : xs.length = nW n) (h0 : 0 < nW n) : MayS n xs = ((anot (xs.getD (nW n - 1) 0) (2 ^ lastB n - 1) : Nat) == 0) := by
  have hx : xs.getD (nW n - 1) 0 < 18446744073709551616 := by
    have : xs.getD (nW n - 1) 0 = xs[nW n - 1]'(by omega) := by simp [List.getD, show nW n - 1 < xs.length from by omega]
    rw [this]; exact hok _ (List.getElem_mem _)
  have he := lastB_eq n h0
  have hlb := lastB_le n
  have key : MayS n xs = true ↔ ∀ j, lastB n ≤ j → j < 64 → (xs.getD (nW n - 1) 0).testBit j = false := by
    constructor
    · intro h j h1 h2
      have := MayS.zero h (64 * (nW n - 1) + j) (by simp; omega) (by rw [hl]; omega)
      unfold hasB at this
      rwa [show (64 * (nW n - 1) + j) / 64 = nW n - 1 from by omega, show (64 * (nW n - 1) + j) % 64 = j from by omega] at this
    · intro h
      refine MayS.mk (by simp [fitsI]; omega) (by simpa using hl) (fun x h1 h2 => ?_)
      simp at h1
      rw [hl] at h2
      have e1 : x / 64 = nW n - 1 := by omega
      unfold hasB
      rw [e1]
      exact h (x % 64) (by omega) (by omega)
  rw [Bool.eq_iff_iff, key, ← top_zero hx hlb]
  simp

set_option maxHeartbeats 2000000 in
/-- bitset.May. -/
theorem may_any (s : Int) (a : Option Addr) (n c : Nat) (xs : List Nat) (w : World) (h : SlW w a n c xs) (hok : ∀ x ∈ xs, x < 18446744073709551616) :
    Calls Try.prog 12 #[setV s a n c] w fun r w' => r = .returned (.bool (MayS s xs)) ∧ Below w.heap.size w w' := by
  have hle := h.le
  have hcap := h.cap
  unfold maxLen at hcap
  have hl := h.len
  obtain ⟨wa, hwa⟩ : ∃ wa, w.alloc (.cells #[.int .i64 s, .slice a n c] 24) = wa := ⟨_, rfl⟩
  have hb : Below w.heap.size w wa := by rw [← hwa]; exact (Below.refl _ _).alloc (Nat.le_refl _) _
  have hT : Two wa w.heap.size (.int .i64 s) (.slice a n c) := by rw [← hwa]; exact Two.made _ _ _ _
  have t0 := hT.c0
  have t1 := hT.c1
  have HB := hide hb
  have HS := hide (h.below hb)
  have HK := hide (fits_any s)
  have HOk := hide hok
  clear hT hb h hok
  unfold setV
  cases hf : fitsI s
  · have e0 : MayS s xs = false := by simp [MayS, hf]
    rw [e0]
    rw [hf] at HK
    clear hf
    go_enter Try.func12, Try.ntmps12
    go_wp2_with fail
    refine (unhide HK _).mono ?_
    rintro _ w' ⟨rfl, hw⟩
    obtain rfl := hw.symm
    go_wp2_with fail
    go_ret
    exact ⟨rfl, unhide HB⟩
  · obtain ⟨sz, rfl, hsz⟩ := fitsI_nat hf
    rw [hf] at HK
    clear hf
    have HW := hide (fun w => wordsFor_any sz w hsz)
    have HNN := hide (show (sz + 63) / 64 = nW sz from rfl)
    by_cases hne : n = nW sz
    · have HN0 := hide (fun h0 => may_top (unhide HOk) hsz (by rw [hl]; exact hne) h0)
      have hN : nW sz ≤ 64 := by unfold nW; omega
      by_cases h0 : n = 0
      · have e0 : MayS sz xs = true := MayS.mk (by simp [fitsI]; omega) (by rw [hl, hne]; simp) (fun x h1 h2 => by rw [hl] at h2; omega)
        rw [e0]
        rw [← hne] at HNN
        subst h0
        clear hne HN0
        go_enter Try.func12, Try.ntmps12
        go_wp2_with fail
        refine (unhide HK _).mono ?_
        rintro _ w' ⟨rfl, hw⟩
        obtain rfl := hw.symm
        go_wp2_with fail
        refine (unhide HW _).mono ?_
        rintro _ w' ⟨rfl, hw⟩
        obtain rfl := hw.symm
        rw [unhide HNN]
        go_wp2_with fail
        go_quiet (fail)
        go_wp2_with fail
        go_ret
        exact ⟨rfl, bel_drewN (unhide HB) _⟩
      · have hI := inside_any sz
        have e1 := unhide HN0 (by omega)
        obtain ⟨b, off, rfl, hc⟩ := (unhide HS).at (by omega)
        have hcell := hc (n - 1) (by omega)
        have hx : xs.getD (n - 1) 0 < 18446744073709551616 := by
          have : xs.getD (n - 1) 0 = xs[n - 1]'(by omega) := by simp [List.getD, show n - 1 < xs.length from by omega]
          rw [this]; exact (unhide HOk) _ (List.getElem_mem _)
        rw [← hne] at e1 HNN hN
        have hp := pow_le64 (lastB_le sz)
        have ha := u64_andNot_nat (xs.getD (n - 1) 0) (2 ^ lastB sz - 1) hx hp
        have HA := hide (show bits .andNot .u64 ((xs.getD (n - 1) 0 : Nat) : Int) ((2 ^ lastB sz - 1 : Nat) : Int) = ((anot (xs.getD (n - 1) 0) (2 ^ lastB sz - 1) : Nat) : Int) from ha)
        rw [e1]
        have HI := hide (fun w => hI w hsz)
        unfold vU at hcell
        have h1 : ((n : Int) == 0) = false := by simp; omega
        have h2 : ((n : Int) - 1).toNat = n - 1 := by omega
        have h3 : (0 : Int) ≤ (n : Int) - 1 := by omega
        have h4 : (n : Int) - 1 < (n : Int) := by omega
        generalize xs.getD (n - 1) 0 = x at *
        generalize (2 ^ lastB sz - 1) = m at *
        clear hc hI ha hne HN0 e1
        go_enter Try.func12, Try.ntmps12
        go_wp2_with fail
        refine (unhide HK _).mono ?_
        rintro _ w' ⟨rfl, hw⟩
        obtain rfl := hw.symm
        go_wp2_with fail
        refine (unhide HW _).mono ?_
        rintro _ w' ⟨rfl, hw⟩
        obtain rfl := hw.symm
        rw [unhide HNN]
        go_wp2_with fail
        go_quiet ((go_at_call 43; exact Calls.quiet_of_same (unhide HI _)))
        go_wp2_with fail
        go_ret
        refine ⟨?_, bel_drewN (unhide HB) _⟩
        show Ending.returned (.bool (bits .andNot .u64 (x : Int) (m : Int) == 0)) = _
        rw [unhide HA]
        generalize anot x m = y
        congr 2
        rw [Bool.eq_iff_iff]
        simp
    · have e0 : MayS sz xs = false := by
        simp [MayS]
        intro _ h3
        rw [hl] at h3
        exact absurd h3 hne
      rw [e0]
      have hN : nW sz ≤ 64 := by unfold nW; omega
      generalize nW sz = N at *
      have hne' : ((n : Int) == (N : Int)) = false := by simp; omega
      clear hne
      go_enter Try.func12, Try.ntmps12
      go_wp2_with fail
      refine (unhide HK _).mono ?_
      rintro _ w' ⟨rfl, hw⟩
      obtain rfl := hw.symm
      go_wp2_with fail
      refine (unhide HW _).mono ?_
      rintro _ w' ⟨rfl, hw⟩
      obtain rfl := hw.symm
      rw [unhide HNN]
      go_wp2_with fail
      go_ret
      exact ⟨rfl, unhide HB⟩
end Go.Proofs.Ytbendkndnojihaa
