/-
  THE NUMBERS OF A SET IN A ROW; ranks, plain.
-/
import Derived.Test.YtbendkndnojihabDoorBz1
import Derived.Test.YtbendkndnojihabDoorBk5
import Derived.Test.YtbendkndnojihabDoorBz2
namespace Go.Proofs.YtbendkndnojihabDoor
open Go.RowKit Go.Deep
set_option linter.unusedVariables false

theorem elsL_at (P : Nat → Bool) : ∀ (n i : Nat), i < cntB P n → ∃ x : Nat, x < n ∧ P x = true ∧ cntB P x = i ∧ (elsL P n).getD i 0 = (x : Int)
  | 0, i, h => by simp [cntB] at h
  | n + 1, i, h => by
    by_cases k : i < cntB P n
    · obtain ⟨x, h1, h2, h3, h4⟩ := elsL_at P n i k
      refine ⟨x, by omega, h2, h3, ?_⟩
      have hl : i < (elsL P n).length := by rw [elsL_len]; exact k
      rw [← h4]
      simp only [elsL]
      simp only [List.getD]
      rw [List.getElem?_append_left hl]
    · simp only [cntB] at h
      have hp : P n = true := by
        cases hp : P n
        · rw [hp] at h; simp at h; omega
        · rfl
      rw [hp] at h
      simp at h
      have e : i = cntB P n := by omega
      refine ⟨n, by omega, hp, e.symm, ?_⟩
      simp only [elsL, hp, if_true, List.getD]
      rw [List.getElem?_append_right (by rw [elsL_len]; omega), elsL_len, e]
      simp
/-- How many of the first n are below e. -/
def rkN (P : Nat → Bool) (n : Nat) (e : Int) : Nat := cntB P (min e.toNat n)
theorem rkN_le (P : Nat → Bool) (n : Nat) (e : Int) : rkN P n e ≤ cntB P n := cntB_mup2 P (Nat.min_le_right _ _)
theorem rkN_lt (P : Nat → Bool) {n x : Nat} {e : Int} (hx : x < n) (hp : P x = true) : cntB P x < rkN P n e ↔ (x : Int) < e := by
  unfold rkN
  constructor
  · intro h
    rcases (show (x : Int) < e ∨ e ≤ (x : Int) by omega) with k | k
    · exact k
    · have := cntB_mup2 P (show min e.toNat n ≤ x by omega)
      omega
  · intro h
    exact cntB_lt P (by omega) hp
theorem rk_at (P : Nat → Bool) {n i : Nat} {e : Int} (h : i < cntB P n) : ((elsL P n).getD i 0 < e) ↔ i < rkN P n e := by
  obtain ⟨x, h1, h2, h3, h4⟩ := elsL_at P n i h
  rw [h4, ← rkN_lt P h1 h2, h3]
def rankR (s : Int) (xs : List Nat) (e : Int) : Nat := if MayS s xs then rkN (hasB (gW xs)) s.toNat e else 0
def selR (s : Int) (xs : List Nat) (k : Int) : Int := if MayS s xs && decide (0 ≤ k) then firstX (fun x => hasB (gW xs) x && (cntB (hasB (gW xs)) x == k.toNat)) s.toNat else -1
def nextR (s : Int) (xs : List Nat) (e : Int) : Int := if MayS s xs then firstX (fun x => hasB (gW xs) x && decide (e ≤ (x : Int))) s.toNat else -1
def lastR (s : Int) (xs : List Nat) (e : Int) : Int := if MayS s xs then lastX (fun x => hasB (gW xs) x && decide ((x : Int) ≤ e)) s.toNat else -1
def hasR (s : Int) (xs : List Nat) (e : Int) : Bool := MayS s xs && decide (0 ≤ e) && decide (e < s) && hasB (gW xs) e.toNat

theorem sel_at (P : Nat → Bool) {n k x : Nat} (hx : x < n) (hp : P x = true) (hc : cntB P x = k) : firstX (fun x => P x && (cntB P x == k)) n = (x : Int) := by
  refine firstX_at (by simp [hp, hc]) (fun y hy => ?_) hx
  cases h : P y
  · rfl
  · have := cntB_lt P hy h
    simp
    omega
theorem sel_none (P : Nat → Bool) {n k : Nat} (h : cntB P n ≤ k) : firstX (fun x => P x && (cntB P x == k)) n = -1 := by
  refine firstX_none (fun x hx => ?_)
  cases hp : P x
  · rfl
  · have := cntB_lt P hx hp
    simp
    omega
theorem sel_els (P : Nat → Bool) {n k : Nat} (h : k < cntB P n) : firstX (fun x => P x && (cntB P x == k)) n = (elsL P n).getD k 0 := by
  obtain ⟨x, h1, h2, h3, h4⟩ := elsL_at P n k h
  rw [h4, sel_at P h1 h2 h3]
theorem next_els (P : Nat → Bool) {n : Nat} {e : Int} : firstX (fun x => P x && decide (e ≤ (x : Int))) n = if rkN P n e < cntB P n then (elsL P n).getD (rkN P n e) 0 else -1 := by
  split
  · rename_i h
    obtain ⟨x, h1, h2, h3, h4⟩ := elsL_at P n _ h
    rw [h4]
    have hge : e ≤ (x : Int) := by
      have := (rkN_lt P (e := e) h1 h2)
      rw [h3] at this
      omega
    refine firstX_at (by simp [h2, hge]) (fun y hy => ?_) h1
    cases hp : P y
    · rfl
    · have a := cntB_lt P hy hp
      have b := (rkN_lt P (e := e) (show y < n by omega) hp).1 (by omega)
      simp
      omega
  · rename_i h
    refine firstX_none (fun x hx => ?_)
    cases hp : P x
    · rfl
    · have a := cntB_lt P hx hp
      have b := (rkN_lt P (e := e) hx hp).1 (by have := rkN_le P n e; omega)
      simp
      omega
theorem last_els (P : Nat → Bool) {n : Nat} {e : Int} : lastX (fun x => P x && decide ((x : Int) ≤ e)) n = if 0 < rkN P n (e + 1) then (elsL P n).getD (rkN P n (e + 1) - 1) 0 else -1 := by
  have hle := rkN_le P n (e + 1)
  split
  · rename_i h
    obtain ⟨x, h1, h2, h3, h4⟩ := elsL_at P n (rkN P n (e + 1) - 1) (by omega)
    rw [h4]
    have hlt := (rkN_lt P (e := e + 1) h1 h2).1 (by omega)
    refine lastX_at (by simp [h2]; omega) h1 (fun y hy hyn => ?_)
    cases hp : P y
    · rfl
    · have a := cntB_lt P hy h2
      have b := (rkN_lt P (e := e + 1) hyn hp)
      simp
      omega
  · rename_i h
    refine lastX_none (fun x hx => ?_)
    cases hp : P x
    · rfl
    · have b := (rkN_lt P (e := e + 1) hx hp)
      simp
      omega
end Go.Proofs.YtbendkndnojihabDoor

namespace Go.Proofs.YtbendkndnojihabDoor
open Go.RowKit Go.Deep
set_option linter.unusedVariables false

theorem hasB_word (f : Nat → Nat) (i j : Nat) (hj : j < 64) : hasB f (64 * i + j) = (f i).testBit j := by
  unfold hasB
  rw [show (64 * i + j) / 64 = i from by omega, show (64 * i + j) % 64 = j from by omega]
/-- Word i of those from e on; nothing from e on below it. -/
structure NextI (f : Nat → Nat) (e i y : Nat) : Prop where
  lt : y < 18446744073709551616
  none : ∀ x, e ≤ x → x < 64 * i → hasB f x = false
  bits : ∀ j, j < 64 → y.testBit j = (hasB f (64 * i + j) && decide (e ≤ 64 * i + j))
theorem NextI.start {f : Nat → Nat} {e : Nat} (h : f (e / 64) < 18446744073709551616) : NextI f e (e / 64) (anot (f (e / 64)) (2 ^ (e % 64) - 1)) := by
  have hr : e % 64 < 64 := Nat.mod_lt _ (by decide)
  refine ⟨anot_lt h, fun x h1 h2 => by omega, fun j hj => ?_⟩
  rw [tb_from h hr, hasB_word f _ j hj]
  congr 1
  rw [Bool.eq_iff_iff]
  simp
  omega
theorem NextI.zero {f : Nat → Nat} {e i : Nat} (h : NextI f e i 0) (x : Nat) (h1 : e ≤ x) (h2 : x < 64 * (i + 1)) : hasB f x = false := by
  by_cases k : x < 64 * i
  · exact h.none x h1 k
  · have := h.bits (x - 64 * i) (by omega)
    rw [show 64 * i + (x - 64 * i) = x from by omega] at this
    simp at this
    cases hp : hasB f x
    · rfl
    · exact absurd h1 (by have := this hp; omega)
theorem NextI.next {f : Nat → Nat} {e i : Nat} (h : NextI f e i 0) (hf : f (i + 1) < 18446744073709551616) (he : e / 64 ≤ i) : NextI f e (i + 1) (f (i + 1)) := by
  refine ⟨hf, h.zero, fun j hj => ?_⟩
  rw [hasB_word f _ j hj, decide_eq_true (by omega), Bool.and_true]
theorem NextI.none_found {f : Nat → Nat} {e i n sz : Nat} (h : NextI f e i 0) (hi : i + 1 = n) (hs : sz ≤ 64 * n) : firstX (fun x => hasB f x && decide ((e : Int) ≤ (x : Int))) sz = -1 := by
  refine firstX_none (fun x hx => ?_)
  by_cases k : e ≤ x
  · rw [h.zero x k (by omega)]; rfl
  · rw [decide_eq_false (by omega), Bool.and_false]
theorem NextI.found {f : Nat → Nat} {e i y n sz : Nat} (h : NextI f e i y) (h0 : 0 < y) (hi : i < n) (hz : ∀ x, sz ≤ x → x < 64 * n → hasB f x = false) : firstX (fun x => hasB f x && decide ((e : Int) ≤ (x : Int))) sz = ((64 * i + tz64 y : Nat) : Int) := by
  have ht := tz64_lt h0 h.lt
  obtain ⟨k1, k2⟩ := tz64_tb h0 h.lt
  have k3 := h.bits (tz64 y) ht
  rw [k1] at k3
  have k4 := k3.symm
  simp only [Bool.and_eq_true, decide_eq_true_eq] at k4
  refine firstX_at ?_ (fun z hzz => ?_) ?_
  · simp only [Bool.and_eq_true, decide_eq_true_eq]
    exact ⟨k4.1, by omega⟩
  · by_cases he : e ≤ z
    · by_cases hi2 : z < 64 * i
      · rw [h.none z he hi2]; rfl
      · have a := h.bits (z - 64 * i) (by omega)
        rw [k2 _ (by omega), show 64 * i + (z - 64 * i) = z from by omega, decide_eq_true he, Bool.and_true] at a
        rw [← a]; rfl
    · rw [decide_eq_false (by omega), Bool.and_false]
  · rcases Nat.lt_or_ge (64 * i + tz64 y) sz with k | k
    · exact k
    · rw [hz _ k (by omega)] at k4
      cases k4.1
/-- Word i of those up to e; nothing up to e above it. -/
structure LastI (f : Nat → Nat) (e i y : Nat) : Prop where
  lt : y < 18446744073709551616
  none : ∀ x, x ≤ e → 64 * (i + 1) ≤ x → hasB f x = false
  bits : ∀ j, j < 64 → y.testBit j = (hasB f (64 * i + j) && decide (64 * i + j ≤ e))
theorem LastI.start {f : Nat → Nat} {e : Nat} (h : f (e / 64) < 18446744073709551616) : LastI f e (e / 64) (f (e / 64) &&& (2 ^ (e % 64) ||| (2 ^ (e % 64) - 1))) := by
  refine ⟨and_lt64 h, fun x h1 h2 => by omega, fun j hj => ?_⟩
  rw [tb_upto, hasB_word f _ j hj]
  congr 1
  rw [Bool.eq_iff_iff]
  simp
  omega
theorem LastI.zero {f : Nat → Nat} {e i : Nat} (h : LastI f e i 0) (x : Nat) (h1 : x ≤ e) (h2 : 64 * i ≤ x) : hasB f x = false := by
  by_cases k : 64 * (i + 1) ≤ x
  · exact h.none x h1 k
  · have := h.bits (x - 64 * i) (by omega)
    rw [show 64 * i + (x - 64 * i) = x from by omega] at this
    simp at this
    cases hp : hasB f x
    · rfl
    · exact absurd h1 (by have := this hp; omega)
theorem LastI.next {f : Nat → Nat} {e i : Nat} (h : LastI f e (i + 1) 0) (hf : f i < 18446744073709551616) (he : i + 1 ≤ e / 64) : LastI f e i (f i) := by
  refine ⟨hf, fun x h1 h2 => h.zero x h1 h2, fun j hj => ?_⟩
  rw [hasB_word f _ j hj, decide_eq_true (by omega), Bool.and_true]
theorem LastI.none_found {f : Nat → Nat} {e sz : Nat} (h : LastI f e 0 0) : lastX (fun x => hasB f x && decide ((x : Int) ≤ (e : Int))) sz = -1 := by
  refine lastX_none (fun x hx => ?_)
  by_cases k : x ≤ e
  · rw [h.zero x k (by omega)]; rfl
  · rw [decide_eq_false (by omega), Bool.and_false]
theorem LastI.found {f : Nat → Nat} {e i y sz : Nat} (h : LastI f e i y) (h0 : 0 < y) (he : e < sz) : lastX (fun x => hasB f x && decide ((x : Int) ≤ (e : Int))) sz = ((64 * i + top64 y : Nat) : Int) := by
  have ht := (top64_len h0 h.lt).2
  obtain ⟨k1, k2⟩ := top64_tb h0 h.lt
  have k3 := h.bits (top64 y) ht
  rw [k1] at k3
  have k4 := k3.symm
  simp only [Bool.and_eq_true, decide_eq_true_eq] at k4
  refine lastX_at ?_ (by omega) (fun z h1 h2 => ?_)
  · simp only [Bool.and_eq_true, decide_eq_true_eq]
    exact ⟨k4.1, by omega⟩
  · by_cases hez : z ≤ e
    · by_cases hi2 : 64 * (i + 1) ≤ z
      · rw [h.none z hez hi2]; rfl
      · have a := h.bits (z - 64 * i) (by omega)
        rw [k2 _ (by omega), show 64 * i + (z - 64 * i) = z from by omega, decide_eq_true hez, Bool.and_true] at a
        rw [← a]; rfl
    · rw [decide_eq_false (by omega), Bool.and_false]
/-- The number with k below it lies in word i. -/
theorem sel_word {f : Nat → Nat} {i k m y n sz : Nat} (hf : f i < 18446744073709551616) (hk : k = cntB (hasB f) (64 * i) + m) (hm : m < pc64 (f i)) (h : LessB (f i) m y) (hi : i < n) (hz : ∀ x, sz ≤ x → x < 64 * n → hasB f x = false) :
    firstX (fun x => hasB f x && (cntB (hasB f) x == k)) sz = ((64 * i + tz64 y : Nat) : Int) ∧ 0 < y := by
  obtain ⟨h0, h1, h2⟩ := h.low hf hm
  have ht := tz64_lt h0 h.1
  refine ⟨sel_at (hasB f) ?_ ?_ ?_, h0⟩
  · rcases Nat.lt_or_ge (64 * i + tz64 y) sz with c | c
    · exact c
    · have := hz _ c (by omega)
      rw [hasB_word f _ _ ht, h1] at this
      cases this
  · rw [hasB_word f _ _ ht]; exact h1
  · rw [cntB_add, hk, ← h2]
    congr 1
    apply cntB_congr
    intro x hx
    exact hasB_word f _ _ (by omega)
end Go.Proofs.YtbendkndnojihabDoor
