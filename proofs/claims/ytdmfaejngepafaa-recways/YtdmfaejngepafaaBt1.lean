/-
  WORDS AND BITS, plain. No Go here.
-/

namespace Go.Proofs.Ytdmfaejngepafaa
set_option linter.unusedVariables false

/-- The words f, n of them, are the set P. -/
def RepB (n : Nat) (f : Nat → Nat) (P : Nat → Bool) : Prop := ∀ i, i < n → f i < 18446744073709551616 ∧ ∀ j, j < 64 → (f i).testBit j = P (64 * i + j)

theorem tb_big {x j : Nat} (h : x < 18446744073709551616) (hj : 64 ≤ j) : x.testBit j = false := by
  apply Nat.testBit_lt_two_pow
  have : (2:Nat) ^ 64 ≤ 2 ^ j := Nat.pow_le_pow_right (by decide) hj
  have e : (2:Nat) ^ 64 = 18446744073709551616 := by decide
  omega
theorem RepB.unique {n : Nat} {f g : Nat → Nat} {P Q : Nat → Bool} (h : RepB n f P) (k : RepB n g Q) (e : ∀ x, x < 64 * n → P x = Q x) : ∀ i, i < n → f i = g i := by
  intro i hi
  apply Nat.eq_of_testBit_eq
  intro j
  by_cases hj : j < 64
  · rw [(h i hi).2 j hj, (k i hi).2 j hj]; exact e _ (by omega)
  · rw [tb_big (h i hi).1 (by omega), tb_big (k i hi).1 (by omega)]
theorem RepB.zero (n : Nat) : RepB n (fun _ => 0) (fun _ => false) := fun i hi => ⟨by show 0 < _; decide, fun j hj => by simp⟩
theorem RepB.congr {n : Nat} {f g : Nat → Nat} {P Q : Nat → Bool} (h : RepB n f P) (e1 : ∀ i, i < n → f i = g i) (e2 : ∀ x, x < 64 * n → P x = Q x) : RepB n g Q := by
  intro i hi
  rw [← e1 i hi]
  refine ⟨(h i hi).1, fun j hj => ?_⟩
  rw [(h i hi).2 j hj]; exact e2 _ (by omega)
theorem pow_lt64 {j : Nat} (h : j < 64) : 2 ^ j < 18446744073709551616 := by
  have : (2:Nat) ^ j < 2 ^ 64 := Nat.pow_lt_pow_right (by decide) h
  have e : (2:Nat) ^ 64 = 18446744073709551616 := by decide
  omega
theorem or_lt64 {x y : Nat} (hx : x < 18446744073709551616) (hy : y < 18446744073709551616) : x ||| y < 18446744073709551616 := by
  have : (x ||| y) < 2 ^ 64 := Nat.or_lt_two_pow (by omega) (by omega)
  exact this
theorem and_lt64 {x y : Nat} (hx : x < 18446744073709551616) : x &&& y < 18446744073709551616 := Nat.lt_of_le_of_lt Nat.and_le_left hx
theorem xor_lt64 {x y : Nat} (hx : x < 18446744073709551616) (hy : y < 18446744073709551616) : x ^^^ y < 18446744073709551616 := by
  have : (x ^^^ y) < 2 ^ 64 := Nat.xor_lt_two_pow (by omega) (by omega)
  exact this
/-- x without y's bits. -/
def anot (x y : Nat) : Nat := x &&& (18446744073709551615 - y)
theorem tb_not {y j : Nat} (hy : y < 18446744073709551616) (hj : j < 64) : (18446744073709551615 - y).testBit j = !y.testBit j := by
  have := Nat.testBit_two_pow_sub_succ (n := 64) (x := y) (by have e : (2:Nat) ^ 64 = 18446744073709551616 := by decide
                                                              omega) j
  have e : (2:Nat) ^ 64 - (y + 1) = 18446744073709551615 - y := by
    have e : (2:Nat) ^ 64 = 18446744073709551616 := by decide
    omega
  rw [e] at this
  rw [this]
  simp [hj]
theorem tb_anot {x y j : Nat} (hx : x < 18446744073709551616) (hy : y < 18446744073709551616) : (anot x y).testBit j = (x.testBit j && !y.testBit j) := by
  unfold anot
  rw [Nat.testBit_and]
  by_cases hj : j < 64
  · rw [tb_not hy hj]
  · rw [tb_big hx (by omega)]; simp
theorem anot_lt {x y : Nat} (hx : x < 18446744073709551616) : anot x y < 18446744073709551616 := and_lt64 hx

theorem RepB.put {n : Nat} {f : Nat → Nat} {P : Nat → Bool} (h : RepB n f P) (e : Nat) (he : e / 64 < n) : RepB n (fun i => if i = e / 64 then f (e / 64) ||| 2 ^ (e % 64) else f i) (fun x => x == e || P x) := by
  intro i hi
  have hm : e % 64 < 64 := Nat.mod_lt _ (by decide)
  by_cases hie : i = e / 64
  · subst hie
    simp only [if_true]
    refine ⟨or_lt64 (h _ hi).1 (pow_lt64 hm), fun j hj => ?_⟩
    rw [Nat.testBit_or, (h _ hi).2 j hj, Nat.testBit_two_pow, Bool.or_comm]
    congr 1
    rw [Bool.eq_iff_iff]
    simp
    omega
  · simp only [if_neg hie]
    refine ⟨(h _ hi).1, fun j hj => ?_⟩
    rw [(h _ hi).2 j hj]
    have : (64 * i + j == e) = false := by simp; omega
    rw [this]; simp
theorem RepB.drop {n : Nat} {f : Nat → Nat} {P : Nat → Bool} (h : RepB n f P) (e : Nat) (he : e / 64 < n) : RepB n (fun i => if i = e / 64 then anot (f (e / 64)) (2 ^ (e % 64)) else f i) (fun x => !(x == e) && P x) := by
  intro i hi
  have hm : e % 64 < 64 := Nat.mod_lt _ (by decide)
  by_cases hie : i = e / 64
  · subst hie
    simp only [if_true]
    refine ⟨anot_lt (h _ hi).1, fun j hj => ?_⟩
    rw [tb_anot (h _ hi).1 (pow_lt64 hm), (h _ hi).2 j hj, Nat.testBit_two_pow, Bool.and_comm]
    congr 2
    rw [Bool.eq_iff_iff]
    simp
    omega
  · simp only [if_neg hie]
    refine ⟨(h _ hi).1, fun j hj => ?_⟩
    rw [(h _ hi).2 j hj]
    have : (64 * i + j == e) = false := by simp; omega
    rw [this]; simp

/-- The set that the words are. -/
def hasB (f : Nat → Nat) (x : Nat) : Bool := (f (x / 64)).testBit (x % 64)
theorem RepB.self {n : Nat} {f : Nat → Nat} (h : ∀ i, i < n → f i < 18446744073709551616) : RepB n f (hasB f) := by
  intro i hi
  refine ⟨h i hi, fun j hj => ?_⟩
  unfold hasB
  rw [show (64 * i + j) / 64 = i from by omega, show (64 * i + j) % 64 = j from by omega]
theorem RepB.has {n : Nat} {f : Nat → Nat} {P : Nat → Bool} (h : RepB n f P) (x : Nat) (hx : x < 64 * n) : hasB f x = P x := by
  unfold hasB
  rw [(h (x / 64) (by omega)).2 (x % 64) (by omega)]
  congr 1
  omega

/-- Word i of the set P. -/
def wdK (P : Nat → Bool) (i : Nat) : Nat → Nat
  | 0 => 0
  | k + 1 => wdK P i k ||| (if P (64 * i + k) then 2 ^ k else 0)
def wd (P : Nat → Bool) (i : Nat) : Nat := wdK P i 64
theorem wdK_lt (P : Nat → Bool) (i : Nat) : ∀ k, wdK P i k < 2 ^ k
  | 0 => by simp [wdK]
  | k + 1 => by
    have h := wdK_lt P i k
    simp only [wdK]
    apply Nat.or_lt_two_pow
    · rw [Nat.pow_succ]; omega
    · split
      · rw [Nat.pow_succ]; have := Nat.two_pow_pos k; omega
      · exact Nat.two_pow_pos _
theorem wdK_tb (P : Nat → Bool) (i : Nat) : ∀ k j, (wdK P i k).testBit j = (decide (j < k) && P (64 * i + j))
  | 0, j => by simp [wdK]
  | k + 1, j => by
    simp only [wdK]
    rw [Nat.testBit_or, wdK_tb P i k j]
    by_cases e : j = k
    · subst e
      cases h : P (64 * i + j) <;> simp
    · cases h : P (64 * i + k)
      · simp
        by_cases hj : j < k
        · simp [hj, show j < k + 1 from by omega]
        · simp [hj, show ¬ j < k + 1 from by omega]
      · simp [show ¬ k = j from fun h => e h.symm]
        by_cases hj : j < k
        · simp [hj, show j < k + 1 from by omega]
        · simp [hj, show ¬ j < k + 1 from by omega]
theorem wd_rep (n : Nat) (P : Nat → Bool) : RepB n (wd P) P := by
  intro i hi
  refine ⟨?_, fun j hj => ?_⟩
  · have := wdK_lt P i 64
    exact this
  · unfold wd
    rw [wdK_tb]; simp [hj]
/-- How many words a universe takes; the words of a set. -/
def nW (n : Nat) : Nat := (n + 63) / 64
def wordsL (n : Nat) (P : Nat → Bool) : List Nat := (List.range (nW n)).map (wd P)
theorem wordsL_len (n : Nat) (P : Nat → Bool) : (wordsL n P).length = nW n := by simp [wordsL]
theorem wordsL_getD (n : Nat) (P : Nat → Bool) (i : Nat) (h : i < nW n) : (wordsL n P).getD i 0 = wd P i := by simp [wordsL, List.getD, h]
theorem wordsL_congr {n : Nat} {P Q : Nat → Bool} (h : ∀ x, x < 64 * nW n → P x = Q x) : wordsL n P = wordsL n Q := by
  unfold wordsL
  apply List.map_congr_left
  intro i hi
  exact (wd_rep (nW n) P).unique (wd_rep (nW n) Q) h i (List.mem_range.1 hi)
theorem wordsL_of {n : Nat} {f : Nat → Nat} {P : Nat → Bool} (h : RepB (nW n) f P) : (List.range (nW n)).map f = wordsL n P := by
  unfold wordsL
  apply List.map_congr_left
  intro i hi
  exact h.unique (wd_rep (nW n) P) (fun _ _ => rfl) i (List.mem_range.1 hi)
end Go.Proofs.Ytdmfaejngepafaa
