/-
  THE ORDER OF SETS, plain. No Go here.
-/
import Derived.Test.YtbendkndnojihabBt1
namespace Go.Proofs.Ytbendkndnojihab
set_option linter.unusedVariables false

/-- The greatest number below n in which two sets part tells which is the greater. -/
def cmpB (P Q : Nat → Bool) : Nat → Int
  | 0 => 0
  | e + 1 => if P e = Q e then cmpB P Q e else if P e = true then 1 else -1
/-- The same by words. -/
def cmpW (f g : Nat → Nat) : Nat → Int
  | 0 => 0
  | i + 1 => if f i = g i then cmpW f g i else if f i < g i then -1 else 1

theorem cmpB_congr {P Q P' Q' : Nat → Bool} : ∀ {n : Nat}, (∀ x, x < n → P x = P' x) → (∀ x, x < n → Q x = Q' x) → cmpB P Q n = cmpB P' Q' n
  | 0, _, _ => rfl
  | n + 1, h, k => by
    simp only [cmpB]
    rw [h n (by omega), k n (by omega), cmpB_congr (fun x hx => h x (by omega)) (fun x hx => k x (by omega))]
/-- Above n the two are alike. -/
theorem cmpB_top {P Q : Nat → Bool} (n : Nat) : ∀ m, (∀ x, n ≤ x → x < n + m → P x = Q x) → cmpB P Q (n + m) = cmpB P Q n
  | 0, _ => rfl
  | m + 1, h => by
    show cmpB P Q (n + m + 1) = _
    simp only [cmpB]
    rw [if_pos (h (n + m) (by omega) (by omega))]
    exact cmpB_top n m (fun x h1 h2 => h x h1 (by omega))
theorem cmpB_at {P Q : Nat → Bool} {n e : Nat} (he : e < n) (hd : P e ≠ Q e) (h : ∀ x, e < x → x < n → P x = Q x) : cmpB P Q n = if P e = true then 1 else -1 := by
  obtain ⟨m, rfl⟩ : ∃ m, n = e + 1 + m := ⟨n - (e + 1), by omega⟩
  rw [cmpB_top (e + 1) m (fun x h1 h2 => h x (by omega) h2)]
  simp only [cmpB]
  rw [if_neg hd]
theorem word_top {x y : Nat} (hx : x < 18446744073709551616) (hy : y < 18446744073709551616) (h : x ≠ y) : ∃ j, j < 64 ∧ x.testBit j ≠ y.testBit j ∧ ∀ k, j < k → x.testBit k = y.testBit k := by
  have e64 : (2:Nat) ^ 64 = 18446744073709551616 := by decide
  have big : ∀ z k, z < 18446744073709551616 → 64 ≤ k → z.testBit k = false := fun z k hz hk => by
    apply Nat.testBit_lt_two_pow
    have : (2:Nat) ^ 64 ≤ 2 ^ k := Nat.pow_le_pow_right (by decide) hk
    omega
  have key : ∀ m, m ≤ 64 → (∀ k, m ≤ k → x.testBit k = y.testBit k) → ∃ j, j < 64 ∧ x.testBit j ≠ y.testBit j ∧ ∀ k, j < k → x.testBit k = y.testBit k := by
    intro m
    induction m with
    | zero => intro _ hh; exact absurd (Nat.eq_of_testBit_eq (fun k => hh k (Nat.zero_le _))) h
    | succ m ih =>
      intro hm hh
      by_cases e : x.testBit m = y.testBit m
      · refine ih (by omega) (fun k hk => ?_)
        by_cases ek : k = m
        · subst ek; exact e
        · exact hh k (by omega)
      · exact ⟨m, by omega, e, fun k hk => hh k hk⟩
  exact key 64 (Nat.le_refl _) (fun k hk => by rw [big x k hx hk, big y k hy hk])
theorem lt_of_tb {x y : Nat} (j : Nat) (hx : x.testBit j = false) (hy : y.testBit j = true) (h : ∀ k, j < k → x.testBit k = y.testBit k) : x < y := by
  have hd : x / 2 ^ (j + 1) = y / 2 ^ (j + 1) := by
    apply Nat.eq_of_testBit_eq
    intro k
    rw [Nat.testBit_div_two_pow, Nat.testBit_div_two_pow]
    exact h _ (by omega)
  rw [Nat.testBit_eq_decide_div_mod_eq] at hx hy
  simp at hx hy
  have px := Nat.two_pow_pos j
  rw [Nat.pow_succ, ← Nat.div_div_eq_div_mul, ← Nat.div_div_eq_div_mul] at hd
  have dx := Nat.div_add_mod x (2 ^ j)
  have dy := Nat.div_add_mod y (2 ^ j)
  have mx := Nat.mod_lt x px
  have hl : x / 2 ^ j + 1 ≤ y / 2 ^ j := by omega
  have := Nat.mul_le_mul_left (2 ^ j) hl
  rw [Nat.mul_add] at this
  omega
theorem word_lt {x y j : Nat} (hd : x.testBit j ≠ y.testBit j) (h : ∀ k, j < k → x.testBit k = y.testBit k) : (x < y) ↔ x.testBit j = false := by
  constructor
  · intro hl
    cases hx : x.testBit j
    · rfl
    · have hy : y.testBit j = false := by cases hy : y.testBit j <;> simp_all
      have := lt_of_tb j hy hx (fun k hk => (h k hk).symm)
      omega
  · intro hx
    have hy : y.testBit j = true := by cases hy : y.testBit j <;> simp_all
    exact lt_of_tb j hx hy h
theorem cmpW_eq {f g : Nat → Nat} : ∀ {n : Nat}, (∀ i, i < n → f i < 18446744073709551616) → (∀ i, i < n → g i < 18446744073709551616) → cmpW f g n = cmpB (hasB f) (hasB g) (64 * n)
  | 0, _, _ => rfl
  | n + 1, hf, hg => by
    simp only [cmpW]
    by_cases e : f n = g n
    · rw [if_pos e, cmpW_eq (fun i hi => hf i (by omega)) (fun i hi => hg i (by omega)), show 64 * (n + 1) = 64 * n + 64 from by omega]
      refine (cmpB_top (64 * n) 64 (fun x h1 h2 => ?_)).symm
      unfold hasB
      rw [show x / 64 = n from by omega, e]
    · rw [if_neg e]
      obtain ⟨j, hj, hd, ht⟩ := word_top (hf n (by omega)) (hg n (by omega)) e
      have hb : ∀ (u : Nat → Nat) (k : Nat), k < 64 → hasB u (64 * n + k) = (u n).testBit k := fun u k hk => by
        unfold hasB
        rw [show (64 * n + k) / 64 = n from by omega, show (64 * n + k) % 64 = k from by omega]
      rw [cmpB_at (e := 64 * n + j) (by omega) (by rw [hb f j hj, hb g j hj]; exact hd) (fun x h1 h2 => by
        have := ht (x - 64 * n) (by omega)
        rw [← hb f _ (by omega), ← hb g _ (by omega), show 64 * n + (x - 64 * n) = x from by omega] at this
        exact this), hb f j hj]
      have hw := word_lt hd ht
      by_cases hl : f n < g n
      · rw [if_pos hl, hw.1 hl]; simp
      · rw [if_neg hl]
        cases hx : (f n).testBit j
        · exact absurd (hw.2 hx) hl
        · simp
/-- An order. -/
theorem cmpB_neg (P Q : Nat → Bool) : ∀ n, cmpB Q P n = - cmpB P Q n
  | 0 => rfl
  | n + 1 => by
    simp only [cmpB]
    have ih := cmpB_neg P Q n
    cases P n <;> cases Q n <;> simp [ih]
theorem cmpB_self (P : Nat → Bool) : ∀ n, cmpB P P n = 0
  | 0 => rfl
  | n + 1 => by simp [cmpB, cmpB_self P n]
theorem cmpB_one (P Q : Nat → Bool) : ∀ n, cmpB P Q n = 0 ∨ cmpB P Q n = 1 ∨ cmpB P Q n = -1
  | 0 => .inl rfl
  | n + 1 => by
    simp only [cmpB]
    have ih := cmpB_one P Q n
    cases P n <;> cases Q n <;> simp [ih]
theorem cmpB_zero {P Q : Nat → Bool} : ∀ {n : Nat}, cmpB P Q n = 0 ↔ ∀ x, x < n → P x = Q x
  | 0 => by simp [cmpB]
  | n + 1 => by
    simp only [cmpB]
    have ih := cmpB_zero (P := P) (Q := Q) (n := n)
    by_cases e : P n = Q n
    · rw [if_pos e, ih]
      constructor
      · intro h x hx
        by_cases ex : x = n
        · subst ex; exact e
        · exact h x (by omega)
      · intro h x hx; exact h x (by omega)
    · rw [if_neg e]
      constructor
      · intro h; split at h <;> cases h
      · intro h; exact absurd (h n (by omega)) e
theorem cmpB_trans {P Q R : Nat → Bool} : ∀ {n : Nat}, cmpB P Q n ≤ 0 → cmpB Q R n ≤ 0 → cmpB P R n ≤ 0
  | 0, _, _ => by simp [cmpB]
  | n + 1, h, k => by
    simp only [cmpB] at h k ⊢
    have ih := cmpB_trans (P := P) (Q := Q) (R := R) (n := n)
    revert h k
    cases P n <;> cases Q n <;> cases R n <;> simp <;> omega
theorem cmpB_sub {P Q : Nat → Bool} : ∀ {n : Nat}, (∀ x, x < n → P x = true → Q x = true) → cmpB P Q n ≤ 0
  | 0, _ => by simp [cmpB]
  | n + 1, h => by
    simp only [cmpB]
    have ih := cmpB_sub (P := P) (Q := Q) (n := n) (fun x hx => h x (by omega))
    have := h n (by omega)
    revert this
    cases P n <;> cases Q n <;> simp [ih]
end Go.Proofs.Ytbendkndnojihab
