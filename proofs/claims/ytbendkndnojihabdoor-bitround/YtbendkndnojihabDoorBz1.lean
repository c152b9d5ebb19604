/-
  LOWEST AND HIGHEST BITS; THE FIRST AND THE LAST OF MANY, plain. No Go here.
-/
import Derived.Test.YtbendkndnojihabDoorBn1
namespace Go.Proofs.YtbendkndnojihabDoor
set_option linter.unusedVariables false

theorem and_m2 (x y : Nat) : (x &&& y) % 2 = (x % 2) * (y % 2) := by
  have h := @Nat.and_mod_two_eq_one x y
  rcases Nat.mod_two_eq_zero_or_one x with a | a <;> rcases Nat.mod_two_eq_zero_or_one y with b | b <;> rw [a, b] at h ⊢ <;> omega
theorem and_not_add : ∀ (f x y : Nat), x < 2 ^ f → y < 2 ^ f → (x &&& y) + (x &&& (2 ^ f - 1 - y)) = x
  | 0, x, y, hx, hy => by simp at hx hy; subst hx; subst hy; rfl
  | f + 1, x, y, hx, hy => by
    have hp : 2 ^ (f + 1) = 2 * 2 ^ f := by rw [Nat.pow_succ, Nat.mul_comm]
    have h0 := Nat.two_pow_pos f
    rw [hp] at hx hy ⊢
    have h := and_not_add f (x / 2) (y / 2) (by omega) (by omega)
    have e1 : (2 * 2 ^ f - 1 - y) / 2 = 2 ^ f - 1 - y / 2 := by omega
    have e2 : (2 * 2 ^ f - 1 - y) % 2 = 1 - y % 2 := by omega
    rw [← e1, ← Nat.and_div_two, ← Nat.and_div_two] at h
    have a := and_m2 x y
    have b := and_m2 x (2 * 2 ^ f - 1 - y)
    rw [e2] at b
    generalize 2 * 2 ^ f - 1 - y = z at *
    have c : (x % 2) * (y % 2) + (x % 2) * (1 - y % 2) = x % 2 := by
      rcases Nat.mod_two_eq_zero_or_one y with d | d <;> rw [d] <;> omega
    omega
/-- The lowest bit's place. -/
def tzA : Nat → Nat → Nat
  | 0, _ => 0
  | f + 1, x => if x % 2 = 1 then 0 else 1 + tzA f (x / 2)
theorem tz_and : ∀ (f x : Nat), 0 < x → x < 2 ^ f → x &&& (2 ^ f - x) = 2 ^ tzA f x
  | 0, x, h0, h => by simp at h; omega
  | f + 1, x, h0, h => by
    have hp : 2 ^ (f + 1) = 2 * 2 ^ f := by rw [Nat.pow_succ, Nat.mul_comm]
    have hq := Nat.two_pow_pos f
    rw [hp] at h ⊢
    have hd := Nat.div_add_mod (x &&& (2 * 2 ^ f - x)) 2
    have hm := and_m2 x (2 * 2 ^ f - x)
    rw [Nat.and_div_two] at hd
    simp only [tzA]
    rcases Nat.mod_two_eq_zero_or_one x with e | e
    · rw [if_neg (by omega)]
      have e1 : (2 * 2 ^ f - x) / 2 = 2 ^ f - x / 2 := by omega
      rw [e1, tz_and f (x / 2) (by omega) (by omega)] at hd
      rw [e, Nat.zero_mul] at hm
      rw [show 1 + tzA f (x / 2) = tzA f (x / 2) + 1 from by omega, Nat.pow_succ]
      omega
    · rw [if_pos e]
      have e1 : (2 * 2 ^ f - x) / 2 = 2 ^ f - 1 - x / 2 := by omega
      have e2 : (2 * 2 ^ f - x) % 2 = 1 := by omega
      have e3 := and_not_add f (x / 2) (x / 2) (by omega) (by omega)
      rw [Nat.and_self] at e3
      rw [e1] at hd
      rw [e, e2] at hm
      simp only [Nat.pow_zero]
      omega
theorem tz_lt : ∀ (f x : Nat), 0 < x → x < 2 ^ f → tzA f x < f
  | 0, x, h0, h => by simp at h; omega
  | f + 1, x, h0, h => by
    rw [Nat.pow_succ] at h
    simp only [tzA]
    split
    · omega
    · have := tz_lt f (x / 2) (by omega) (by omega)
      omega
theorem tz_tb : ∀ (f x : Nat), 0 < x → x < 2 ^ f → x.testBit (tzA f x) = true ∧ ∀ s, s < tzA f x → x.testBit s = false
  | 0, x, h0, h => by simp at h; omega
  | f + 1, x, h0, h => by
    rw [Nat.pow_succ] at h
    simp only [tzA]
    split
    · rename_i e
      exact ⟨by simp [Nat.testBit_zero, e], fun s hs => by omega⟩
    · rename_i e
      have := tz_tb f (x / 2) (by omega) (by omega)
      refine ⟨?_, ?_⟩
      · rw [show 1 + tzA f (x / 2) = tzA f (x / 2) + 1 from by omega, Nat.testBit_succ]
        exact this.1
      · intro s hs
        cases s with
        | zero => simp [Nat.testBit_zero, e]
        | succ s =>
          rw [Nat.testBit_succ]
          exact this.2 s (by omega)
/-- What is left without the lowest bit. -/
theorem tz_drop : ∀ (f x : Nat), 0 < x → x < 2 ^ f → ∀ j, (x &&& (x - 1)).testBit j = (x.testBit j && !(j == tzA f x))
  | 0, x, h0, h, j => by simp at h; omega
  | f + 1, x, h0, h, j => by
    rw [Nat.pow_succ] at h
    simp only [tzA]
    rw [Nat.testBit_and]
    split
    · rename_i e
      cases j with
      | zero => simp [Nat.testBit_zero]; omega
      | succ j =>
        rw [Nat.testBit_succ, Nat.testBit_succ, show (x - 1) / 2 = x / 2 from by omega]
        simp
    · rename_i e
      cases j with
      | zero => simp [Nat.testBit_zero, e]
      | succ j =>
        have := tz_drop f (x / 2) (by omega) (by omega) j
        rw [Nat.testBit_and] at this
        rw [Nat.testBit_succ, Nat.testBit_succ, show (x - 1) / 2 = x / 2 - 1 from by omega, this]
        congr 2
        rw [Bool.eq_iff_iff]
        simp
        omega
def tz64 (x : Nat) : Nat := tzA 64 x
theorem p64 : (2:Nat) ^ 64 = 18446744073709551616 := by decide
theorem tz64_lt {x : Nat} (h0 : 0 < x) (h : x < 18446744073709551616) : tz64 x < 64 := tz_lt 64 x h0 (by rw [p64]; exact h)
theorem tz64_tb {x : Nat} (h0 : 0 < x) (h : x < 18446744073709551616) : x.testBit (tz64 x) = true ∧ ∀ s, s < tz64 x → x.testBit s = false := tz_tb 64 x h0 (by rw [p64]; exact h)
theorem tz64_drop {x : Nat} (h0 : 0 < x) (h : x < 18446744073709551616) (j : Nat) : (x &&& (x - 1)).testBit j = (x.testBit j && !(j == tz64 x)) := tz_drop 64 x h0 (by rw [p64]; exact h) j
theorem ne0_of_tb {x j : Nat} (h : x.testBit j = true) : 0 < x := by
  rcases Nat.eq_zero_or_pos x with e | e
  · subst e; simp at h
  · exact e
theorem tb_of_ne0 {x : Nat} (h0 : 0 < x) (h : x < 18446744073709551616) : ∃ j, j < 64 ∧ x.testBit j = true := ⟨tz64 x, tz64_lt h0 h, (tz64_tb h0 h).1⟩

theorem cntB_mup (P : Nat → Bool) (a : Nat) : ∀ b, cntB P a ≤ cntB P (a + b)
  | 0 => Nat.le_refl _
  | b + 1 => by
    show cntB P a ≤ cntB P (a + b + 1)
    simp only [cntB]
    have := cntB_mup P a b
    omega
theorem cntB_mup2 (P : Nat → Bool) {a b : Nat} (h : a ≤ b) : cntB P a ≤ cntB P b := by
  obtain ⟨k, rfl⟩ : ∃ k, b = a + k := ⟨b - a, by omega⟩
  exact cntB_mup P a k
theorem cntB_lt (P : Nat → Bool) {a b : Nat} (h : a < b) (hp : P a = true) : cntB P a < cntB P b := by
  have h1 : cntB P (a + 1) = cntB P a + 1 := by simp [cntB, hp]
  have := cntB_mup2 P (show a + 1 ≤ b from h)
  omega
theorem cntB_inj (P : Nat → Bool) {a b : Nat} (ha : P a = true) (hb : P b = true) (h : cntB P a = cntB P b) : a = b := by
  rcases Nat.lt_trichotomy a b with k | k | k
  · have := cntB_lt P k ha; omega
  · exact k
  · have := cntB_lt P k hb; omega
theorem cntB_find (P : Nat → Bool) (c : Nat) : ∀ n, c < cntB P n → ∃ x, x < n ∧ P x = true ∧ cntB P x = c
  | 0, h => by simp [cntB] at h
  | n + 1, h => by
    by_cases k : c < cntB P n
    · obtain ⟨x, h1, h2⟩ := cntB_find P c n k
      exact ⟨x, by omega, h2⟩
    · simp only [cntB] at h
      refine ⟨n, by omega, ?_, ?_⟩
      · cases hp : P n
        · rw [hp] at h; simp at h; omega
        · rfl
      · split at h <;> omega
theorem cntB_none (P : Nat → Bool) : ∀ n, (∀ x, x < n → P x = false) → cntB P n = 0
  | 0, _ => rfl
  | n + 1, h => by simp only [cntB]; rw [cntB_none P n (fun x hx => h x (by omega)), h n (by omega)]; rfl
theorem cntB_nil0 (P : Nat → Bool) {n : Nat} (h : cntB P n = 0) (x : Nat) (hx : x < n) : P x = false := by
  cases hp : P x
  · rfl
  · have := cntB_lt P hx hp; omega

/-- The first, and the last, of the first n that are in Q; -1: none. -/
def firstX (Q : Nat → Bool) : Nat → Int
  | 0 => -1
  | n + 1 => if 0 ≤ firstX Q n then firstX Q n else if Q n then (n : Int) else -1
def lastX (Q : Nat → Bool) : Nat → Int
  | 0 => -1
  | n + 1 => if Q n then (n : Int) else lastX Q n
theorem firstX_none {Q : Nat → Bool} : ∀ {n : Nat}, (∀ x, x < n → Q x = false) → firstX Q n = -1
  | 0, _ => rfl
  | n + 1, h => by simp [firstX, firstX_none (n := n) (fun x hx => h x (by omega)), h n (by omega)]
theorem firstX_at {Q : Nat → Bool} {x : Nat} (hq : Q x = true) (hl : ∀ y, y < x → Q y = false) : ∀ {n : Nat}, x < n → firstX Q n = (x : Int)
  | 0, h => by omega
  | n + 1, h => by
    by_cases e : x = n
    · subst e
      simp [firstX, firstX_none hl, hq]
    · simp [firstX, firstX_at hq hl (n := n) (by omega)]
theorem lastX_none {Q : Nat → Bool} : ∀ {n : Nat}, (∀ x, x < n → Q x = false) → lastX Q n = -1
  | 0, _ => rfl
  | n + 1, h => by simp [lastX, lastX_none (n := n) (fun x hx => h x (by omega)), h n (by omega)]
theorem lastX_at {Q : Nat → Bool} {x : Nat} (hq : Q x = true) : ∀ {n : Nat}, x < n → (∀ y, x < y → y < n → Q y = false) → lastX Q n = (x : Int)
  | 0, h, _ => by omega
  | n + 1, h, hl => by
    by_cases e : x = n
    · subst e
      simp [lastX, hq]
    · simp [lastX, hl n (by omega) (by omega), lastX_at hq (n := n) (by omega) (fun y h1 h2 => hl y h1 (by omega))]
theorem lastX_congr {P Q : Nat → Bool} : ∀ {n : Nat}, (∀ x, x < n → P x = Q x) → lastX P n = lastX Q n
  | 0, _ => rfl
  | n + 1, h => by simp only [lastX, lastX_congr (n := n) (fun x hx => h x (by omega)), h n (by omega)]
theorem firstX_congr {P Q : Nat → Bool} : ∀ {n : Nat}, (∀ x, x < n → P x = Q x) → firstX P n = firstX Q n
  | 0, _ => rfl
  | n + 1, h => by simp only [firstX, firstX_congr (n := n) (fun x hx => h x (by omega)), h n (by omega)]
theorem firstX_le (Q : Nat → Bool) : ∀ n : Nat, -1 ≤ firstX Q n ∧ firstX Q n < n
  | 0 => by simp [firstX]
  | n + 1 => by
    have := firstX_le Q n
    simp only [firstX]
    split
    · omega
    · split <;> omega
theorem lastX_le (Q : Nat → Bool) : ∀ n : Nat, -1 ≤ lastX Q n ∧ lastX Q n < n
  | 0 => by simp [lastX]
  | n + 1 => by
    have := lastX_le Q n
    simp only [lastX]
    split <;> omega

/-- x's bits from r on; below r; up to r. -/
theorem tb_from {x r j : Nat} (hx : x < 18446744073709551616) (hr : r < 64) : (anot x (2 ^ r - 1)).testBit j = (x.testBit j && decide (r ≤ j)) := by
  have h1 := pow_lt64 hr
  rw [tb_anot hx (by omega), Nat.testBit_two_pow_sub_one]
  congr 1
  by_cases h : j < r
  · simp [h, show ¬ r ≤ j from by omega]
  · simp [h, show r ≤ j from by omega]
theorem tb_below (x r j : Nat) : (x &&& (2 ^ r - 1)).testBit j = (x.testBit j && decide (j < r)) := by
  rw [Nat.testBit_and, Nat.testBit_two_pow_sub_one]
theorem tb_upto (x r j : Nat) : (x &&& (2 ^ r ||| (2 ^ r - 1))).testBit j = (x.testBit j && decide (j ≤ r)) := by
  rw [Nat.testBit_and, Nat.testBit_or, Nat.testBit_two_pow_sub_one, Nat.testBit_two_pow]
  congr 1
  rw [Bool.eq_iff_iff]
  simp
  omega
theorem pc_below (x r : Nat) (hr : r ≤ 64) : cntB (fun j => (x &&& (2 ^ r - 1)).testBit j) 64 = cntB (fun j => x.testBit j) r := by
  obtain ⟨m, hm⟩ : ∃ m, 64 = r + m := ⟨64 - r, by omega⟩
  rw [hm, cntB_add]
  have e1 : cntB (fun j => (x &&& (2 ^ r - 1)).testBit j) r = cntB (fun j => x.testBit j) r := cntB_congr fun j hj => by rw [tb_below]; simp [hj]
  have e2 : cntB (fun j => (x &&& (2 ^ r - 1)).testBit (r + j)) m = 0 := cntB_none _ _ fun j hj => by rw [tb_below]; simp
  rw [e1, e2]
  rfl

/-- y is x without its m lowest bits. -/
def LessB (x m y : Nat) : Prop := y < 18446744073709551616 ∧ ∀ j, y.testBit j = (x.testBit j && decide (m ≤ cntB (fun k => x.testBit k) j))
theorem LessB.start {x : Nat} (h : x < 18446744073709551616) : LessB x 0 x := ⟨h, fun j => by simp⟩
theorem LessB.low {x m y : Nat} (hx : x < 18446744073709551616) (h : LessB x m y) (hm : m < cntB (fun k => x.testBit k) 64) : 0 < y ∧ x.testBit (tz64 y) = true ∧ cntB (fun k => x.testBit k) (tz64 y) = m := by
  obtain ⟨t, ht, h1, h2⟩ := cntB_find _ m 64 hm
  have hy : y.testBit t = true := by
    have h1' : x.testBit t = true := h1
    rw [h.2 t, h1', h2]; simp
  have h0 := ne0_of_tb hy
  obtain ⟨k1, k2⟩ := tz64_tb h0 h.1
  have k3 := k1
  rw [h.2] at k3
  simp only [Bool.and_eq_true, decide_eq_true_eq] at k3
  refine ⟨h0, k3.1, ?_⟩
  have e : tz64 y = t := by
    rcases Nat.lt_trichotomy (tz64 y) t with k | k | k
    · have := cntB_lt (fun k => x.testBit k) k k3.1
      omega
    · exact k
    · rw [k2 t k] at hy; cases hy
  rw [e]; exact h2
theorem LessB.step {x m y : Nat} (hx : x < 18446744073709551616) (h : LessB x m y) (hm : m < cntB (fun k => x.testBit k) 64) : LessB x (m + 1) (y &&& (y - 1)) := by
  obtain ⟨h0, h1, h2⟩ := h.low hx hm
  refine ⟨and_lt64 h.1, fun j => ?_⟩
  rw [tz64_drop h0 h.1, h.2]
  cases hj : x.testBit j
  · rfl
  · simp only [Bool.true_and]
    rw [Bool.eq_iff_iff]
    simp only [Bool.and_eq_true, decide_eq_true_eq, Bool.not_eq_true', beq_eq_false_iff_ne, ne_eq]
    constructor
    · rintro ⟨a, b⟩
      rcases Nat.lt_or_ge m (cntB (fun k => x.testBit k) j) with c | c
      · exact c
      · exact absurd (cntB_inj (fun k => x.testBit k) hj h1 (by omega)) b
    · intro a
      refine ⟨by omega, fun e => ?_⟩
      rw [e] at a
      omega
end Go.Proofs.YtbendkndnojihabDoor
