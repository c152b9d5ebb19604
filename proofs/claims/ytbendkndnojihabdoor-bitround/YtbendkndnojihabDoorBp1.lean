/-
  bitset.Compare: its contract.
-/
import Derived.Test.YtbendkndnojihabDoorBt1
import Derived.Test.YtbendkndnojihabDoorBc2
import Derived.Test.YtbendkndnojihabDoorBth
import Derived.Test.YtbendkndnojihabDoorBn2
import Derived.Test.YtbendkndnojihabDoorBp0
import Derived.Test.YtbendkndnojihabDoorBtc
namespace Go.Proofs.YtbendkndnojihabDoor
set_option linter.unusedVariables false

/-- The greatest number below n in which two sets part tells which is the greater. -/
def cmpB (P Q : Nat → Bool) : Nat → Int
  | 0 => 0
  | e + 1 => if P e = Q e then cmpB P Q e else if P e = true then 1 else -1
/-- The same by words. -/
def cmpW (f g : Nat → Nat) : Nat → Int
  | 0 => 0
  | i + 1 => if f i = g i then cmpW f g i else if f i < g i then -1 else 1

theorem cmpB_congr {P Q P' Q' : Nat → Bool} : ∀ {n : Nat}, (∀ x, x < n → P x = P' x) → (∀ x, x < n → Q x = Q' x) → cmpB P Q n = cmpB P' Q' n
  | 0, _, _ => rfl
  | n + 1, h, k => by
    simp only [cmpB]
    rw [h n (by omega), k n (by omega), cmpB_congr (fun x hx => h x (by omega)) (fun x hx => k x (by omega))]
/-- Above n the two are alike. -/
theorem cmpB_top {P Q : Nat → Bool} (n : Nat) : ∀ m, (∀ x, n ≤ x → x < n + m → P x = Q x) → cmpB P Q (n + m) = cmpB P Q n
  | 0, _ => rfl
  | m + 1, h => by
    show cmpB P Q (n + m + 1) = _
    simp only [cmpB]
    rw [if_pos (h (n + m) (by omega) (by omega))]
    exact cmpB_top n m (fun x h1 h2 => h x h1 (by omega))
theorem cmpB_at {P Q : Nat → Bool} {n e : Nat} (he : e < n) (hd : P e ≠ Q e) (h : ∀ x, e < x → x < n → P x = Q x) : cmpB P Q n = if P e = true then 1 else -1 := by
  obtain ⟨m, rfl⟩ : ∃ m, n = e + 1 + m := ⟨n - (e + 1), by omega⟩
  rw [cmpB_top (e + 1) m (fun x h1 h2 => h x (by omega) h2)]
  simp only [cmpB]
  rw [if_neg hd]
theorem word_top {x y : Nat} (hx : x < 18446744073709551616) (hy : y < 18446744073709551616) (h : x ≠ y) : ∃ j, j < 64 ∧ x.testBit j ≠ y.testBit j ∧ ∀ k, j < k → x.testBit k = y.testBit k := by
  have e64 : (2:Nat) ^ 64 = 18446744073709551616 := by decide
  have big : ∀ z k, z < 18446744073709551616 → 64 ≤ k → z.testBit k = false := fun z k hz hk => by
    apply Nat.testBit_lt_two_pow
    have : (2:Nat) ^ 64 ≤ 2 ^ k := Nat.pow_le_pow_right (by decide) hk
    omega
  have key : ∀ m, m ≤ 64 → (∀ k, m ≤ k → x.testBit k = y.testBit k) → ∃ j, j < 64 ∧ x.testBit j ≠ y.testBit j ∧ ∀ k, j < k → x.testBit k = y.testBit k := by
    intro m
    induction m with
    | zero => intro _ hh; exact absurd (Nat.eq_of_testBit_eq (fun k => hh k (Nat.zero_le _))) h
    | succ m ih =>
      intro hm hh
      by_cases e : x.testBit m = y.testBit m
      · refine ih (by omega) (fun k hk => ?_)
        by_cases ek : k = m
        · subst ek; exact e
        · exact hh k (by omega)
      · exact ⟨m, by omega, e, fun k hk => hh k hk⟩
  exact key 64 (Nat.le_refl _) (fun k hk => by rw [big x k hx hk, big y k hy hk])
theorem lt_of_tb {x y : Nat} (j : Nat) (hx : x.testBit j = false) (hy : y.testBit j = true) (h : ∀ k, j < k → x.testBit k = y.testBit k) : x < y := by
  have hd : x / 2 ^ (j + 1) = y / 2 ^ (j + 1) := by
    apply Nat.eq_of_testBit_eq
    intro k
    rw [Nat.testBit_div_two_pow, Nat.testBit_div_two_pow]
    exact h _ (by omega)
  rw [Nat.testBit_eq_decide_div_mod_eq] at hx hy
  simp at hx hy
  have px := Nat.two_pow_pos j
  rw [Nat.pow_succ, ← Nat.div_div_eq_div_mul, ← Nat.div_div_eq_div_mul] at hd
  have dx := Nat.div_add_mod x (2 ^ j)
  have dy := Nat.div_add_mod y (2 ^ j)
  have mx := Nat.mod_lt x px
  have hl : x / 2 ^ j + 1 ≤ y / 2 ^ j := by omega
  have := Nat.mul_le_mul_left (2 ^ j) hl
  rw [Nat.mul_add] at this
  omega
theorem word_lt {x y j : Nat} (hd : x.testBit j ≠ y.testBit j) (h : ∀ k, j < k → x.testBit k = y.testBit k) : (x < y) ↔ x.testBit j = false := by
  constructor
  · intro hl
    cases hx : x.testBit j
    · rfl
    · have hy : y.testBit j = false := by cases hy : y.testBit j <;> simp_all
      have := lt_of_tb j hy hx (fun k hk => (h k hk).symm)
      omega
  · intro hx
    have hy : y.testBit j = true := by cases hy : y.testBit j <;> simp_all
    exact lt_of_tb j hx hy h
theorem cmpW_eq {f g : Nat → Nat} : ∀ {n : Nat}, (∀ i, i < n → f i < 18446744073709551616) → (∀ i, i < n → g i < 18446744073709551616) → cmpW f g n = cmpB (hasB f) (hasB g) (64 * n)
  | 0, _, _ => rfl
  | n + 1, hf, hg => by
    simp only [cmpW]
    by_cases e : f n = g n
    · rw [if_pos e, cmpW_eq (fun i hi => hf i (by omega)) (fun i hi => hg i (by omega)), show 64 * (n + 1) = 64 * n + 64 from by omega]
      refine (cmpB_top (64 * n) 64 (fun x h1 h2 => ?_)).symm
      unfold hasB
      rw [show x / 64 = n from by omega, e]
    · rw [if_neg e]
      obtain ⟨j, hj, hd, ht⟩ := word_top (hf n (by omega)) (hg n (by omega)) e
      have hb : ∀ (u : Nat → Nat) (k : Nat), k < 64 → hasB u (64 * n + k) = (u n).testBit k := fun u k hk => by
        unfold hasB
        rw [show (64 * n + k) / 64 = n from by omega, show (64 * n + k) % 64 = k from by omega]
      rw [cmpB_at (e := 64 * n + j) (by omega) (by rw [hb f j hj, hb g j hj]; exact hd) (fun x h1 h2 => by
        have := ht (x - 64 * n) (by omega)
        rw [← hb f _ (by omega), ← hb g _ (by omega), show 64 * n + (x - 64 * n) = x from by omega] at this
        exact this), hb f j hj]
      have hw := word_lt hd ht
      by_cases hl : f n < g n
      · rw [if_pos hl, hw.1 hl]; simp
      · rw [if_neg hl]
        cases hx : (f n).testBit j
        · exact absurd (hw.2 hx) hl
        · simp
/-- An order. -/
theorem cmpB_neg (P Q : Nat → Bool) : ∀ n, cmpB Q P n = - cmpB P Q n
  | 0 => rfl
  | n + 1 => by
    simp only [cmpB]
    have ih := cmpB_neg P Q n
    cases P n <;> cases Q n <;> simp [ih]
theorem cmpB_self (P : Nat → Bool) : ∀ n, cmpB P P n = 0
  | 0 => rfl
  | n + 1 => by simp [cmpB, cmpB_self P n]
theorem cmpB_one (P Q : Nat → Bool) : ∀ n, cmpB P Q n = 0 ∨ cmpB P Q n = 1 ∨ cmpB P Q n = -1
  | 0 => .inl rfl
  | n + 1 => by
    simp only [cmpB]
    have ih := cmpB_one P Q n
    cases P n <;> cases Q n <;> simp [ih]
theorem cmpB_zero {P Q : Nat → Bool} : ∀ {n : Nat}, cmpB P Q n = 0 ↔ ∀ x, x < n → P x = Q x
  | 0 => by simp [cmpB]
  | n + 1 => by
    simp only [cmpB]
    have ih := cmpB_zero (P := P) (Q := Q) (n := n)
    by_cases e : P n = Q n
    · rw [if_pos e, ih]
      constructor
      · intro h x hx
        by_cases ex : x = n
        · subst ex; exact e
        · exact h x (by omega)
      · intro h x hx; exact h x (by omega)
    · rw [if_neg e]
      constructor
      · intro h; split at h <;> cases h
      · intro h; exact absurd (h n (by omega)) e
theorem cmpB_trans {P Q R : Nat → Bool} : ∀ {n : Nat}, cmpB P Q n ≤ 0 → cmpB Q R n ≤ 0 → cmpB P R n ≤ 0
  | 0, _, _ => by simp [cmpB]
  | n + 1, h, k => by
    simp only [cmpB] at h k ⊢
    have ih := cmpB_trans (P := P) (Q := Q) (R := R) (n := n)
    revert h k
    cases P n <;> cases Q n <;> cases R n <;> simp <;> omega
theorem cmpB_sub {P Q : Nat → Bool} : ∀ {n : Nat}, (∀ x, x < n → P x = true → Q x = true) → cmpB P Q n ≤ 0
  | 0, _ => by simp [cmpB]
  | n + 1, h => by
    simp only [cmpB]
    have ih := cmpB_sub (P := P) (Q := Q) (n := n) (fun x hx => h x (by omega))
    have := h n (by omega)
    revert this
    cases P n <;> cases Q n <;> simp [ih]
open Go.RowKit Go.Deep Go.Shelf
set_option linter.unusedVariables false
attribute [local go_sem] Oper.semAt_some

def cmpI (x y : Int) : Int := if x < y then -1 else if y < x then 1 else 0

open Go.RowKit Go.Deep Go.Shelf
set_option linter.unusedVariables false
attribute [local go_sem] Oper.semAt_some

/-- How two sets stand to one another. -/
def cmpR (s1 : Int) (x1 : List Nat) (s2 : Int) (x2 : List Nat) : Int :=
  if MayS s1 x1 && MayS s2 x2 then (if s1 = s2 then cmpB (hasB (gW x1)) (hasB (gW x2)) s1.toNat else cmpI s1 s2) else 0
theorem cmpR_no1 {s1 : Int} {x1 : List Nat} {s2 : Int} {x2 : List Nat} (h : MayS s1 x1 = false) : cmpR s1 x1 s2 x2 = 0 := by simp [cmpR, h]
theorem cmpR_no2 {s1 : Int} {x1 : List Nat} {s2 : Int} {x2 : List Nat} (h : MayS s2 x2 = false) : cmpR s1 x1 s2 x2 = 0 := by simp [cmpR, h]
theorem cmpR_off {s1 : Int} {x1 : List Nat} {s2 : Int} {x2 : List Nat} (h1 : MayS s1 x1 = true) (h2 : MayS s2 x2 = true) (h : s1 ≠ s2) : cmpR s1 x1 s2 x2 = cmpI s1 s2 := by simp [cmpR, h1, h2, h]
theorem cmpR_same {s : Int} {x1 x2 : List Nat} (h1 : MayS s x1 = true) (h2 : MayS s x2 = true) : cmpR s x1 s x2 = cmpB (hasB (gW x1)) (hasB (gW x2)) s.toNat := by simp [cmpR, h1, h2]
theorem cmpR_words {s : Int} {x1 x2 : List Nat} (o1 : OkW x1) (o2 : OkW x2) (h1 : MayS s x1 = true) (h2 : MayS s x2 = true) : cmpR s x1 s x2 = cmpW (gW x1) (gW x2) (nW s.toNat) := by
  rw [cmpR_same h1 h2, cmpW_eq (fun i _ => gW_ok o1 i) (fun i _ => gW_ok o2 i)]
  have hn : s.toNat ≤ 64 * nW s.toNat := by unfold nW; omega
  obtain ⟨m, hm⟩ : ∃ m, 64 * nW s.toNat = s.toNat + m := ⟨64 * nW s.toNat - s.toNat, by omega⟩
  rw [hm]
  refine (cmpB_top s.toNat m (fun x k1 k2 => ?_)).symm
  have z1 := MayS.zero h1 x k1 (by rw [MayS.len h1]; omega)
  have z2 := MayS.zero h2 x k1 (by rw [MayS.len h2]; omega)
  exact z1.trans z2.symm
theorem cmpW_all {f g : Nat → Nat} : ∀ {n : Nat}, (∀ i, i < n → f i = g i) → cmpW f g n = 0
  | 0, _ => rfl
  | n + 1, h => by simp only [cmpW]; rw [if_pos (h n (by omega))]; exact cmpW_all (fun i hi => h i (by omega))
theorem cmpW_at {f g : Nat → Nat} {i : Nat} (hd : f i ≠ g i) : ∀ {n : Nat}, i < n → (∀ j, i < j → j < n → f j = g j) → cmpW f g n = cmpI (f i) (g i)
  | 0, h, _ => by omega
  | n + 1, hi, h => by
    simp only [cmpW]
    by_cases e : i = n
    · subst e
      rw [if_neg hd]
      unfold cmpI
      by_cases hl : f i < g i
      · rw [if_pos hl, if_pos (by omega)]
      · rw [if_neg hl, if_neg (by omega), if_pos (by omega)]
    · rw [if_pos (h n (by omega) (by omega))]
      exact cmpW_at hd (by omega) (fun j h1 h2 => h j h1 (by omega))

end Go.Proofs.YtbendkndnojihabDoor

namespace Go.Proofs.YtbendkndnojihabDoor
set_option linter.unusedVariables false

theorem cmpI_neg (x y : Int) : cmpI y x = - cmpI x y := by
  unfold cmpI
  by_cases h1 : x < y
  · rw [if_neg (by omega), if_pos h1, if_pos h1]; rfl
  · by_cases h2 : y < x
    · rw [if_pos h2, if_neg h1, if_pos h2]
    · rw [if_neg h2, if_neg h1, if_neg h1, if_neg h2]; rfl
theorem cmpI_one (x y : Int) : cmpI x y = 0 ∨ cmpI x y = 1 ∨ cmpI x y = -1 := by
  unfold cmpI
  by_cases h1 : x < y
  · rw [if_pos h1]; simp
  · rw [if_neg h1]
    by_cases h2 : y < x
    · rw [if_pos h2]; simp
    · rw [if_neg h2]; simp
theorem cmpI_le (x y : Int) : cmpI x y ≤ 0 ↔ x ≤ y := by
  unfold cmpI
  by_cases h1 : x < y
  · rw [if_pos h1]; omega
  · rw [if_neg h1]
    by_cases h2 : y < x
    · rw [if_pos h2]; omega
    · rw [if_neg h2]; omega

section
variable {s1 : Int} {x1 : List Nat} {s2 : Int} {x2 : List Nat} {s3 : Int} {x3 : List Nat}
theorem cmpR_neg : cmpR s2 x2 s1 x1 = - cmpR s1 x1 s2 x2 := by
  unfold cmpR
  rw [Bool.and_comm]
  cases h : (MayS s1 x1 && MayS s2 x2)
  · simp
  · simp only [if_true]
    by_cases e : s1 = s2
    · subst e; simp only [if_true]; exact cmpB_neg _ _ _
    · rw [if_neg e, if_neg (fun h => e h.symm)]; exact cmpI_neg _ _
theorem cmpR_one : cmpR s1 x1 s2 x2 = 0 ∨ cmpR s1 x1 s2 x2 = 1 ∨ cmpR s1 x1 s2 x2 = -1 := by
  unfold cmpR
  split
  · split
    · exact cmpB_one _ _ _
    · exact cmpI_one _ _
  · exact .inl rfl
theorem cmpR_self : cmpR s1 x1 s1 x1 = 0 := by
  unfold cmpR
  split
  · rw [if_pos rfl]; exact cmpB_self _ _
  · rfl
theorem cmpR_le (h1 : MayS s1 x1 = true) (h2 : MayS s2 x2 = true) : cmpR s1 x1 s2 x2 ≤ 0 ↔ s1 < s2 ∨ (s1 = s2 ∧ cmpB (hasB (gW x1)) (hasB (gW x2)) s1.toNat ≤ 0) := by
  by_cases e : s1 = s2
  · subst e
    rw [cmpR_same h1 h2]
    constructor
    · intro h; exact .inr ⟨rfl, h⟩
    · intro h; rcases h with h | h
      · omega
      · exact h.2
  · rw [cmpR_off h1 h2 e, cmpI_le]
    constructor
    · intro h; exact .inl (by omega)
    · intro h; rcases h with h | h
      · omega
      · exact absurd h.1 e
theorem cmpR_trans (h1 : MayS s1 x1 = true) (h2 : MayS s2 x2 = true) (h3 : MayS s3 x3 = true) (k1 : cmpR s1 x1 s2 x2 ≤ 0) (k2 : cmpR s2 x2 s3 x3 ≤ 0) : cmpR s1 x1 s3 x3 ≤ 0 := by
  rw [cmpR_le h1 h2] at k1
  rw [cmpR_le h2 h3] at k2
  rw [cmpR_le h1 h3]
  rcases k1 with k1 | ⟨e1, k1⟩
  · rcases k2 with k2 | ⟨e2, k2⟩
    · exact .inl (by omega)
    · exact .inl (by omega)
  · rcases k2 with k2 | ⟨e2, k2⟩
    · exact .inl (by omega)
    · subst e1; subst e2
      exact .inr ⟨rfl, cmpB_trans k1 k2⟩
theorem cmpR_zero (h1 : MayS s1 x1 = true) (h2 : MayS s2 x2 = true) (h : cmpR s1 x1 s2 x2 = 0) : s1 = s2 ∧ ∀ x, x < s1.toNat → hasB (gW x1) x = hasB (gW x2) x := by
  by_cases e : s1 = s2
  · subst e
    rw [cmpR_same h1 h2, cmpB_zero] at h
    exact ⟨rfl, h⟩
  · rw [cmpR_off h1 h2 e] at h
    unfold cmpI at h
    split at h
    · cases h
    · split at h
      · cases h
      · omega
theorem cmpR_alike (h1 : MayS s1 x1 = true) (h2 : MayS s2 x2 = true) (h3 : MayS s3 x3 = true) (h : cmpR s1 x1 s2 x2 = 0) : cmpR s1 x1 s3 x3 = cmpR s2 x2 s3 x3 := by
  obtain ⟨rfl, hx⟩ := cmpR_zero h1 h2 h
  by_cases e : s1 = s3
  · subst e
    rw [cmpR_same h1 h3, cmpR_same h2 h3]
    exact cmpB_congr hx (fun _ _ => rfl)
  · rw [cmpR_off h1 h3 e, cmpR_off h2 h3 e]
theorem equal_cmp (o1 : OkW x1) (o2 : OkW x2) (h1 : MayS s1 x1 = true) (h2 : MayS s2 x2 = true) : leavesR jXor s1 x1 s2 x2 = decide (cmpR s1 x1 s2 x2 = 0) := by
  by_cases e : s1 = s2
  · subst e
    rw [leaves_bits (op := fun x y => x != y) jXor_bits rfl o1 o2 h1 h2, cmpR_same h1 h2, Bool.eq_iff_iff, decide_eq_true_eq, cmpB_zero]
    simp
  · rw [leaves_no (fun _ _ h => e h), cmpR_off h1 h2 e]
    symm
    rw [decide_eq_false_iff_not]
    unfold cmpI
    split
    · omega
    · split
      · omega
      · omega
theorem subset_cmp (o1 : OkW x1) (o2 : OkW x2) (h1 : MayS s1 x1 = true) (h2 : MayS s2 x2 = true) (h : leavesR jAndNot s1 x1 s2 x2 = true) : cmpR s1 x1 s2 x2 ≤ 0 := by
  by_cases e : s1 = s2
  · subst e
    rw [leaves_bits (op := fun x y => x && !y) jAndNot_bits rfl o1 o2 h1 h2] at h
    rw [cmpR_same h1 h2]
    refine cmpB_sub (fun x hx hp => ?_)
    have := List.all_eq_true.1 h x (List.mem_range.2 hx)
    rw [hp] at this
    simpa using this
  · rw [leaves_no (fun _ _ h => e h)] at h
    cases h
end
end Go.Proofs.YtbendkndnojihabDoor

namespace Go.Proofs.YtbendkndnojihabDoor
open Go.RowKit Go.Deep
set_option linter.unusedVariables false

end Go.Proofs.YtbendkndnojihabDoor
