/-
  WAYS, plain: what Warshall's rounds come to; bitset.Closure by predicates: contracts.
-/
import Derived.Test.YtbendkndnojihabDoorBxe
import Derived.Test.YtbendkndnojihabDoorBxf
namespace Go.Proofs.YtbendkndnojihabDoor
open Go.RowKit Go.Deep
set_option linter.unusedVariables false

theorem waP_up {P : Nat → Nat → Bool} {k i j : Nat} (h : waP P k i j = true) : waP P (k + 1) i j = true := by
  show (waP P k i j || (waP P k i k && waP P k k j)) = true
  rw [h]; rfl
theorem waP_le {P : Nat → Nat → Bool} {k i j : Nat} (h : waP P k i j = true) : ∀ d, waP P (k + d) i j = true
  | 0 => h
  | d + 1 => waP_up (waP_le h d)
theorem waP_or {P : Nat → Nat → Bool} {k i j : Nat} (h : waP P (k + 1) i j = true) : waP P k i j = true ∨ (waP P k i k = true ∧ waP P k k j = true) := by
  have h2 : (waP P k i j || (waP P k i k && waP P k k j)) = true := h
  simpa using h2
theorem waP_of {P : Nat → Nat → Bool} {k i j : Nat} (h : waP P k i k = true) (h2 : waP P k k j = true) : waP P (k + 1) i j = true := by
  show (waP P k i j || (waP P k i k && waP P k k j)) = true
  rw [h, h2]; simp
theorem waP_sub {P Q : Nat → Nat → Bool} (h : ∀ i j, P i j = true → Q i j = true) : ∀ k i j, waP P k i j = true → waP Q k i j = true
  | 0, i, j, hh => h i j hh
  | k + 1, i, j, hh => by
    rcases waP_or hh with a | ⟨a, b⟩
    · exact waP_up (waP_sub h k i j a)
    · exact waP_of (waP_sub h k i k a) (waP_sub h k k j b)
theorem waP_trans {P : Nat → Nat → Bool} : ∀ k i j m, m < k → waP P k i m = true → waP P k m j = true → waP P k i j = true
  | 0, i, j, m, hm, _, _ => by omega
  | k + 1, i, j, m, hm, h1, h2 => by
    by_cases e : m = k
    · subst e
      rw [waP_row] at h2
      refine waP_of ?_ h2
      rcases waP_or h1 with a | ⟨a, _⟩ <;> exact a
    · have hk : m < k := by omega
      rcases waP_or h1 with a | ⟨a, b⟩
      · rcases waP_or h2 with c | ⟨c, d⟩
        · exact waP_up (waP_trans k i j m hk a c)
        · exact waP_of (waP_trans k i k m hk a c) d
      · rcases waP_or h2 with c | ⟨c, d⟩
        · exact waP_of a (waP_trans k k j m hk b c)
        · exact waP_of a d
theorem waP_zero {P : Nat → Nat → Bool} {n : Nat} (hz : ∀ i x, n ≤ x → P i x = false) : ∀ k i x, n ≤ x → waP P k i x = false
  | 0, i, x, hx => hz i x hx
  | k + 1, i, x, hx => by
    show (waP P k i x || (waP P k i k && waP P k k x)) = false
    rw [waP_zero hz k i x hx, waP_zero hz k k x hx]; simp
theorem waP_out {P : Nat → Nat → Bool} {n : Nat} (ho : ∀ i x, n ≤ i → P i x = false) : ∀ k i x, n ≤ i → waP P k i x = false
  | 0, i, x, hx => ho i x hx
  | k + 1, i, x, hx => by
    show (waP P k i x || (waP P k i k && waP P k k x)) = false
    rw [waP_out ho k i x hx, waP_out ho k i k hx]; simp
theorem waP_congr {P Q : Nat → Nat → Bool} {n N : Nat} (hN : n ≤ N) (h : ∀ i j, i < n → j < N → P i j = Q i j) : ∀ k, k ≤ n → ∀ i j, i < n → j < N → waP P k i j = waP Q k i j
  | 0, _, i, j, hi, hj => h i j hi hj
  | k + 1, hk, i, j, hi, hj => by
    show (waP P k i j || (waP P k i k && waP P k k j)) = (waP Q k i j || (waP Q k i k && waP Q k k j))
    rw [waP_congr hN h k (by omega) i j hi hj, waP_congr hN h k (by omega) i k hi (by omega), waP_congr hN h k (by omega) k j (by omega) hj]
/-- What is closed. -/
structure Ways (n : Nat) (P C : Nat → Nat → Bool) : Prop where
  sub : ∀ i j, P i j = true → C i j = true
  trans : ∀ i e j, C i e = true → C e j = true → C i j = true
  step : ∀ i j, C i j = true → P i j = true ∨ ∃ e, e < n ∧ P i e = true ∧ C e j = true
theorem ways_of {n : Nat} {P : Nat → Nat → Bool} (hz : ∀ i x, n ≤ x → P i x = false) (ho : ∀ i x, n ≤ i → P i x = false) : Ways n P (waP P n) := by
  have tr : ∀ i e j, waP P n i e = true → waP P n e j = true → waP P n i j = true := fun i e j h1 h2 => by
    rcases Nat.lt_or_ge e n with c | c
    · exact waP_trans n i j e c h1 h2
    · rw [waP_zero hz n i e c] at h1; cases h1
  have up : ∀ k, k ≤ n → ∀ i j, waP P k i j = true → waP P n i j = true := fun k hk i j h => by
    have := waP_le h (n - k)
    rwa [show k + (n - k) = n from by omega] at this
  refine ⟨fun i j h => up 0 (by omega) i j h, tr, fun i j h => ?_⟩
  have key : ∀ k, k ≤ n → ∀ i j, waP P k i j = true → P i j = true ∨ ∃ e, e < n ∧ P i e = true ∧ waP P n e j = true := by
    intro k
    induction k with
    | zero => intro _ i j h; exact .inl h
    | succ k ih =>
      intro hk i j h
      rcases waP_or h with a | ⟨a, b⟩
      · exact ih (by omega) i j a
      · rcases ih (by omega) i k a with c | ⟨e, he, c1, c2⟩
        · exact .inr ⟨k, by omega, c, up k (by omega) k j b⟩
        · exact .inr ⟨e, he, c1, tr e k j c2 (up k (by omega) k j b)⟩
  exact key n (Nat.le_refl _) i j h
theorem Ways.one {n : Nat} {P C : Nat → Nat → Bool} (h : Ways n P C) (i j : Nat) : (P i j || prG n P C i j) = C i j := by
  rw [Bool.eq_iff_iff]
  simp only [prG, Bool.or_eq_true, List.any_eq_true, List.mem_range, Bool.and_eq_true]
  constructor
  · rintro (a | ⟨e, _, a, b⟩)
    · exact h.sub i j a
    · exact h.trans i e j (h.sub i e a) b
  · exact h.step i j
theorem Ways.two {n : Nat} {P C : Nat → Nat → Bool} (h : Ways n P C) (i j : Nat) (hh : prG n C C i j = true) : C i j = true := by
  simp only [prG, List.any_eq_true, List.mem_range, Bool.and_eq_true] at hh
  obtain ⟨e, _, a, b⟩ := hh
  exact h.trans i e j a b
theorem Ways.still {n : Nat} {P C : Nat → Nat → Bool} (h : Ways n P C) : ∀ k, waP C k = C
  | 0 => rfl
  | k + 1 => by
    funext i j
    show (waP C k i j || (waP C k i k && waP C k k j)) = C i j
    rw [h.still k]
    cases hc : C i j
    · cases ha : C i k
      · rfl
      · cases hb : C k j
        · rfl
        · rw [h.trans i k j ha hb] at hc; cases hc
    · rfl
/-- A chain of m numbers. -/
def chP (m i j : Nat) : Bool := decide (j = i + 1) && decide (j < m)
theorem chain_ways (m i j : Nat) : waP (chP m) m i j = (decide (i < j) && decide (j < m)) := by
  have hz : ∀ i x, m ≤ x → chP m i x = false := fun i x hx => by simp [chP, show ¬ x < m from by omega]
  have ho : ∀ i x, m ≤ i → chP m i x = false := fun i x hx => by
    unfold chP
    by_cases c : x = i + 1
    · simp [show ¬ x < m from by omega]
    · simp [c]
  have W := ways_of hz ho
  rw [Bool.eq_iff_iff]
  simp only [Bool.and_eq_true, decide_eq_true_eq]
  constructor
  · intro h
    have sound : ∀ k i j, waP (chP m) k i j = true → i < j ∧ j < m := by
      intro k
      induction k with
      | zero =>
        intro i j h
        have h2 : (decide (j = i + 1) && decide (j < m)) = true := h
        simp at h2
        omega
      | succ k ih =>
        intro i j h
        rcases waP_or h with a | ⟨a, b⟩
        · exact ih i j a
        · have x := ih i k a
          have y := ih k j b
          omega
    exact sound m i j h
  · rintro ⟨h1, h2⟩
    have comp : ∀ d i, i + d + 1 < m → waP (chP m) m i (i + d + 1) = true := by
      intro d
      induction d with
      | zero => intro i hi; exact W.sub i (i + 0 + 1) (by simp [chP]; omega)
      | succ d ih =>
        intro i hi
        refine W.trans i (i + 1) (i + (d + 1) + 1) (W.sub _ _ (by simp [chP]; omega)) ?_
        have := ih (i + 1) (by omega)
        rwa [show i + 1 + d + 1 = i + (d + 1) + 1 from by omega] at this
    have := comp (j - i - 1) i (by omega)
    rwa [show i + (j - i - 1) + 1 = j from by omega] at this

theorem closure_good (n : Nat) (a : Option Addr) (c : Nat) (L : List SetC) (P : Nat → Nat → Bool) (w : World) (h : SlS w a n c L) (g : GoodT n n L P) :
    Calls Tryd.prog 9 #[setV n a n c] w fun r w' => ResN w w' n n (tabK n n (waP P n)) 0 r := by
  refine (closure_yes a n c L w h g.may g.hn).mono ?_
  rintro _ w' ⟨v, rfl, F, h1, h2⟩
  have e : ∀ i, i < n → RepB (nW n) (F i) (waP P n i) := fun i hi => (h2 i hi).congr (fun _ _ => rfl) (fun y hy =>
    waP_congr (N := 64 * nW n) (by unfold nW; omega) (fun i j hi hj => g.inT i j hi hj) n (Nat.le_refl _) i y hi hy)
  exact h1.resN e g.hn
theorem GoodT.closure {n : Nat} {L M : List SetC} {P : Nat → Nat → Bool} (g : GoodT n n L P) (h : M.map SetC.key = tabK n n (waP P n)) : GoodT n n M (waP P n) := ⟨h, fun i x hx => waP_zero g.zero n i x hx, fun i x hx => waP_out g.out n i x hx, g.hn, g.hs⟩
theorem closure_bad (s : Int) (n : Nat) (a : Option Addr) (c : Nat) (L : List SetC) (w : World) (h : SlS w a n c L) (hno : sqE s L ≠ 0) :
    Calls Tryd.prog 9 #[setV s a n c] w fun r w' => ResN w w' 0 0 [] (sqE s L) r := by
  refine (closure_no s a n c L w h hno).mono ?_
  rintro _ w' ⟨rfl, hb⟩
  exact resN_zero hb
end Go.Proofs.YtbendkndnojihabDoor
