/-
  ORDERS: the buckets as lists, plain; taking and shifting in them.
-/
import Derived.Test.YtppdpdkldokacaaCp7
namespace Go.Proofs.Ytppdpdkldokacaa
open Go.Shelf Go.RowKit Go.Deep
set_option linter.unusedVariables false

/-- The numbers below n that are so. -/
def filL (n : Nat) (P : Nat → Bool) : List Int := ((List.range n).filter P).map (fun q : Nat => (q : Int))
/-- Those from a on. -/
def filH (a n : Nat) (P : Nat → Bool) : List Int := ((List.range' a (n - a)).filter P).map (fun q : Nat => (q : Int))
theorem filL_split {n r : Nat} (P : Nat → Bool) (h : r < n) : filL n P = filL r P ++ ((if P r then [(r : Int)] else []) ++ filH (r + 1) n P) := by
  have e : List.range n = List.range r ++ ([r] ++ List.range' (r + 1) (n - (r + 1))) := by
    rw [List.range_eq_range', List.range_eq_range', show ([r] : List Nat) = List.range' r 1 from rfl, List.range'_append_1]
    have := List.range'_append_1 (s := 0) (m := r) (n := 1 + (n - (r + 1)))
    rw [Nat.zero_add] at this
    rw [this]
    congr 1
    omega
  unfold filL filH
  rw [e, List.filter_append, List.filter_append, List.map_append, List.map_append]
  congr 2
  by_cases hp : P r
  · simp [hp]
  · simp [hp]
theorem filL_len (n : Nat) (P : Nat → Bool) : (filL n P).length ≤ n := by
  unfold filL
  rw [List.length_map]
  have := List.length_filter_le P (List.range n)
  simpa using this
theorem filL_congr {n : Nat} {P Q : Nat → Bool} (h : ∀ q, q < n → P q = Q q) : filL n P = filL n Q := by
  unfold filL
  rw [List.filter_congr (fun x hx => h x (by simpa using hx))]
theorem filH_congr {a n : Nat} {P Q : Nat → Bool} (h : ∀ q, a ≤ q → q < n → P q = Q q) : filH a n P = filH a n Q := by
  unfold filH
  rw [List.filter_congr (fun x hx => by
    have := List.mem_range'_1.1 hx
    exact h x (by omega) (by omega))]
theorem filL_up (n : Nat) (P : Nat → Bool) : UpS (filL n P) (filL n P).length := by
  intro i h1 h2
  have hp : List.Pairwise (fun a b : Int => a < b) (filL n P) := by
    unfold filL
    rw [List.pairwise_map]
    exact (List.Pairwise.filter P List.pairwise_lt_range).imp (fun {a b} h => by omega)
  have := List.pairwise_iff_getElem.1 hp (i - 1) i (by omega) h2 (by omega)
  simpa [List.getD, List.getElem?_eq_getElem h2, List.getElem?_eq_getElem (show i - 1 < (filL n P).length by omega)] using this
theorem filL_lt {r : Nat} {P : Nat → Bool} {x : Int} (h : x ∈ filL r P) : x < (r : Int) := by
  obtain ⟨q, hq, rfl⟩ := List.mem_map.1 h
  have := (List.mem_filter.1 hq).1
  have := List.mem_range.1 this
  omega
theorem filH_ge {a n : Nat} {P : Nat → Bool} {x : Int} (h : x ∈ filH a n P) : (a : Int) ≤ x := by
  obtain ⟨q, hq, rfl⟩ := List.mem_map.1 h
  have := (List.mem_filter.1 hq).1
  have := List.mem_range'_1.1 this
  omega
theorem fil_bs {n r : Nat} (P : Nat → Bool) (h : r < n) : BsP (filL n P) (filL n P).length (r : Int) (filL r P).length := by
  have e := filL_split P h
  have hl : (filL r P).length ≤ (filL n P).length := by rw [e, List.length_append]; omega
  refine ⟨hl, fun k hk => ?_, fun k h1 h2 => ?_⟩
  · have hk2 : (filL n P).getD k 0 = (filL r P)[k] := by
      rw [e]
      simp [List.getD, List.getElem?_append_left hk, List.getElem?_eq_getElem hk]
    rw [hk2]
    exact filL_lt (List.getElem_mem hk)
  · have hk2 : (filL n P).getD k 0 ∈ (if P r then [(r : Int)] else []) ++ filH (r + 1) n P := by
      rw [e] at h2 ⊢
      rw [List.length_append] at h2
      simp only [List.getD]
      rw [List.getElem?_append_right h1, List.getElem?_eq_getElem (by omega)]
      exact List.getElem_mem _
    rcases List.mem_append.1 hk2 with hm | hm
    · by_cases hp : P r
      · rw [hp] at hm
        have : (filL n P).getD k 0 = (r : Int) := by simpa using hm
        omega
      · simp [hp] at hm
    · have := filH_ge hm
      omega
/-- Taken out. -/
theorem fil_out {n r : Nat} {P Q : Nat → Bool} (h : r < n) (hp : P r = true) (hq : Q r = false) (he : ∀ q, q < n → q ≠ r → Q q = P q) : (filL r P).length < (filL n P).length ∧ HasX (filL n P) (filL n P).length (r : Int) ∧ (filL n P).eraseIdx (filL r P).length = filL n Q := by
  have e1 := filL_split P h
  have e2 := filL_split Q h
  rw [hp] at e1
  rw [hq] at e2
  rw [filL_congr (n := r) (P := Q) (Q := P) (fun q hq => he q (by omega) (by omega)), filH_congr (a := r + 1) (n := n) (P := Q) (Q := P) (fun q h1 h2 => he q h2 (by omega))] at e2
  simp only [if_true, List.singleton_append] at e1
  simp only [Bool.false_eq_true, if_false, List.nil_append] at e2
  refine ⟨by rw [e1]; simp, ⟨(filL r P).length, by rw [e1]; simp, by rw [e1]; simp [List.getD]⟩, ?_⟩
  rw [e2, e1, List.eraseIdx_append_of_length_le (Nat.le_refl _)]
  simp
/-- Put in. -/
theorem fil_in {n r : Nat} {P Q : Nat → Bool} (h : r < n) (hp : P r = false) (hq : Q r = true) (he : ∀ q, q < n → q ≠ r → Q q = P q) : putL (filL n P) (filL r P).length (r : Int) = filL n Q := by
  have e1 := filL_split P h
  have e2 := filL_split Q h
  rw [hp] at e1
  rw [hq] at e2
  rw [filL_congr (n := r) (P := Q) (Q := P) (fun q hq => he q (by omega) (by omega)), filH_congr (a := r + 1) (n := n) (P := Q) (Q := P) (fun q h1 h2 => he q h2 (by omega))] at e2
  simp only [if_true, List.singleton_append] at e2
  simp only [Bool.false_eq_true, if_false, List.nil_append] at e1
  rw [e2, e1]
  unfold putL
  simp
/-- The first one. -/
theorem fil_first {n r : Nat} {P Q : Nat → Bool} (h : r < n) (hp : P r = true) (hlo : ∀ q, q < r → P q = false) (hq : Q r = false) (he : ∀ q, q < n → q ≠ r → Q q = P q) : filL n P = (r : Int) :: filL n Q := by
  have e1 := filL_split P h
  have e2 := filL_split Q h
  have e0 : filL r P = [] := by
    unfold filL
    rw [List.map_eq_nil_iff, List.filter_eq_nil_iff]
    intro q hq2
    rw [hlo q (by simpa using hq2)]
    simp
  rw [hp, e0] at e1
  rw [hq] at e2
  rw [filL_congr (n := r) (P := Q) (Q := P) (fun q hq => he q (by omega) (by omega)), e0, filH_congr (a := r + 1) (n := n) (P := Q) (Q := P) (fun q h1 h2 => he q h2 (by omega))] at e2
  simp only [if_true, List.nil_append, List.singleton_append] at e1
  simp only [Bool.false_eq_true, if_false, List.nil_append] at e2
  rw [e1, e2]
theorem fil_none {n : Nat} {P : Nat → Bool} (h : ∀ q, q < n → P q = false) : filL n P = [] := by
  unfold filL
  rw [List.map_eq_nil_iff, List.filter_eq_nil_iff]
  intro q hq
  rw [h q (by simpa using hq)]
  simp
theorem bkF_fil (br ct : Nat → Nat) (c : Nat) : ∀ k, bkF br ct k c = filL k (fun r => decide (ct (br r) = c))
  | 0 => rfl
  | k + 1 => by
    have ih := bkF_fil br ct c k
    simp only [bkF]
    unfold filL at *
    rw [List.range_succ, List.filter_append, List.map_append, ← ih]
    by_cases e : c = ct (br k)
    · simp [e]
    · have e' : ¬ ct (br k) = c := fun x => e x.symm
      simp [e, e']
theorem rkF_at (br : Nat → Nat) : ∀ (k r : Nat), r < k → (∀ a b, a < k → b < k → br a = br b → a = b) → rkF br k (br r) = (r : Int)
  | 0, r, h, _ => absurd h (Nat.not_lt_zero r)
  | k + 1, r, h, inj => by
    simp only [rkF]
    by_cases e : r = k
    · subst e; simp
    · have : ¬ br r = br k := fun x => e (inj r k h (by omega) x)
      rw [if_neg this]
      exact rkF_at br k r (by omega) (fun a b ha hb => inj a b (by omega) (by omega))
end Go.Proofs.Ytppdpdkldokacaa
