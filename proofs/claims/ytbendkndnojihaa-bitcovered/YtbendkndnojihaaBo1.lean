/-
  THE ORDER OF SETS: what BitOrder asks, plain.
-/
import Derived.Test.YtbendkndnojihaaBc4
namespace Go.Proofs.Ytbendkndnojihaa
set_option linter.unusedVariables false

theorem cmpI_neg (x y : Int) : cmpI y x = - cmpI x y := by
  unfold cmpI
  by_cases h1 : x < y
  · rw [if_neg (by omega), if_pos h1, if_pos h1]; rfl
  · by_cases h2 : y < x
    · rw [if_pos h2, if_neg h1, if_pos h2]
    · rw [if_neg h2, if_neg h1, if_neg h1, if_neg h2]; rfl
theorem cmpI_one (x y : Int) : cmpI x y = 0 ∨ cmpI x y = 1 ∨ cmpI x y = -1 := by
  unfold cmpI
  by_cases h1 : x < y
  · rw [if_pos h1]; simp
  · rw [if_neg h1]
    by_cases h2 : y < x
    · rw [if_pos h2]; simp
    · rw [if_neg h2]; simp
theorem cmpI_le (x y : Int) : cmpI x y ≤ 0 ↔ x ≤ y := by
  unfold cmpI
  by_cases h1 : x < y
  · rw [if_pos h1]; omega
  · rw [if_neg h1]
    by_cases h2 : y < x
    · rw [if_pos h2]; omega
    · rw [if_neg h2]; omega

section
variable {s1 : Int} {x1 : List Nat} {s2 : Int} {x2 : List Nat} {s3 : Int} {x3 : List Nat}
theorem cmpR_neg : cmpR s2 x2 s1 x1 = - cmpR s1 x1 s2 x2 := by
  unfold cmpR
  rw [Bool.and_comm]
  cases h : (MayS s1 x1 && MayS s2 x2)
  · simp
  · simp only [if_true]
    by_cases e : s1 = s2
    · subst e; simp only [if_true]; exact cmpB_neg _ _ _
    · rw [if_neg e, if_neg (fun h => e h.symm)]; exact cmpI_neg _ _
theorem cmpR_one : cmpR s1 x1 s2 x2 = 0 ∨ cmpR s1 x1 s2 x2 = 1 ∨ cmpR s1 x1 s2 x2 = -1 := by
  unfold cmpR
  split
  · split
    · exact cmpB_one _ _ _
    · exact cmpI_one _ _
  · exact .inl rfl
theorem cmpR_self : cmpR s1 x1 s1 x1 = 0 := by
  unfold cmpR
  split
  · rw [if_pos rfl]; exact cmpB_self _ _
  · rfl
theorem cmpR_le (h1 : MayS s1 x1 = true) (h2 : MayS s2 x2 = true) : cmpR s1 x1 s2 x2 ≤ 0 ↔ s1 < s2 ∨ (s1 = s2 ∧ cmpB (hasB (gW x1)) (hasB (gW x2)) s1.toNat ≤ 0) := by
  by_cases e : s1 = s2
  · subst e
    rw [cmpR_same h1 h2]
    constructor
    · intro h; exact .inr ⟨rfl, h⟩
    · intro h; rcases h with h | h
      · omega
      · exact h.2
  · rw [cmpR_off h1 h2 e, cmpI_le]
    constructor
    · intro h; exact .inl (by omega)
    · intro h; rcases h with h | h
      · omega
      · exact absurd h.1 e
theorem cmpR_trans (h1 : MayS s1 x1 = true) (h2 : MayS s2 x2 = true) (h3 : MayS s3 x3 = true) (k1 : cmpR s1 x1 s2 x2 ≤ 0) (k2 : cmpR s2 x2 s3 x3 ≤ 0) : cmpR s1 x1 s3 x3 ≤ 0 := by
  rw [cmpR_le h1 h2] at k1
  rw [cmpR_le h2 h3] at k2
  rw [cmpR_le h1 h3]
  rcases k1 with k1 | ⟨e1, k1⟩
  · rcases k2 with k2 | ⟨e2, k2⟩
    · exact .inl (by omega)
    · exact .inl (by omega)
  · rcases k2 with k2 | ⟨e2, k2⟩
    · exact .inl (by omega)
    · subst e1; subst e2
      exact .inr ⟨rfl, cmpB_trans k1 k2⟩
theorem cmpR_zero (h1 : MayS s1 x1 = true) (h2 : MayS s2 x2 = true) (h : cmpR s1 x1 s2 x2 = 0) : s1 = s2 ∧ ∀ x, x < s1.toNat → hasB (gW x1) x = hasB (gW x2) x := by
  by_cases e : s1 = s2
  · subst e
    rw [cmpR_same h1 h2, cmpB_zero] at h
    exact ⟨rfl, h⟩
  · rw [cmpR_off h1 h2 e] at h
    unfold cmpI at h
    split at h
    · cases h
    · split at h
      · cases h
      · omega
theorem cmpR_alike (h1 : MayS s1 x1 = true) (h2 : MayS s2 x2 = true) (h3 : MayS s3 x3 = true) (h : cmpR s1 x1 s2 x2 = 0) : cmpR s1 x1 s3 x3 = cmpR s2 x2 s3 x3 := by
  obtain ⟨rfl, hx⟩ := cmpR_zero h1 h2 h
  by_cases e : s1 = s3
  · subst e
    rw [cmpR_same h1 h3, cmpR_same h2 h3]
    exact cmpB_congr hx (fun _ _ => rfl)
  · rw [cmpR_off h1 h3 e, cmpR_off h2 h3 e]
theorem equal_cmp (o1 : OkW x1) (o2 : OkW x2) (h1 : MayS s1 x1 = true) (h2 : MayS s2 x2 = true) : leavesR jXor s1 x1 s2 x2 = decide (cmpR s1 x1 s2 x2 = 0) := by
  by_cases e : s1 = s2
  · subst e
    rw [leaves_bits (op := fun x y => x != y) jXor_bits rfl o1 o2 h1 h2, cmpR_same h1 h2, Bool.eq_iff_iff, decide_eq_true_eq, cmpB_zero]
    simp
  · rw [leaves_no (fun _ _ h => e h), cmpR_off h1 h2 e]
    symm
    rw [decide_eq_false_iff_not]
    unfold cmpI
    split
    · omega
    · split
      · omega
      · omega
theorem subset_cmp (o1 : OkW x1) (o2 : OkW x2) (h1 : MayS s1 x1 = true) (h2 : MayS s2 x2 = true) (h : leavesR jAndNot s1 x1 s2 x2 = true) : cmpR s1 x1 s2 x2 ≤ 0 := by
  by_cases e : s1 = s2
  · subst e
    rw [leaves_bits (op := fun x y => x && !y) jAndNot_bits rfl o1 o2 h1 h2] at h
    rw [cmpR_same h1 h2]
    refine cmpB_sub (fun x hx hp => ?_)
    have := List.all_eq_true.1 h x (List.mem_range.2 hx)
    rw [hp] at this
    simpa using this
  · rw [leaves_no (fun _ _ h => e h)] at h
    cases h
end
end Go.Proofs.Ytbendkndnojihaa
