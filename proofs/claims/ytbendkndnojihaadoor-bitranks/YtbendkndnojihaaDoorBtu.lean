/-
  bitset.Union, Inter: contracts.
-/
import Derived.Test.YtbendkndnojihaaDoorBtg0
import Derived.Test.YtbendkndnojihaaDoorBtq
import Derived.Test.YtbendkndnojihaaDoorBtt
namespace Go.Proofs.YtbendkndnojihaaDoor
open Go.RowKit Go.Deep
set_option linter.unusedVariables false

theorem fold_or (p : SetC → Bool) : ∀ (L : List SetC) (a : Bool), L.foldl (fun acc e => op_or acc (p e)) a = (a || L.any p)
  | [], a => by simp
  | e :: L, a => by rw [List.foldl_cons, fold_or p L, List.any_cons]; unfold op_or; rw [Bool.or_assoc]
theorem fold_and (p : SetC → Bool) : ∀ (L : List SetC) (a : Bool), L.foldl (fun acc e => op_and acc (p e)) a = (a && L.all p)
  | [], a => by simp
  | e :: L, a => by rw [List.foldl_cons, fold_and p L, List.all_cons]; unfold op_and; rw [Bool.and_assoc]
theorem joined_or_many (size : Int) (L : List SetC) : joinedR op_or false size L = manyR size L false := by
  unfold joinedR manyR
  by_cases h : alikeE size L = 0
  · simp only [if_pos h]
    congr 2
    obtain ⟨h1, h2⟩ := alike_zero h
    apply wordsL_congr
    intro x hx
    have e : PJ op_or false size.toNat L x = L.any (hasS x) := by
      unfold PJ
      rw [show (fun (acc : Bool) (e : SetC) => op_or acc (hasB (fun i => e.xs.getD i 0) x)) = (fun acc e => op_or acc (hasS x e)) from rfl, fold_or]
      simp
    rw [e]
    simp only [manyB]
    by_cases hs : x < size.toNat
    · simp [hs]
    · have : L.any (hasS x) = false := by
        rw [List.any_eq_false]
        intro y hy hh
        obtain ⟨m1, m2⟩ := h2 y hy
        have hz := MayS.zero m1 x (by rw [m2]; omega) (by rw [MayS.len m1, m2]; exact hx)
        unfold hasS at hh
        rw [hz] at hh
        cases hh
      rw [this]; simp
  · simp only [if_neg h]
theorem joined_and_many (size : Int) (L : List SetC) : joinedR op_and true size L = manyR size L true := by
  unfold joinedR manyR
  by_cases h : alikeE size L = 0
  · simp only [if_pos h]
    congr 2
    apply wordsL_congr
    intro x hx
    unfold PJ
    rw [show (fun (acc : Bool) (e : SetC) => op_and acc (hasB (fun i => e.xs.getD i 0) x)) = (fun acc e => op_and acc (hasS x e)) from rfl, fold_and]
    simp [manyB]
  · simp only [if_neg h]

end Go.Proofs.YtbendkndnojihaaDoor
