/-
  sloperef3.Elements, fresh: contracts.
-/
import Derived.Test.YtbendkndnojihabDoorBk3
import Derived.Test.YtbendkndnojihabDoorBt9
namespace Go.Proofs.YtbendkndnojihabDoor
open Go.RowKit Go.Deep
set_option linter.unusedVariables false

/-- The numbers of a set, rising. -/
def elsL (P : Nat → Bool) : Nat → List Int
  | 0 => []
  | n + 1 => elsL P n ++ (if P n then [(n : Int)] else [])
theorem elsL_len (P : Nat → Bool) : ∀ n, (elsL P n).length = cntB P n
  | 0 => rfl
  | n + 1 => by simp only [elsL, cntB, List.length_append]; rw [elsL_len P n]; split <;> simp_all
def elsR (s : Int) (xs : List Nat) : List Int := if MayS s xs then elsL (hasB (gW xs)) s.toNat else []

end Go.Proofs.YtbendkndnojihabDoor
