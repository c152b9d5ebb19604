/-
  bitset.copyFor, Put, Drop: contracts.
-/
import Derived.Test.YtbendkndnojihabDoorBtc
namespace Go.Proofs.YtbendkndnojihabDoor
open Go.RowKit Go.Deep
set_option linter.unusedVariables false

/-- What putting says. -/
def putE (s : Int) (xs : List Nat) (e : Int) : Int := if MayS s xs then (if 0 ≤ e ∧ e < s then 0 else 62) else 61
def putR (s : Int) (xs : List Nat) (e : Int) (yes : Bool) : Int × List Nat × Int :=
  if putE s xs e = 0 then (s, wordsL s.toNat (fun x => if (x : Int) = e then yes else hasB (fun i => xs.getD i 0) x), 0) else (0, [], putE s xs e)
theorem putE_zero {s : Int} {xs : List Nat} {e : Int} (h : putE s xs e = 0) : MayS s xs = true ∧ 0 ≤ e ∧ e < s := by
  unfold putE at h
  split at h
  · split at h
    · rename_i h1 h2; exact ⟨h1, h2⟩
    · cases h
  · cases h

end Go.Proofs.YtbendkndnojihabDoor
