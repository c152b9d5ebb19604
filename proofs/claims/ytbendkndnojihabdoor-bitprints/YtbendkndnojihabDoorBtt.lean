/-
  sloperef3.Many: its contract.
-/
import Derived.Test.YtbendkndnojihabDoorBts
import Derived.Test.YtbendkndnojihabDoorBto
namespace Go.Proofs.YtbendkndnojihabDoor
open Go.RowKit Go.Deep
set_option linter.unusedVariables false

def hasS (x : Nat) (e : SetC) : Bool := hasB (fun i => e.xs.getD i 0) x
def manyB (all : Bool) (L : List SetC) (x : Nat) : Bool := if all then L.all (hasS x) else L.any (hasS x)
def manyR (size : Int) (L : List SetC) (all : Bool) : Int × List Nat × Int :=
  if alikeE size L = 0 then (size, wordsL size.toNat (fun x => decide (x < size.toNat) && manyB all L x), 0) else (0, [], alikeE size L)
def cntS (x : Nat) (L : List SetC) : Nat := L.countP (hasS x)
theorem cnt_step {l : List SetC} {k : Nat} (hk : k < l.length) (x : Nat) : cntS x (l.take (k + 1)) = cntS x (l.take k) + (if hasS x (l.getD k .nul) then 1 else 0) := by
  unfold cntS
  rw [List.take_add_one, List.getElem?_eq_getElem hk, List.countP_append]
  simp [List.getD, hk, List.countP_cons]
theorem cnt_le (x : Nat) (L : List SetC) : cntS x L ≤ L.length := List.countP_le_length
theorem cnt_any (x : Nat) (L : List SetC) : decide (0 < cntS x L) = L.any (hasS x) := by
  unfold cntS
  rw [Bool.eq_iff_iff]
  simp [List.countP_pos_iff]
theorem cnt_all (x : Nat) (L : List SetC) : decide (cntS x L = L.length) = L.all (hasS x) := by
  unfold cntS
  rw [Bool.eq_iff_iff]
  simp [List.countP_eq_length]

end Go.Proofs.YtbendkndnojihabDoor
