/-
  slices.Backward over words: its contract.
-/
import Derived.RangeFuncNested
import Derived.RangeFuncBound
import Derived.RangeFuncCalls
import Derived.RangeFuncLeaves
import Derived.Shelf.Abstract
import Derived.OwnWalkIn
import Derived.TacticsInMore
import Derived.LoopNIn
import Derived.LoopIn
import Derived.Test.YtbendkndnojihabDoorBt2
namespace Go.Proofs.YtbendkndnojihabDoor
open Go.RowKit Go.Deep Go.Shelf
set_option linter.unusedVariables false
attribute [local go_sem] Oper.semAt_some

/-- What is handed out: a number and its word. -/
def encB (N : Nat) (xs : List Nat) (x : Fin N) : Array Value := #[.int .i64 ((x.val : Nat) : Int), .int .u64 ((xs[x.val]?.getD 0 : Nat) : Int)]

end Go.Proofs.YtbendkndnojihabDoor
