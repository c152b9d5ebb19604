/-
  bitset.joined, by and: its contract.
-/
import Derived.Test.YtbendkndnojihabDoorBto
import Derived.Test.YtbendkndnojihabDoorBtl
namespace Go.Proofs.YtbendkndnojihabDoor
open Go.RowKit Go.Deep
set_option linter.unusedVariables false

def op_and (x y : Bool) : Bool := x && y

end Go.Proofs.YtbendkndnojihabDoor
