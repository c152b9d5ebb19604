/-
  bitset.join, by and: its contract.
-/
import Derived.Test.YtbendkndnojihabDoorBtj
namespace Go.Proofs.YtbendkndnojihabDoor
open Go.RowKit Go.Deep
set_option linter.unusedVariables false

end Go.Proofs.YtbendkndnojihabDoor
