/-
  bitset.joined, by or: its contract.
-/
import Derived.Test.YtbendkndnojihaaDoorBto
import Derived.Test.YtbendkndnojihaaDoorBtk
namespace Go.Proofs.YtbendkndnojihaaDoor
open Go.RowKit Go.Deep
set_option linter.unusedVariables false

def op_or (x y : Bool) : Bool := x || y

end Go.Proofs.YtbendkndnojihaaDoor
