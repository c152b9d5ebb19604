/-
  bitset.joined, by and: its contract.
-/
import Derived.Test.YtbendkndnojihaaDoorBto
import Derived.Test.YtbendkndnojihaaDoorBtl
namespace Go.Proofs.YtbendkndnojihaaDoor
open Go.RowKit Go.Deep
set_option linter.unusedVariables false

def op_and (x y : Bool) : Bool := x && y

end Go.Proofs.YtbendkndnojihaaDoor
