/-
  bitset.joined, by andNot: its contract.
-/
import Derived.Test.YtbendkndnojihaaDoorBto
import Derived.Test.YtbendkndnojihaaDoorBtm
namespace Go.Proofs.YtbendkndnojihaaDoor
open Go.RowKit Go.Deep
set_option linter.unusedVariables false

def op_andNot (x y : Bool) : Bool := x && !y

end Go.Proofs.YtbendkndnojihaaDoor
