/-
  bitset.join, by or: its contract.
-/
import Derived.Test.YtbendkndnojihaaDoorBtj
import Derived.Test.YtbendkndnojihaaDoorBto
namespace Go.Proofs.YtbendkndnojihaaDoor
open Go.RowKit Go.Deep
set_option linter.unusedVariables false

end Go.Proofs.YtbendkndnojihaaDoor

namespace Go.Proofs.YtbendkndnojihaaDoor
open Go.RowKit Go.Deep
set_option linter.unusedVariables false

def op_or (x y : Bool) : Bool := x || y

end Go.Proofs.YtbendkndnojihaaDoor

namespace Go.Proofs.YtbendkndnojihaaDoor
open Go.RowKit Go.Deep
set_option linter.unusedVariables false

end Go.Proofs.YtbendkndnojihaaDoor

namespace Go.Proofs.YtbendkndnojihaaDoor
open Go.RowKit Go.Deep
set_option linter.unusedVariables false

def op_and (x y : Bool) : Bool := x && y

end Go.Proofs.YtbendkndnojihaaDoor
