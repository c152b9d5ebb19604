/-
  bitset.join, by andNot: its contract.
-/
import Derived.Test.YtbendkndnojihaaDoorBtj
namespace Go.Proofs.YtbendkndnojihaaDoor
open Go.RowKit Go.Deep
set_option linter.unusedVariables false

end Go.Proofs.YtbendkndnojihaaDoor
