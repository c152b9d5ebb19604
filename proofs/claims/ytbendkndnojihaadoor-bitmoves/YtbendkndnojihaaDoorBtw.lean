/-
  slopelaw3.keptAll: its contract; lists of sets that are handed in.
-/
import Derived.Test.YtbendkndnojihaaDoorBtv
import Derived.Test.YtbendkndnojihaaDoorBtc
namespace Go.Proofs.YtbendkndnojihaaDoor
open Go.ChangeShapes Go.WideShapes Go.ChangeAt Go.RowKit Go.Deep
set_option linter.unusedVariables false

end Go.Proofs.YtbendkndnojihaaDoor
