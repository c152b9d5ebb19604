/-
  sloperef3.fit, Many: contracts.
-/
import Derived.Test.YtbendkndnojihabBti
import Derived.Test.YtbendkndnojihabBt6
namespace Go.Proofs.Ytbendkndnojihab
open Go.RowKit Go.Deep
set_option linter.unusedVariables false

end Go.Proofs.Ytbendkndnojihab
