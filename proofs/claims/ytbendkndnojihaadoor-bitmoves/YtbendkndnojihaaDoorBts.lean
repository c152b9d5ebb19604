/-
  sloperef3.fit, Many: contracts.
-/
import Derived.Test.YtbendkndnojihaaDoorBti
import Derived.Test.YtbendkndnojihaaDoorBt6
namespace Go.Proofs.YtbendkndnojihaaDoor
open Go.RowKit Go.Deep
set_option linter.unusedVariables false

end Go.Proofs.YtbendkndnojihaaDoor
