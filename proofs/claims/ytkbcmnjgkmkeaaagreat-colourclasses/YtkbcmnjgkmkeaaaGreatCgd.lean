/- Cgd -/
import Derived.Test.YtkbcmnjgkmkeaaaGreatCgc
namespace Go.Proofs.YtkbcmnjgkmkeaaaGreat
open Go.RowKit Go.Deep
set_option linter.unusedVariables false

end Go.Proofs.YtkbcmnjgkmkeaaaGreat
