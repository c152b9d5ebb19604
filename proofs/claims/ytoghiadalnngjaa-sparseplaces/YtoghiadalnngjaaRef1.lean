/- Ref1 -/
import Derived.Test.YtoghiadalnngjaaBase
namespace Go.Proofs.Ytoghiadalnngjaa
open Go.RowKit Go.Deep
set_option linter.unusedVariables false

end Go.Proofs.Ytoghiadalnngjaa
