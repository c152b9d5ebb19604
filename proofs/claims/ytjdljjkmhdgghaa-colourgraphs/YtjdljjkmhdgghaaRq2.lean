/- Rq2 -/
import Derived.Test.YtjdljjkmhdgghaaRq1
import Derived.OrdersIn
import Derived.OwnWalkIn
import Derived.RangeFuncCalls
namespace Go.Proofs.Ytjdljjkmhdgghaa
open Go.RowKit Go.Deep
set_option linter.unusedVariables false
section
variable {P:Program} {ops:Array Oper} {Q:Exit → Act → World → Prop} {md:Region.Mode} {n l:Nat}
end
end Go.Proofs.Ytjdljjkmhdgghaa
