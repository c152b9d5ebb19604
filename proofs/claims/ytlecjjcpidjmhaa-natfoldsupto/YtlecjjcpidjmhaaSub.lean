/-
  natural.Sub, Diff: contracts.
-/
import Derived.Test.YtlecjjcpidjmhaaAdd
namespace Go.Proofs.Ytlecjjcpidjmhaa
open Go.RowKit Go.Deep
set_option linter.unusedVariables false

def diffL (xs ys : List Nat) : List Nat × Bool × Int := if MayL xs && MayL ys then (if val xs < val ys then (limbs (val ys - val xs), true, 0) else (limbs (val xs - val ys), false, 0)) else ([], false, 20)

/-- What a call with three results answers. -/
def Res3 (w w' : World) (r : List Nat × Bool × Int) (e : Ending) : Prop :=
  ∃ a m c, e = .returned (.tuple #[.slice a m c, .bool r.2.1, .int .i64 r.2.2]) ∧ Sl w' a m c r.1 ∧ NewAt w.heap.size a ∧ Below w.heap.size w w'

end Go.Proofs.Ytlecjjcpidjmhaa
