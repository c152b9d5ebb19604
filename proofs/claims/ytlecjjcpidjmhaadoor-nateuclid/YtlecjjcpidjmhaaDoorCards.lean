/-
  DERIVED. GIVEN WITH THE SEED: THE CARDS: each row of YtlecjjcpidjmhaaDoorRows.lean that lists a variable, with what it lists TIED to the program's text (the seventh form; the later family's looks); each row that meets fmt, with fmt's text TOLD by the authors' own Lean function (tested against real Go, not proved from fmt's source: count such statements apart). THE CARD IS WHAT COUNTS. Prove the row's statement (the work); the ties are given (YtlecjjcpidjmhaaDoorTie.lean); close each card by the builder's one call (the guide's Derived/Test/ToyasCard.lean, 'card_holds'). Laid BY PROGRAM, IN A SANDBOX (cutbox-door.mjs). By AI agents, Wed Nov 11 2026. No macro, syntax, notation, axiom, sorry.
-/
import Derived.Test.YtlecjjcpidjmhaaDoorRows
import GoSem.ClaimSeven
namespace Go.Proofs.YtlecjjcpidjmhaaDoor
namespace Rows

/-- THE TIED CARD OF 'slopelaw1.NatEuclid'. -/
def natEuclidCard : Claim7 := { stood := { row := natEuclidRow, standIns := [], harness := (true, "b79e4adb82f313e85af6df650b96037f677c0a01ab8a4367cc814e5c2c122e0e"), looks := false }, kinds := [], alts := [], laidByText := true, laidKinds := [.data], laidTests := true, laidLooks := .later }
def NatEuclidCardSaid : Prop := Claim7.holds Tryd.pinned (.plain (OpenSpec.ofChange natEuclidSpec)) natEuclidCard

/-- THE TIED CARD OF 'slopelaw1.NatDivisors'. -/
def natDivisorsCard : Claim7 := { stood := { row := natDivisorsRow, standIns := [], harness := (true, "b79e4adb82f313e85af6df650b96037f677c0a01ab8a4367cc814e5c2c122e0e"), looks := false }, kinds := [], alts := [], laidByText := true, laidKinds := [.data], laidTests := true, laidLooks := .later }
def NatDivisorsCardSaid : Prop := Claim7.holds Tryd.pinned (.plain (OpenSpec.ofChange natDivisorsSpec)) natDivisorsCard

/-- THE SECOND FORM's CARD OF 'slopelaw1.NatEuclid'. -/
def natEuclidUptoCard : Claim7 := { stood := { row := natEuclidUptoRow, standIns := [], harness := (true, "b79e4adb82f313e85af6df650b96037f677c0a01ab8a4367cc814e5c2c122e0e"), looks := false }, kinds := [], alts := [], laidByText := true, laidKinds := [.data], laidTests := true, laidLooks := .later }
def NatEuclidUptoCardSaid : Prop := Claim7.holds Tryd.pinned (.plain (OpenSpec.upto natEuclidSpec)) natEuclidUptoCard

/-- THE SECOND FORM's CARD OF 'slopelaw1.NatDivisors'. -/
def natDivisorsUptoCard : Claim7 := { stood := { row := natDivisorsUptoRow, standIns := [], harness := (true, "b79e4adb82f313e85af6df650b96037f677c0a01ab8a4367cc814e5c2c122e0e"), looks := false }, kinds := [], alts := [], laidByText := true, laidKinds := [.data], laidTests := true, laidLooks := .later }
def NatDivisorsUptoCardSaid : Prop := Claim7.holds Tryd.pinned (.plain (OpenSpec.upto natDivisorsSpec)) natDivisorsUptoCard
end Rows
end Go.Proofs.YtlecjjcpidjmhaaDoor
