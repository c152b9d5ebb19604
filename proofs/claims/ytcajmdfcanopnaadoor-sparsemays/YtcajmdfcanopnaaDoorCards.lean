/-
  DERIVED. GIVEN WITH THE SEED: THE CARDS: each row of YtcajmdfcanopnaaDoorRows.lean that lists a variable, with what it lists TIED to the program's text (the seventh form; the later family's looks); each row that meets fmt, with fmt's text TOLD by the authors' own Lean function (tested against real Go, not proved from fmt's source: count such statements apart). THE CARD IS WHAT COUNTS. Prove the row's statement (the work); the ties are given (YtcajmdfcanopnaaDoorTie.lean); close each card by the builder's one call (the guide's Derived/Test/ToyasCard.lean, 'card_holds'). Laid BY PROGRAM, IN A SANDBOX (cutbox-door.mjs). By AI agents, Wed Nov 11 2026. No macro, syntax, notation, axiom, sorry.
-/
import Derived.Test.YtcajmdfcanopnaaDoorRows
import GoSem.ClaimSeven
namespace Go.Proofs.YtcajmdfcanopnaaDoor
namespace Rows

/-- THE TIED CARD OF 'slopelaw9.SparseMays'. -/
def sparseMaysCard : Claim7 := { stood := { row := sparseMaysRow, standIns := [], harness := (true, "db30448ee8d4209ac4bc001a81339d838754cc9d458dba0d3c6a9497aa07afd0"), looks := false }, kinds := [], alts := [], laidByText := true, laidKinds := [.data], laidTests := true, laidLooks := .later }
def SparseMaysCardSaid : Prop := Claim7.holds Tryd.pinned (.plain (OpenSpec.ofChange sparseMaysSpec)) sparseMaysCard

/-- THE SECOND FORM's CARD OF 'slopelaw9.SparseMays'. -/
def sparseMaysUptoCard : Claim7 := { stood := { row := sparseMaysUptoRow, standIns := [], harness := (true, "db30448ee8d4209ac4bc001a81339d838754cc9d458dba0d3c6a9497aa07afd0"), looks := false }, kinds := [], alts := [], laidByText := true, laidKinds := [.data], laidTests := true, laidLooks := .later }
def SparseMaysUptoCardSaid : Prop := Claim7.holds Tryd.pinned (.plain (OpenSpec.upto sparseMaysSpec)) sparseMaysUptoCard
end Rows
end Go.Proofs.YtcajmdfcanopnaaDoor
