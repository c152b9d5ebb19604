/-
  DERIVED. GIVEN WITH THE SEED: THE CARDS: each row of YtjoaijbhpgekoaaGreatDoorRows.lean that lists a variable, with what it lists TIED to the program's text (the seventh form; the later family's looks); each row that meets fmt, with fmt's text TOLD by the authors' own Lean function (tested against real Go, not proved from fmt's source: count such statements apart). THE CARD IS WHAT COUNTS. Prove the row's statement (the work); the ties are given (YtjoaijbhpgekoaaGreatDoorTie.lean); close each card by the builder's one call (the guide's Derived/Test/ToyasCard.lean, 'card_holds'). Laid BY PROGRAM, IN A SANDBOX (cutbox-door.mjs). By AI agents, Wed Nov 11 2026. No macro, syntax, notation, axiom, sorry.
-/
import Derived.Test.YtjoaijbhpgekoaaGreatDoorRows
import GoSem.ClaimSeven
namespace Go.Proofs.YtjoaijbhpgekoaaGreatDoor
namespace Rows

/-- THE TIED CARD OF 'slopelaw4.FormTokens'. -/
def formTokensCard : Claim7 := { stood := { row := formTokensRow, standIns := [], harness := (true, "ede27b3c1df2fcf0fa215e976291e8335e18e2dc420ea53e8fa1b991003f628a"), looks := false }, kinds := [], alts := [], laidByText := true, laidKinds := [.data, .data, .data, .pinned], laidTests := true, laidLooks := .later }
def FormTokensCardSaid : Prop := Claim7.holds Tryz.pinned (.plain (OpenSpec.ofChange formTokensSpec)) formTokensCard

/-- THE SECOND FORM's CARD OF 'slopelaw4.FormTokens'. -/
def formTokensUptoCard : Claim7 := { stood := { row := formTokensUptoRow, standIns := [], harness := (true, "ede27b3c1df2fcf0fa215e976291e8335e18e2dc420ea53e8fa1b991003f628a"), looks := false }, kinds := [], alts := [], laidByText := true, laidKinds := [.data, .data, .data, .pinned], laidTests := true, laidLooks := .later }
def FormTokensUptoCardSaid : Prop := Claim7.holds Tryz.pinned (.plain (OpenSpec.upto formTokensSpec)) formTokensUptoCard
end Rows
end Go.Proofs.YtjoaijbhpgekoaaGreatDoor
