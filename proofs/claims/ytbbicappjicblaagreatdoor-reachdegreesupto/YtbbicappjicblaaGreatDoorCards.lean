/-
  DERIVED. GIVEN WITH THE SEED: THE CARDS: each row of YtbbicappjicblaaGreatDoorRows.lean that lists a variable, with what it lists TIED to the program's text (the seventh form; the later family's looks); each row that meets fmt, with fmt's text TOLD by the authors' own Lean function (tested against real Go, not proved from fmt's source: count such statements apart). THE CARD IS WHAT COUNTS. Prove the row's statement (the work); the ties are given (YtbbicappjicblaaGreatDoorTie.lean); close each card by the builder's one call (the guide's Derived/Test/ToyasCard.lean, 'card_holds'). Laid BY PROGRAM, IN A SANDBOX (cutbox-door.mjs). By AI agents, Wed Nov 11 2026. No macro, syntax, notation, axiom, sorry.
-/
import Derived.Test.YtbbicappjicblaaGreatDoorRows
import GoSem.ClaimSeven
namespace Go.Proofs.YtbbicappjicblaaGreatDoor
namespace Rows

/-- THE TIED CARD OF 'slopelaw10.ReachSets'. -/
def reachSetsCard : Claim7 := { stood := { row := reachSetsRow, standIns := [], harness := (true, "e1ed15f8d181a5360c71c07bde9cfb642a162b5b3082734c0e54856104d31801"), looks := false }, kinds := [], alts := [], laidByText := true, laidKinds := [.data, .data], laidTests := true, laidLooks := .later }
def ReachSetsCardSaid : Prop := Claim7.holds Tryz.pinned (.plain (OpenSpec.ofChange reachSetsSpec)) reachSetsCard

/-- THE TIED CARD OF 'slopelaw10.ReachDegrees'. -/
def reachDegreesCard : Claim7 := { stood := { row := reachDegreesRow, standIns := [], harness := (true, "e1ed15f8d181a5360c71c07bde9cfb642a162b5b3082734c0e54856104d31801"), looks := false }, kinds := [], alts := [], laidByText := true, laidKinds := [.data, .data], laidTests := true, laidLooks := .later }
def ReachDegreesCardSaid : Prop := Claim7.holds Tryz.pinned (.plain (OpenSpec.ofChange reachDegreesSpec)) reachDegreesCard

/-- THE SECOND FORM's CARD OF 'slopelaw10.ReachSets'. -/
def reachSetsUptoCard : Claim7 := { stood := { row := reachSetsUptoRow, standIns := [], harness := (true, "e1ed15f8d181a5360c71c07bde9cfb642a162b5b3082734c0e54856104d31801"), looks := false }, kinds := [], alts := [], laidByText := true, laidKinds := [.data, .data], laidTests := true, laidLooks := .later }
def ReachSetsUptoCardSaid : Prop := Claim7.holds Tryz.pinned (.plain (OpenSpec.upto reachSetsSpec)) reachSetsUptoCard

/-- THE SECOND FORM's CARD OF 'slopelaw10.ReachDegrees'. -/
def reachDegreesUptoCard : Claim7 := { stood := { row := reachDegreesUptoRow, standIns := [], harness := (true, "e1ed15f8d181a5360c71c07bde9cfb642a162b5b3082734c0e54856104d31801"), looks := false }, kinds := [], alts := [], laidByText := true, laidKinds := [.data, .data], laidTests := true, laidLooks := .later }
def ReachDegreesUptoCardSaid : Prop := Claim7.holds Tryz.pinned (.plain (OpenSpec.upto reachDegreesSpec)) reachDegreesUptoCard
end Rows
end Go.Proofs.YtbbicappjicblaaGreatDoor
