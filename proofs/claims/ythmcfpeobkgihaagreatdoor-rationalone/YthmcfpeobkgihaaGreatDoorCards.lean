/-
  DERIVED. GIVEN WITH THE SEED: THE CARDS: each row of YthmcfpeobkgihaaGreatDoorRows.lean that lists a variable, with what it lists TIED to the program's text (the seventh form; the later family's looks); each row that meets fmt, with fmt's text TOLD by the authors' own Lean function (tested against real Go, not proved from fmt's source: count such statements apart). THE CARD IS WHAT COUNTS. Prove the row's statement (the work); the ties are given (YthmcfpeobkgihaaGreatDoorTie.lean); close each card by the builder's one call (the guide's Derived/Test/ToyasCard.lean, 'card_holds'). Laid BY PROGRAM, IN A SANDBOX (cutbox-door.mjs). By AI agents, Wed Nov 11 2026. No macro, syntax, notation, axiom, sorry.
-/
import Derived.Test.YthmcfpeobkgihaaGreatDoorRows
import GoSem.ClaimSeven
namespace Go.Proofs.YthmcfpeobkgihaaGreatDoor
namespace Rows

/-- THE TIED CARD OF 'slopelaw2.RationalOne'. -/
def rationalOneCard : Claim7 := { stood := { row := rationalOneRow, standIns := [], harness := (true, "46b2d822659968d7e33943afd0932743fcf454c55667fd376d8551b8c39fe5e7"), looks := false }, kinds := [], alts := [], laidByText := true, laidKinds := [.data], laidTests := true, laidLooks := .later }
def RationalOneCardSaid : Prop := Claim7.holds Tryz.pinned (.plain (OpenSpec.ofChange rationalOneSpec)) rationalOneCard

/-- THE TIED CARD OF 'slopelaw2.RationalFour'. -/
def rationalFourCard : Claim7 := { stood := { row := rationalFourRow, standIns := [], harness := (true, "46b2d822659968d7e33943afd0932743fcf454c55667fd376d8551b8c39fe5e7"), looks := false }, kinds := [], alts := [], laidByText := true, laidKinds := [.data], laidTests := true, laidLooks := .later }
def RationalFourCardSaid : Prop := Claim7.holds Tryz.pinned (.plain (OpenSpec.ofChange rationalFourSpec)) rationalFourCard

/-- THE SECOND FORM's CARD OF 'slopelaw2.RationalOne'. -/
def rationalOneUptoCard : Claim7 := { stood := { row := rationalOneUptoRow, standIns := [], harness := (true, "46b2d822659968d7e33943afd0932743fcf454c55667fd376d8551b8c39fe5e7"), looks := false }, kinds := [], alts := [], laidByText := true, laidKinds := [.data], laidTests := true, laidLooks := .later }
def RationalOneUptoCardSaid : Prop := Claim7.holds Tryz.pinned (.plain (OpenSpec.upto rationalOneSpec)) rationalOneUptoCard

/-- THE SECOND FORM's CARD OF 'slopelaw2.RationalFour'. -/
def rationalFourUptoCard : Claim7 := { stood := { row := rationalFourUptoRow, standIns := [], harness := (true, "46b2d822659968d7e33943afd0932743fcf454c55667fd376d8551b8c39fe5e7"), looks := false }, kinds := [], alts := [], laidByText := true, laidKinds := [.data], laidTests := true, laidLooks := .later }
def RationalFourUptoCardSaid : Prop := Claim7.holds Tryz.pinned (.plain (OpenSpec.upto rationalFourSpec)) rationalFourUptoCard
end Rows
end Go.Proofs.YthmcfpeobkgihaaGreatDoor
