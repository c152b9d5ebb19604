/-
  DERIVED. GIVEN WITH THE SEED: THE CARDS: each row of YtmmeiebbnjjijaaGreatDoorRows.lean that lists a variable, with what it lists TIED to the program's text (the seventh form; the later family's looks); each row that meets fmt, with fmt's text TOLD by the authors' own Lean function (tested against real Go, not proved from fmt's source: count such statements apart). THE CARD IS WHAT COUNTS. Prove the row's statement (the work); the ties are given (YtmmeiebbnjjijaaGreatDoorTie.lean); close each card by the builder's one call (the guide's Derived/Test/ToyasCard.lean, 'card_holds'). Laid BY PROGRAM, IN A SANDBOX (cutbox-door.mjs). By AI agents, Wed Nov 11 2026. No macro, syntax, notation, axiom, sorry.
-/
import Derived.Test.YtmmeiebbnjjijaaGreatDoorRows
import GoSem.ClaimSeven
namespace Go.Proofs.YtmmeiebbnjjijaaGreatDoor
namespace Rows

/-- THE TIED CARD OF 'slopelaw2.RationalSteps'. -/
def rationalStepsCard : Claim7 := { stood := { row := rationalStepsRow, standIns := [], harness := (true, "a5790a2dfca0eeee50282f05dbafff374382d63ed67cbd472febf06f9092e557"), looks := false }, kinds := [], alts := [], laidByText := true, laidKinds := [.data], laidTests := true, laidLooks := .later }
def RationalStepsCardSaid : Prop := Claim7.holds Tryz.pinned (.plain (OpenSpec.ofChange rationalStepsSpec)) rationalStepsCard

/-- THE TIED CARD OF 'slopelaw2.RationalMakes'. -/
def rationalMakesCard : Claim7 := { stood := { row := rationalMakesRow, standIns := [], harness := (true, "a5790a2dfca0eeee50282f05dbafff374382d63ed67cbd472febf06f9092e557"), looks := false }, kinds := [], alts := [], laidByText := true, laidKinds := [.data], laidTests := true, laidLooks := .later }
def RationalMakesCardSaid : Prop := Claim7.holds Tryz.pinned (.plain (OpenSpec.ofChange rationalMakesSpec)) rationalMakesCard

/-- THE TIED CARD OF 'slopelaw2.RationalLists'. -/
def rationalListsCard : Claim7 := { stood := { row := rationalListsRow, standIns := [], harness := (true, "a5790a2dfca0eeee50282f05dbafff374382d63ed67cbd472febf06f9092e557"), looks := false }, kinds := [], alts := [], laidByText := true, laidKinds := [.data], laidTests := true, laidLooks := .later }
def RationalListsCardSaid : Prop := Claim7.holds Tryz.pinned (.plain (OpenSpec.ofChange rationalListsSpec)) rationalListsCard

/-- THE TIED CARD OF 'slopelaw2.RationalWhole'. -/
def rationalWholeCard : Claim7 := { stood := { row := rationalWholeRow, standIns := [], harness := (true, "a5790a2dfca0eeee50282f05dbafff374382d63ed67cbd472febf06f9092e557"), looks := false }, kinds := [], alts := [], laidByText := true, laidKinds := [.data], laidTests := true, laidLooks := .later }
def RationalWholeCardSaid : Prop := Claim7.holds Tryz.pinned (.plain (OpenSpec.ofChange rationalWholeSpec)) rationalWholeCard

/-- THE SECOND FORM's CARD OF 'slopelaw2.RationalSteps'. -/
def rationalStepsUptoCard : Claim7 := { stood := { row := rationalStepsUptoRow, standIns := [], harness := (true, "a5790a2dfca0eeee50282f05dbafff374382d63ed67cbd472febf06f9092e557"), looks := false }, kinds := [], alts := [], laidByText := true, laidKinds := [.data], laidTests := true, laidLooks := .later }
def RationalStepsUptoCardSaid : Prop := Claim7.holds Tryz.pinned (.plain (OpenSpec.upto rationalStepsSpec)) rationalStepsUptoCard

/-- THE SECOND FORM's CARD OF 'slopelaw2.RationalMakes'. -/
def rationalMakesUptoCard : Claim7 := { stood := { row := rationalMakesUptoRow, standIns := [], harness := (true, "a5790a2dfca0eeee50282f05dbafff374382d63ed67cbd472febf06f9092e557"), looks := false }, kinds := [], alts := [], laidByText := true, laidKinds := [.data], laidTests := true, laidLooks := .later }
def RationalMakesUptoCardSaid : Prop := Claim7.holds Tryz.pinned (.plain (OpenSpec.upto rationalMakesSpec)) rationalMakesUptoCard

/-- THE SECOND FORM's CARD OF 'slopelaw2.RationalLists'. -/
def rationalListsUptoCard : Claim7 := { stood := { row := rationalListsUptoRow, standIns := [], harness := (true, "a5790a2dfca0eeee50282f05dbafff374382d63ed67cbd472febf06f9092e557"), looks := false }, kinds := [], alts := [], laidByText := true, laidKinds := [.data], laidTests := true, laidLooks := .later }
def RationalListsUptoCardSaid : Prop := Claim7.holds Tryz.pinned (.plain (OpenSpec.upto rationalListsSpec)) rationalListsUptoCard

/-- THE SECOND FORM's CARD OF 'slopelaw2.RationalWhole'. -/
def rationalWholeUptoCard : Claim7 := { stood := { row := rationalWholeUptoRow, standIns := [], harness := (true, "a5790a2dfca0eeee50282f05dbafff374382d63ed67cbd472febf06f9092e557"), looks := false }, kinds := [], alts := [], laidByText := true, laidKinds := [.data], laidTests := true, laidLooks := .later }
def RationalWholeUptoCardSaid : Prop := Claim7.holds Tryz.pinned (.plain (OpenSpec.upto rationalWholeSpec)) rationalWholeUptoCard
end Rows
end Go.Proofs.YtmmeiebbnjjijaaGreatDoor
