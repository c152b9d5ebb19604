/-
  DERIVED. GIVEN WITH THE SEED: THE CARDS: each row of YtmnlhnmlgncedaaGreatDoorRows.lean that lists a variable, with what it lists TIED to the program's text (the seventh form; the later family's looks); each row that meets fmt, with fmt's text TOLD by the authors' own Lean function (tested against real Go, not proved from fmt's source: count such statements apart). THE CARD IS WHAT COUNTS. Prove the row's statement (the work); the ties are given (YtmnlhnmlgncedaaGreatDoorTie.lean); close each card by the builder's one call (the guide's Derived/Test/ToyasCard.lean, 'card_holds'). Laid BY PROGRAM, IN A SANDBOX (cutbox-door.mjs). By AI agents, Wed Nov 11 2026. No macro, syntax, notation, axiom, sorry.
-/
import Derived.Test.YtmnlhnmlgncedaaGreatDoorRows
import GoSem.ClaimSeven
namespace Go.Proofs.YtmnlhnmlgncedaaGreatDoor
namespace Rows

/-- THE TIED CARD OF 'slopelaw2.RationalBack'. -/
def rationalBackCard : Claim7 := { stood := { row := rationalBackRow, standIns := [], harness := (true, "1bf3e725aa9f7a63cd6d60ea514aae1429d07829c43954fecab8b77e29c53aa0"), looks := false }, kinds := [], alts := [], laidByText := true, laidKinds := [.data, .data, .data, .data, .pinned], laidTests := true, laidLooks := .later }
def RationalBackCardSaid : Prop := Claim7.holds Tryz.pinned (.plain (OpenSpec.ofChange rationalBackSpec)) rationalBackCard

/-- THE TIED CARD OF 'slopelaw2.RationalPlaces'. -/
def rationalPlacesCard : Claim7 := { stood := { row := rationalPlacesRow, standIns := [], harness := (true, "1bf3e725aa9f7a63cd6d60ea514aae1429d07829c43954fecab8b77e29c53aa0"), looks := false }, kinds := [], alts := [], laidByText := true, laidKinds := [.data, .data, .data, .pinned], laidTests := true, laidLooks := .later }
def RationalPlacesCardSaid : Prop := Claim7.holds Tryz.pinned (.plain (OpenSpec.ofChange rationalPlacesSpec)) rationalPlacesCard

/-- THE TIED CARD OF 'slopelaw2.RationalParses'. -/
def rationalParsesCard : Claim7 := { stood := { row := rationalParsesRow, standIns := [], harness := (true, "1bf3e725aa9f7a63cd6d60ea514aae1429d07829c43954fecab8b77e29c53aa0"), looks := false }, kinds := [], alts := [], laidByText := true, laidKinds := [.data, .data, .data, .pinned], laidTests := true, laidLooks := .later }
def RationalParsesCardSaid : Prop := Claim7.holds Tryz.pinned (.plain (OpenSpec.ofChange rationalParsesSpec)) rationalParsesCard

/-- THE SECOND FORM's CARD OF 'slopelaw2.RationalBack'. -/
def rationalBackUptoCard : Claim7 := { stood := { row := rationalBackUptoRow, standIns := [], harness := (true, "1bf3e725aa9f7a63cd6d60ea514aae1429d07829c43954fecab8b77e29c53aa0"), looks := false }, kinds := [], alts := [], laidByText := true, laidKinds := [.data, .data, .data, .data, .pinned], laidTests := true, laidLooks := .later }
def RationalBackUptoCardSaid : Prop := Claim7.holds Tryz.pinned (.plain (OpenSpec.upto rationalBackSpec)) rationalBackUptoCard

/-- THE SECOND FORM's CARD OF 'slopelaw2.RationalPlaces'. -/
def rationalPlacesUptoCard : Claim7 := { stood := { row := rationalPlacesUptoRow, standIns := [], harness := (true, "1bf3e725aa9f7a63cd6d60ea514aae1429d07829c43954fecab8b77e29c53aa0"), looks := false }, kinds := [], alts := [], laidByText := true, laidKinds := [.data, .data, .data, .pinned], laidTests := true, laidLooks := .later }
def RationalPlacesUptoCardSaid : Prop := Claim7.holds Tryz.pinned (.plain (OpenSpec.upto rationalPlacesSpec)) rationalPlacesUptoCard

/-- THE SECOND FORM's CARD OF 'slopelaw2.RationalParses'. -/
def rationalParsesUptoCard : Claim7 := { stood := { row := rationalParsesUptoRow, standIns := [], harness := (true, "1bf3e725aa9f7a63cd6d60ea514aae1429d07829c43954fecab8b77e29c53aa0"), looks := false }, kinds := [], alts := [], laidByText := true, laidKinds := [.data, .data, .data, .pinned], laidTests := true, laidLooks := .later }
def RationalParsesUptoCardSaid : Prop := Claim7.holds Tryz.pinned (.plain (OpenSpec.upto rationalParsesSpec)) rationalParsesUptoCard
end Rows
end Go.Proofs.YtmnlhnmlgncedaaGreatDoor
