/-
  DERIVED. GIVEN WITH THE SEED: THE CARDS: each row of YtlolnaegfponeaaGreatDoorRows.lean that lists a variable, with what it lists TIED to the program's text (the seventh form; the later family's looks); each row that meets fmt, with fmt's text TOLD by the authors' own Lean function (tested against real Go, not proved from fmt's source: count such statements apart). THE CARD IS WHAT COUNTS. Prove the row's statement (the work); the ties are given (YtlolnaegfponeaaGreatDoorTie.lean); close each card by the builder's one call (the guide's Derived/Test/ToyasCard.lean, 'card_holds'). Laid BY PROGRAM, IN A SANDBOX (cutbox-door.mjs). By AI agents, Wed Nov 11 2026. No macro, syntax, notation, axiom, sorry.
-/
import Derived.Test.YtlolnaegfponeaaGreatDoorRows
import GoSem.ClaimSeven
namespace Go.Proofs.YtlolnaegfponeaaGreatDoor
namespace Rows

/-- THE TIED CARD OF 'slopelaw2.RationalNearest'. -/
def rationalNearestCard : Claim7 := { stood := { row := rationalNearestRow, standIns := [], harness := (true, "a251d0aee2d0bfe42bf5a58a59c04a44a1bea4acff1016a3431b7e10487445ef"), looks := false }, kinds := [], alts := [], laidByText := true, laidKinds := [.data, .data], laidTests := true, laidLooks := .later }
def RationalNearestCardSaid : Prop := Claim7.holds Tryz.pinned (.plain (OpenSpec.ofChange rationalNearestSpec)) rationalNearestCard

/-- THE TIED CARD OF 'slopelaw2.RationalSimplest'. -/
def rationalSimplestCard : Claim7 := { stood := { row := rationalSimplestRow, standIns := [], harness := (true, "a251d0aee2d0bfe42bf5a58a59c04a44a1bea4acff1016a3431b7e10487445ef"), looks := false }, kinds := [], alts := [], laidByText := true, laidKinds := [.data], laidTests := true, laidLooks := .later }
def RationalSimplestCardSaid : Prop := Claim7.holds Tryz.pinned (.plain (OpenSpec.ofChange rationalSimplestSpec)) rationalSimplestCard

/-- THE TIED CARD OF 'slopelaw2.RationalFloats'. -/
def rationalFloatsCard : Claim7 := { stood := { row := rationalFloatsRow, standIns := [], harness := (true, "a251d0aee2d0bfe42bf5a58a59c04a44a1bea4acff1016a3431b7e10487445ef"), looks := false }, kinds := [], alts := [], laidByText := true, laidKinds := [.data, .data], laidTests := true, laidLooks := .later }
def RationalFloatsCardSaid : Prop := Claim7.holds Tryz.pinned (.plain (OpenSpec.ofChange rationalFloatsSpec)) rationalFloatsCard

/-- THE TIED CARD OF 'slopelaw2.RationalSpans'. -/
def rationalSpansCard : Claim7 := { stood := { row := rationalSpansRow, standIns := [], harness := (true, "a251d0aee2d0bfe42bf5a58a59c04a44a1bea4acff1016a3431b7e10487445ef"), looks := false }, kinds := [], alts := [], laidByText := true, laidKinds := [.data], laidTests := true, laidLooks := .later }
def RationalSpansCardSaid : Prop := Claim7.holds Tryz.pinned (.plain (OpenSpec.ofChange rationalSpansSpec)) rationalSpansCard

/-- THE SECOND FORM's CARD OF 'slopelaw2.RationalNearest'. -/
def rationalNearestUptoCard : Claim7 := { stood := { row := rationalNearestUptoRow, standIns := [], harness := (true, "a251d0aee2d0bfe42bf5a58a59c04a44a1bea4acff1016a3431b7e10487445ef"), looks := false }, kinds := [], alts := [], laidByText := true, laidKinds := [.data, .data], laidTests := true, laidLooks := .later }
def RationalNearestUptoCardSaid : Prop := Claim7.holds Tryz.pinned (.plain (OpenSpec.upto rationalNearestSpec)) rationalNearestUptoCard

/-- THE SECOND FORM's CARD OF 'slopelaw2.RationalSimplest'. -/
def rationalSimplestUptoCard : Claim7 := { stood := { row := rationalSimplestUptoRow, standIns := [], harness := (true, "a251d0aee2d0bfe42bf5a58a59c04a44a1bea4acff1016a3431b7e10487445ef"), looks := false }, kinds := [], alts := [], laidByText := true, laidKinds := [.data], laidTests := true, laidLooks := .later }
def RationalSimplestUptoCardSaid : Prop := Claim7.holds Tryz.pinned (.plain (OpenSpec.upto rationalSimplestSpec)) rationalSimplestUptoCard

/-- THE SECOND FORM's CARD OF 'slopelaw2.RationalFloats'. -/
def rationalFloatsUptoCard : Claim7 := { stood := { row := rationalFloatsUptoRow, standIns := [], harness := (true, "a251d0aee2d0bfe42bf5a58a59c04a44a1bea4acff1016a3431b7e10487445ef"), looks := false }, kinds := [], alts := [], laidByText := true, laidKinds := [.data, .data], laidTests := true, laidLooks := .later }
def RationalFloatsUptoCardSaid : Prop := Claim7.holds Tryz.pinned (.plain (OpenSpec.upto rationalFloatsSpec)) rationalFloatsUptoCard

/-- THE SECOND FORM's CARD OF 'slopelaw2.RationalSpans'. -/
def rationalSpansUptoCard : Claim7 := { stood := { row := rationalSpansUptoRow, standIns := [], harness := (true, "a251d0aee2d0bfe42bf5a58a59c04a44a1bea4acff1016a3431b7e10487445ef"), looks := false }, kinds := [], alts := [], laidByText := true, laidKinds := [.data], laidTests := true, laidLooks := .later }
def RationalSpansUptoCardSaid : Prop := Claim7.holds Tryz.pinned (.plain (OpenSpec.upto rationalSpansSpec)) rationalSpansUptoCard
end Rows
end Go.Proofs.YtlolnaegfponeaaGreatDoor
