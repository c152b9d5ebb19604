/-
  DERIVED. GIVEN WITH THE SEED: THE CARDS: each row of YtgfpfjghdbcihaaGreatDoorRows.lean that lists a variable, with what it lists TIED to the program's text (the seventh form; the later family's looks); each row that meets fmt, with fmt's text TOLD by the authors' own Lean function (tested against real Go, not proved from fmt's source: count such statements apart). THE CARD IS WHAT COUNTS. Prove the row's statement (the work); the ties are given (YtgfpfjghdbcihaaGreatDoorTie.lean); close each card by the builder's one call (the guide's Derived/Test/ToyasCard.lean, 'card_holds'). Laid BY PROGRAM, IN A SANDBOX (cutbox-door.mjs). By AI agents, Wed Nov 11 2026. No macro, syntax, notation, axiom, sorry.
-/
import Derived.Test.YtgfpfjghdbcihaaGreatDoorRows
import GoSem.ClaimSeven
namespace Go.Proofs.YtgfpfjghdbcihaaGreatDoor
namespace Rows

/-- THE TIED CARD OF 'slopelaw2.RationalFloats'. -/
def rationalFloatsCard : Claim7 := { stood := { row := rationalFloatsRow, standIns := [], harness := (true, "3e56deafa93ffa19a1eb2d4daeb71ef09401710467b8d2a45fa3e17097ac1968"), looks := false }, kinds := [], alts := [], laidByText := true, laidKinds := [.data, .data], laidTests := true, laidLooks := .later }
def RationalFloatsCardSaid : Prop := Claim7.holds Tryz.pinned (.plain (OpenSpec.ofChange rationalFloatsSpec)) rationalFloatsCard

/-- THE TIED CARD OF 'slopelaw2.RationalTerms'. -/
def rationalTermsCard : Claim7 := { stood := { row := rationalTermsRow, standIns := [], harness := (true, "3e56deafa93ffa19a1eb2d4daeb71ef09401710467b8d2a45fa3e17097ac1968"), looks := false }, kinds := [], alts := [], laidByText := true, laidKinds := [.data], laidTests := true, laidLooks := .later }
def RationalTermsCardSaid : Prop := Claim7.holds Tryz.pinned (.plain (OpenSpec.ofChange rationalTermsSpec)) rationalTermsCard

/-- THE TIED CARD OF 'slopelaw2.RationalSpans'. -/
def rationalSpansCard : Claim7 := { stood := { row := rationalSpansRow, standIns := [], harness := (true, "3e56deafa93ffa19a1eb2d4daeb71ef09401710467b8d2a45fa3e17097ac1968"), looks := false }, kinds := [], alts := [], laidByText := true, laidKinds := [.data], laidTests := true, laidLooks := .later }
def RationalSpansCardSaid : Prop := Claim7.holds Tryz.pinned (.plain (OpenSpec.ofChange rationalSpansSpec)) rationalSpansCard

/-- THE SECOND FORM's CARD OF 'slopelaw2.RationalFloats'. -/
def rationalFloatsUptoCard : Claim7 := { stood := { row := rationalFloatsUptoRow, standIns := [], harness := (true, "3e56deafa93ffa19a1eb2d4daeb71ef09401710467b8d2a45fa3e17097ac1968"), looks := false }, kinds := [], alts := [], laidByText := true, laidKinds := [.data, .data], laidTests := true, laidLooks := .later }
def RationalFloatsUptoCardSaid : Prop := Claim7.holds Tryz.pinned (.plain (OpenSpec.upto rationalFloatsSpec)) rationalFloatsUptoCard

/-- THE SECOND FORM's CARD OF 'slopelaw2.RationalTerms'. -/
def rationalTermsUptoCard : Claim7 := { stood := { row := rationalTermsUptoRow, standIns := [], harness := (true, "3e56deafa93ffa19a1eb2d4daeb71ef09401710467b8d2a45fa3e17097ac1968"), looks := false }, kinds := [], alts := [], laidByText := true, laidKinds := [.data], laidTests := true, laidLooks := .later }
def RationalTermsUptoCardSaid : Prop := Claim7.holds Tryz.pinned (.plain (OpenSpec.upto rationalTermsSpec)) rationalTermsUptoCard

/-- THE SECOND FORM's CARD OF 'slopelaw2.RationalSpans'. -/
def rationalSpansUptoCard : Claim7 := { stood := { row := rationalSpansUptoRow, standIns := [], harness := (true, "3e56deafa93ffa19a1eb2d4daeb71ef09401710467b8d2a45fa3e17097ac1968"), looks := false }, kinds := [], alts := [], laidByText := true, laidKinds := [.data], laidTests := true, laidLooks := .later }
def RationalSpansUptoCardSaid : Prop := Claim7.holds Tryz.pinned (.plain (OpenSpec.upto rationalSpansSpec)) rationalSpansUptoCard
end Rows
end Go.Proofs.YtgfpfjghdbcihaaGreatDoor
