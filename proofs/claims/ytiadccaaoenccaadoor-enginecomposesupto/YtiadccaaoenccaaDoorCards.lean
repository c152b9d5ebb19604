/-
  DERIVED. GIVEN WITH THE SEED: THE CARDS: each row of YtiadccaaoenccaaDoorRows.lean that lists a variable, with what it lists TIED to the program's text (the seventh form; the later family's looks); each row that meets fmt, with fmt's text TOLD by the authors' own Lean function (tested against real Go, not proved from fmt's source: count such statements apart). THE CARD IS WHAT COUNTS. Prove the row's statement (the work); the ties are given (YtiadccaaoenccaaDoorTie.lean); close each card by the builder's one call (the guide's Derived/Test/ToyasCard.lean, 'card_holds'). Laid BY PROGRAM, IN A SANDBOX (cutbox-door.mjs). By AI agents, Wed Nov 11 2026. No macro, syntax, notation, axiom, sorry.
-/
import Derived.Test.YtiadccaaoenccaaDoorRows
import GoSem.ClaimSeven
namespace Go.Proofs.YtiadccaaoenccaaDoor
namespace Rows

/-- THE TIED CARD OF 'slopelaw17.EngineComposes'. -/
def engineComposesCard : Claim7 := { stood := { row := engineComposesRow, standIns := [], harness := (true, "232f4966329971686ab19ce18ff25e5107c4b064616ac052f0fb7c73f77c3850"), looks := false }, kinds := [], alts := [], laidByText := true, laidKinds := [.data, .data], laidTests := true, laidLooks := .later }
def EngineComposesCardSaid : Prop := Claim7.holds Tryd.pinned (.plain (OpenSpec.ofChange engineComposesSpec)) engineComposesCard

/-- THE SECOND FORM's CARD OF 'slopelaw17.EngineComposes'. -/
def engineComposesUptoCard : Claim7 := { stood := { row := engineComposesUptoRow, standIns := [], harness := (true, "232f4966329971686ab19ce18ff25e5107c4b064616ac052f0fb7c73f77c3850"), looks := false }, kinds := [], alts := [], laidByText := true, laidKinds := [.data, .data], laidTests := true, laidLooks := .later }
def EngineComposesUptoCardSaid : Prop := Claim7.holds Tryd.pinned (.plain (OpenSpec.upto engineComposesSpec)) engineComposesUptoCard
end Rows
end Go.Proofs.YtiadccaaoenccaaDoor
