/-
  DERIVED. GIVEN WITH THE SEED: THE CARDS: each row of YtbendkndnojihaaDoorRows.lean that lists a variable, with what it lists TIED to the program's text (the seventh form; the later family's looks); each row that meets fmt, with fmt's text TOLD by the authors' own Lean function (tested against real Go, not proved from fmt's source: count such statements apart). THE CARD IS WHAT COUNTS. Prove the row's statement (the work); the ties are given (YtbendkndnojihaaDoorTie.lean); close each card by the builder's one call (the guide's Derived/Test/ToyasCard.lean, 'card_holds'). Laid BY PROGRAM, IN A SANDBOX (cutbox-door.mjs). By AI agents, Wed Nov 11 2026. No macro, syntax, notation, axiom, sorry.
-/
import Derived.Test.YtbendkndnojihaaDoorRows
import GoSem.ClaimSeven
namespace Go.Proofs.YtbendkndnojihaaDoor
namespace Rows

/-- THE TIED CARD OF 'slopelaw3.BitPlaces'. -/
def bitPlacesCard : Claim7 := { stood := { row := bitPlacesRow, standIns := [], harness := (true, "370a3d4aa598675cc2454378d392771fa051564cb1784810e3af5106e4f93a6f"), looks := false }, kinds := [], alts := [], laidByText := true, laidKinds := [.data], laidTests := true, laidLooks := .later }
def BitPlacesCardSaid : Prop := Claim7.holds Tryd.pinned (.plain (OpenSpec.ofChange bitPlacesSpec)) bitPlacesCard

/-- THE TIED CARD OF 'slopelaw3.BitRanks'. -/
def bitRanksCard : Claim7 := { stood := { row := bitRanksRow, standIns := [], harness := (true, "370a3d4aa598675cc2454378d392771fa051564cb1784810e3af5106e4f93a6f"), looks := false }, kinds := [], alts := [], laidByText := true, laidKinds := [.data], laidTests := true, laidLooks := .later }
def BitRanksCardSaid : Prop := Claim7.holds Tryd.pinned (.plain (OpenSpec.ofChange bitRanksSpec)) bitRanksCard

/-- THE TIED CARD OF 'slopelaw3.BitElements'. -/
def bitElementsCard : Claim7 := { stood := { row := bitElementsRow, standIns := [], harness := (true, "370a3d4aa598675cc2454378d392771fa051564cb1784810e3af5106e4f93a6f"), looks := false }, kinds := [], alts := [], laidByText := true, laidKinds := [.data], laidTests := true, laidLooks := .later }
def BitElementsCardSaid : Prop := Claim7.holds Tryd.pinned (.plain (OpenSpec.ofChange bitElementsSpec)) bitElementsCard

/-- THE TIED CARD OF 'slopelaw3.BitMoves'. -/
def bitMovesCard : Claim7 := { stood := { row := bitMovesRow, standIns := [], harness := (true, "370a3d4aa598675cc2454378d392771fa051564cb1784810e3af5106e4f93a6f"), looks := false }, kinds := [], alts := [], laidByText := true, laidKinds := [.data], laidTests := true, laidLooks := .later }
def BitMovesCardSaid : Prop := Claim7.holds Tryd.pinned (.plain (OpenSpec.ofChange bitMovesSpec)) bitMovesCard

/-- THE TIED CARD OF 'slopelaw3.BitTurned'. -/
def bitTurnedCard : Claim7 := { stood := { row := bitTurnedRow, standIns := [], harness := (true, "370a3d4aa598675cc2454378d392771fa051564cb1784810e3af5106e4f93a6f"), looks := false }, kinds := [], alts := [], laidByText := true, laidKinds := [.data], laidTests := true, laidLooks := .later }
def BitTurnedCardSaid : Prop := Claim7.holds Tryd.pinned (.plain (OpenSpec.ofChange bitTurnedSpec)) bitTurnedCard

/-- THE SECOND FORM's CARD OF 'slopelaw3.BitPlaces'. -/
def bitPlacesUptoCard : Claim7 := { stood := { row := bitPlacesUptoRow, standIns := [], harness := (true, "370a3d4aa598675cc2454378d392771fa051564cb1784810e3af5106e4f93a6f"), looks := false }, kinds := [], alts := [], laidByText := true, laidKinds := [.data], laidTests := true, laidLooks := .later }
def BitPlacesUptoCardSaid : Prop := Claim7.holds Tryd.pinned (.plain (OpenSpec.upto bitPlacesSpec)) bitPlacesUptoCard

/-- THE SECOND FORM's CARD OF 'slopelaw3.BitRanks'. -/
def bitRanksUptoCard : Claim7 := { stood := { row := bitRanksUptoRow, standIns := [], harness := (true, "370a3d4aa598675cc2454378d392771fa051564cb1784810e3af5106e4f93a6f"), looks := false }, kinds := [], alts := [], laidByText := true, laidKinds := [.data], laidTests := true, laidLooks := .later }
def BitRanksUptoCardSaid : Prop := Claim7.holds Tryd.pinned (.plain (OpenSpec.upto bitRanksSpec)) bitRanksUptoCard

/-- THE SECOND FORM's CARD OF 'slopelaw3.BitElements'. -/
def bitElementsUptoCard : Claim7 := { stood := { row := bitElementsUptoRow, standIns := [], harness := (true, "370a3d4aa598675cc2454378d392771fa051564cb1784810e3af5106e4f93a6f"), looks := false }, kinds := [], alts := [], laidByText := true, laidKinds := [.data], laidTests := true, laidLooks := .later }
def BitElementsUptoCardSaid : Prop := Claim7.holds Tryd.pinned (.plain (OpenSpec.upto bitElementsSpec)) bitElementsUptoCard

/-- THE SECOND FORM's CARD OF 'slopelaw3.BitMoves'. -/
def bitMovesUptoCard : Claim7 := { stood := { row := bitMovesUptoRow, standIns := [], harness := (true, "370a3d4aa598675cc2454378d392771fa051564cb1784810e3af5106e4f93a6f"), looks := false }, kinds := [], alts := [], laidByText := true, laidKinds := [.data], laidTests := true, laidLooks := .later }
def BitMovesUptoCardSaid : Prop := Claim7.holds Tryd.pinned (.plain (OpenSpec.upto bitMovesSpec)) bitMovesUptoCard

/-- THE SECOND FORM's CARD OF 'slopelaw3.BitTurned'. -/
def bitTurnedUptoCard : Claim7 := { stood := { row := bitTurnedUptoRow, standIns := [], harness := (true, "370a3d4aa598675cc2454378d392771fa051564cb1784810e3af5106e4f93a6f"), looks := false }, kinds := [], alts := [], laidByText := true, laidKinds := [.data], laidTests := true, laidLooks := .later }
def BitTurnedUptoCardSaid : Prop := Claim7.holds Tryd.pinned (.plain (OpenSpec.upto bitTurnedSpec)) bitTurnedUptoCard
end Rows
end Go.Proofs.YtbendkndnojihaaDoor
