/-
  DERIVED. GIVEN WITH THE SEED: THE CARDS: each row of YtpicknbdfjjflaaGreatDoorRows.lean that lists a variable, with what it lists TIED to the program's text (the seventh form; the later family's looks); each row that meets fmt, with fmt's text TOLD by the authors' own Lean function (tested against real Go, not proved from fmt's source: count such statements apart). THE CARD IS WHAT COUNTS. Prove the row's statement (the work); the ties are given (YtpicknbdfjjflaaGreatDoorTie.lean); close each card by the builder's one call (the guide's Derived/Test/ToyasCard.lean, 'card_holds'). Laid BY PROGRAM, IN A SANDBOX (cutbox-door.mjs). By AI agents, Wed Nov 11 2026. No macro, syntax, notation, axiom, sorry.
-/
import Derived.Test.YtpicknbdfjjflaaGreatDoorRows
import GoSem.ClaimSeven
namespace Go.Proofs.YtpicknbdfjjflaaGreatDoor
namespace Rows

/-- THE TIED CARD OF 'slopelaw5.TapeChecks'. -/
def tapeChecksCard : Claim7 := { stood := { row := tapeChecksRow, standIns := [], harness := (true, "ec14988e7b1e0e94de90a863113c498b3b3ba9258aeafb29d32c48c2ebd0330d"), looks := false }, kinds := [], alts := [], laidByText := true, laidKinds := [.data, .data, .data, .data], laidTests := true, laidLooks := .later }
def TapeChecksCardSaid : Prop := Claim7.holds Tryz.pinned (.plain (OpenSpec.ofChange tapeChecksSpec)) tapeChecksCard

/-- THE TIED CARD OF 'slopelaw5.TapePrints'. -/
def tapePrintsCard : Claim7 := { stood := { row := tapePrintsRow, standIns := [], harness := (true, "ec14988e7b1e0e94de90a863113c498b3b3ba9258aeafb29d32c48c2ebd0330d"), looks := false }, kinds := [], alts := [], laidByText := true, laidKinds := [.data, .data, .data, .data], laidTests := true, laidLooks := .later }
def TapePrintsCardSaid : Prop := Claim7.holds Tryz.pinned (.plain (OpenSpec.ofChange tapePrintsSpec)) tapePrintsCard

/-- THE TIED CARD OF 'slopelaw5.TapeLives'. -/
def tapeLivesCard : Claim7 := { stood := { row := tapeLivesRow, standIns := [], harness := (true, "ec14988e7b1e0e94de90a863113c498b3b3ba9258aeafb29d32c48c2ebd0330d"), looks := false }, kinds := [], alts := [], laidByText := true, laidKinds := [.data, .data, .data, .data], laidTests := true, laidLooks := .later }
def TapeLivesCardSaid : Prop := Claim7.holds Tryz.pinned (.plain (OpenSpec.ofChange tapeLivesSpec)) tapeLivesCard

/-- THE SECOND FORM's CARD OF 'slopelaw5.TapeChecks'. -/
def tapeChecksUptoCard : Claim7 := { stood := { row := tapeChecksUptoRow, standIns := [], harness := (true, "ec14988e7b1e0e94de90a863113c498b3b3ba9258aeafb29d32c48c2ebd0330d"), looks := false }, kinds := [], alts := [], laidByText := true, laidKinds := [.data, .data, .data, .data], laidTests := true, laidLooks := .later }
def TapeChecksUptoCardSaid : Prop := Claim7.holds Tryz.pinned (.plain (OpenSpec.upto tapeChecksSpec)) tapeChecksUptoCard

/-- THE SECOND FORM's CARD OF 'slopelaw5.TapePrints'. -/
def tapePrintsUptoCard : Claim7 := { stood := { row := tapePrintsUptoRow, standIns := [], harness := (true, "ec14988e7b1e0e94de90a863113c498b3b3ba9258aeafb29d32c48c2ebd0330d"), looks := false }, kinds := [], alts := [], laidByText := true, laidKinds := [.data, .data, .data, .data], laidTests := true, laidLooks := .later }
def TapePrintsUptoCardSaid : Prop := Claim7.holds Tryz.pinned (.plain (OpenSpec.upto tapePrintsSpec)) tapePrintsUptoCard

/-- THE SECOND FORM's CARD OF 'slopelaw5.TapeLives'. -/
def tapeLivesUptoCard : Claim7 := { stood := { row := tapeLivesUptoRow, standIns := [], harness := (true, "ec14988e7b1e0e94de90a863113c498b3b3ba9258aeafb29d32c48c2ebd0330d"), looks := false }, kinds := [], alts := [], laidByText := true, laidKinds := [.data, .data, .data, .data], laidTests := true, laidLooks := .later }
def TapeLivesUptoCardSaid : Prop := Claim7.holds Tryz.pinned (.plain (OpenSpec.upto tapeLivesSpec)) tapeLivesUptoCard
end Rows
end Go.Proofs.YtpicknbdfjjflaaGreatDoor
