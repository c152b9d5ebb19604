/-
  DERIVED. GIVEN WITH THE SEED: THE CARDS: each row of YtbendkndnojihabDoorRows.lean that lists a variable, with what it lists TIED to the program's text (the seventh form; the later family's looks); each row that meets fmt, with fmt's text TOLD by the authors' own Lean function (tested against real Go, not proved from fmt's source: count such statements apart). THE CARD IS WHAT COUNTS. Prove the row's statement (the work); the ties are given (YtbendkndnojihabDoorTie.lean); close each card by the builder's one call (the guide's Derived/Test/ToyasCard.lean, 'card_holds'). Laid BY PROGRAM, IN A SANDBOX (cutbox-door.mjs). By AI agents, Wed Nov 11 2026. No macro, syntax, notation, axiom, sorry.
-/
import Derived.Test.YtbendkndnojihabDoorRows
import GoSem.ClaimSeven
namespace Go.Proofs.YtbendkndnojihabDoor
namespace Rows

/-- THE TIED CARD OF 'slopelaw3.BitClosed'. -/
def bitClosedCard : Claim7 := { stood := { row := bitClosedRow, standIns := [], harness := (true, "fd13cd02e12e41f4654a385bf10c182e9f498db0c7f563268fa398b67f2611d1"), looks := false }, kinds := [], alts := [], laidByText := true, laidKinds := [.data], laidTests := true, laidLooks := .later }
def BitClosedCardSaid : Prop := Claim7.holds Tryd.pinned (.plain (OpenSpec.ofChange bitClosedSpec)) bitClosedCard

/-- THE TIED CARD OF 'slopelaw3.BitPrints'. -/
def bitPrintsCard : Claim7 := { stood := { row := bitPrintsRow, standIns := [], harness := (true, "fd13cd02e12e41f4654a385bf10c182e9f498db0c7f563268fa398b67f2611d1"), looks := false }, kinds := [], alts := [], laidByText := true, laidKinds := [.data, .data, .data], laidTests := true, laidLooks := .later }
def BitPrintsCardSaid : Prop := Claim7.holds Tryd.pinned (.plain (OpenSpec.ofChange bitPrintsSpec)) bitPrintsCard

/-- THE TIED CARD OF 'slopelaw3.BitTables'. -/
def bitTablesCard : Claim7 := { stood := { row := bitTablesRow, standIns := [], harness := (true, "fd13cd02e12e41f4654a385bf10c182e9f498db0c7f563268fa398b67f2611d1"), looks := false }, kinds := [], alts := [], laidByText := true, laidKinds := [.data], laidTests := true, laidLooks := .later }
def BitTablesCardSaid : Prop := Claim7.holds Tryd.pinned (.plain (OpenSpec.ofChange bitTablesSpec)) bitTablesCard

/-- THE TIED CARD OF 'slopelaw3.BitProducts'. -/
def bitProductsCard : Claim7 := { stood := { row := bitProductsRow, standIns := [], harness := (true, "fd13cd02e12e41f4654a385bf10c182e9f498db0c7f563268fa398b67f2611d1"), looks := false }, kinds := [], alts := [], laidByText := true, laidKinds := [.data], laidTests := true, laidLooks := .later }
def BitProductsCardSaid : Prop := Claim7.holds Tryd.pinned (.plain (OpenSpec.ofChange bitProductsSpec)) bitProductsCard

/-- THE TIED CARD OF 'slopelaw3.BitRound'. -/
def bitRoundCard : Claim7 := { stood := { row := bitRoundRow, standIns := [], harness := (true, "fd13cd02e12e41f4654a385bf10c182e9f498db0c7f563268fa398b67f2611d1"), looks := false }, kinds := [], alts := [], laidByText := true, laidKinds := [.data, .data, .data], laidTests := true, laidLooks := .later }
def BitRoundCardSaid : Prop := Claim7.holds Tryd.pinned (.plain (OpenSpec.ofChange bitRoundSpec)) bitRoundCard

/-- THE SECOND FORM's CARD OF 'slopelaw3.BitClosed'. -/
def bitClosedUptoCard : Claim7 := { stood := { row := bitClosedUptoRow, standIns := [], harness := (true, "fd13cd02e12e41f4654a385bf10c182e9f498db0c7f563268fa398b67f2611d1"), looks := false }, kinds := [], alts := [], laidByText := true, laidKinds := [.data], laidTests := true, laidLooks := .later }
def BitClosedUptoCardSaid : Prop := Claim7.holds Tryd.pinned (.plain (OpenSpec.upto bitClosedSpec)) bitClosedUptoCard

/-- THE SECOND FORM's CARD OF 'slopelaw3.BitPrints'. -/
def bitPrintsUptoCard : Claim7 := { stood := { row := bitPrintsUptoRow, standIns := [], harness := (true, "fd13cd02e12e41f4654a385bf10c182e9f498db0c7f563268fa398b67f2611d1"), looks := false }, kinds := [], alts := [], laidByText := true, laidKinds := [.data, .data, .data], laidTests := true, laidLooks := .later }
def BitPrintsUptoCardSaid : Prop := Claim7.holds Tryd.pinned (.plain (OpenSpec.upto bitPrintsSpec)) bitPrintsUptoCard

/-- THE SECOND FORM's CARD OF 'slopelaw3.BitTables'. -/
def bitTablesUptoCard : Claim7 := { stood := { row := bitTablesUptoRow, standIns := [], harness := (true, "fd13cd02e12e41f4654a385bf10c182e9f498db0c7f563268fa398b67f2611d1"), looks := false }, kinds := [], alts := [], laidByText := true, laidKinds := [.data], laidTests := true, laidLooks := .later }
def BitTablesUptoCardSaid : Prop := Claim7.holds Tryd.pinned (.plain (OpenSpec.upto bitTablesSpec)) bitTablesUptoCard

/-- THE SECOND FORM's CARD OF 'slopelaw3.BitProducts'. -/
def bitProductsUptoCard : Claim7 := { stood := { row := bitProductsUptoRow, standIns := [], harness := (true, "fd13cd02e12e41f4654a385bf10c182e9f498db0c7f563268fa398b67f2611d1"), looks := false }, kinds := [], alts := [], laidByText := true, laidKinds := [.data], laidTests := true, laidLooks := .later }
def BitProductsUptoCardSaid : Prop := Claim7.holds Tryd.pinned (.plain (OpenSpec.upto bitProductsSpec)) bitProductsUptoCard

/-- THE SECOND FORM's CARD OF 'slopelaw3.BitRound'. -/
def bitRoundUptoCard : Claim7 := { stood := { row := bitRoundUptoRow, standIns := [], harness := (true, "fd13cd02e12e41f4654a385bf10c182e9f498db0c7f563268fa398b67f2611d1"), looks := false }, kinds := [], alts := [], laidByText := true, laidKinds := [.data, .data, .data], laidTests := true, laidLooks := .later }
def BitRoundUptoCardSaid : Prop := Claim7.holds Tryd.pinned (.plain (OpenSpec.upto bitRoundSpec)) bitRoundUptoCard
end Rows
end Go.Proofs.YtbendkndnojihabDoor
