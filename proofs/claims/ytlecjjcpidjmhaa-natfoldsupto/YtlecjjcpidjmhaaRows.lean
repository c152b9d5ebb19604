/-
  No cell of these rows narrows 'for every input' (looked for: loops, veiled, ifaces, maps, wideKeys, modest, calm, conditions, laid).
  DERIVED. THE GIVEN ROWS OF THIS SEAT. 4 by the template 'for every input the law returns true; each argument reads behind the call as it read before'; 0 by the template 'total and deterministic' (their statements: YtlecjjcpidjmhaaTotals.lean).
  GIVEN WITH THE SEED: the statements are not yours to turn. If you find one false, say at which input.
  Laid BY PROGRAM, IN A SANDBOX (cutbox-rows.mjs): the forced cells as the released guide's own fill.sh prints them over the translation 9326ffbeec46c543… (all of the seat's roots in one cut). By AI agents, Wed Nov 11 2026. No macro, syntax, notation, axiom, sorry.
-/
import Derived.Test.YtlecjjcpidjmhaaChecked
import GoSem.Claim
import GoSem.ClaimJoined
import GoSem.ClaimMapViews
import Derived.JoinedTies
import Derived.KernelRfl
namespace Go.Proofs.Ytlecjjcpidjmhaa
/- THE CELL 'sum', in the pinned program and in every row, IS THE sha256 OF THE DUMP (.gsa) THAT YtlecjjcpidjmhaaProg.lean LOADS. Nothing in Lean hashes anything: it is a label: what it is worth is what the hold of that sum in a sandbox is worth. -/
noncomputable def Try.pinned : Pinned := { name := "ytlecjjcpidjmhaa", sum := "9326ffbeec46c5434f71ddc33bd7e132f4d6fbb2b58c43b94645e387d90fd758", checked := Try.checked }
namespace Rows
def none {H : Type} : Left H := { results := [], args := [] }

/-- 'slopelaw1.NatParses': WHATEVER THE INPUT: true; the input reads as it did. -/
def natParsesSpec : ChangeSpec := { name := "natParses", fn := fun _ => fun
  | [d1, d2] => { results := [.lit (.bool true)], args := [d1, d2] }
  | _ => none }
def natParsesRow : OpenClaim := { program := "ytlecjjcpidjmhaa", sum := "9326ffbeec46c5434f71ddc33bd7e132f4d6fbb2b58c43b94645e387d90fd758", func := "slope/slopelaw1.NatParses", spec := "natParses", apart := false }
def NatParsesSaid : Prop := natParsesRow.holds Try.pinned (OpenSpec.ofChange natParsesSpec)

/-- ITS FALSE NEIGHBOUR: 'it returns false'. Refute it at one input. -/
def natParsesWrong : ChangeSpec := { name := "natParses", fn := fun _ => fun
  | [d1, d2] => { results := [.lit (.bool false)], args := [d1, d2] }
  | _ => none }
def NatParsesWrongFalsely : Prop := natParsesRow.holds Try.pinned (OpenSpec.ofChange natParsesWrong)

/-- 'slopelaw1.NatPrints': WHATEVER THE INPUT: true; the input reads as it did. -/
def natPrintsSpec : ChangeSpec := { name := "natPrints", fn := fun _ => fun
  | [d1, d2] => { results := [.lit (.bool true)], args := [d1, d2] }
  | _ => none }
def natPrintsRow : OpenClaim := { program := "ytlecjjcpidjmhaa", sum := "9326ffbeec46c5434f71ddc33bd7e132f4d6fbb2b58c43b94645e387d90fd758", func := "slope/slopelaw1.NatPrints", spec := "natPrints", recurses := true, named := ["math/bits.overflowError"], apart := false }
def NatPrintsSaid : Prop := natPrintsRow.holds Try.pinned (OpenSpec.ofChange natPrintsSpec)

/-- ITS FALSE NEIGHBOUR: 'it returns false'. Refute it at one input. -/
def natPrintsWrong : ChangeSpec := { name := "natPrints", fn := fun _ => fun
  | [d1, d2] => { results := [.lit (.bool false)], args := [d1, d2] }
  | _ => none }
def NatPrintsWrongFalsely : Prop := natPrintsRow.holds Try.pinned (OpenSpec.ofChange natPrintsWrong)

/-- 'slopelaw1.NatTexts': WHATEVER THE INPUT: true; the input reads as it did. -/
def natTextsSpec : ChangeSpec := { name := "natTexts", fn := fun _ => fun
  | [d1, d2, d3] => { results := [.lit (.bool true)], args := [d1, d2, d3] }
  | _ => none }
def natTextsRow : OpenClaim := { program := "ytlecjjcpidjmhaa", sum := "9326ffbeec46c5434f71ddc33bd7e132f4d6fbb2b58c43b94645e387d90fd758", func := "slope/slopelaw1.NatTexts", spec := "natTexts", recurses := true, named := ["math/bits.overflowError"], apart := false }
def NatTextsSaid : Prop := natTextsRow.holds Try.pinned (OpenSpec.ofChange natTextsSpec)

/-- ITS FALSE NEIGHBOUR: 'it returns false'. Refute it at one input. -/
def natTextsWrong : ChangeSpec := { name := "natTexts", fn := fun _ => fun
  | [d1, d2, d3] => { results := [.lit (.bool false)], args := [d1, d2, d3] }
  | _ => none }
def NatTextsWrongFalsely : Prop := natTextsRow.holds Try.pinned (OpenSpec.ofChange natTextsWrong)

/-- 'slopelaw1.NatFolds': WHATEVER THE INPUT: true; the input reads as it did. -/
def natFoldsSpec : ChangeSpec := { name := "natFolds", fn := fun _ => fun
  | [d] => { results := [.lit (.bool true)], args := [d] }
  | _ => none }
def natFoldsRow : OpenClaim := { program := "ytlecjjcpidjmhaa", sum := "9326ffbeec46c5434f71ddc33bd7e132f4d6fbb2b58c43b94645e387d90fd758", func := "slope/slopelaw1.NatFolds", spec := "natFolds", recurses := true, apart := false }
def NatFoldsSaid : Prop := natFoldsRow.holds Try.pinned (OpenSpec.ofChange natFoldsSpec)

/-- ITS FALSE NEIGHBOUR: 'it returns false'. Refute it at one input. -/
def natFoldsWrong : ChangeSpec := { name := "natFolds", fn := fun _ => fun
  | [d] => { results := [.lit (.bool false)], args := [d] }
  | _ => none }
def NatFoldsWrongFalsely : Prop := natFoldsRow.holds Try.pinned (OpenSpec.ofChange natFoldsWrong)

/- THE SECOND FORM. 'bulk': how many values and letters a reading holds, each counted each time it is reached (what is shared counts as often as it is met; a slice's spare places count too). A statement '..UptoSaid' is the law's where the arguments, and the package variables that the reading takes, are together of bulk at most 1048576: NARROWER than '..Said'. Prove '..Said' where nothing that the law and all that it calls make is longer than what came in: it says more and counts as full. Else prove '..UptoSaid'. A law counts once. -/
mutual
def uptoBulk {H : Type} : DataW H → Nat
  | .lit (.string bytes) => bytes.length + 1
  | .lit _ => 1
  | .nil => 1
  | .ptr d => uptoBulk d + 1
  | .slice elems spare => uptoBulkAll elems + uptoBulkAll spare + 1
  | .agg parts => uptoBulkAll parts + 1
  | .iface _ d => uptoBulk d + 1
  | .map entries => uptoBulkEntries entries + 1
  | .held _ => 1
def uptoBulkAll {H : Type} : List (DataW H) → Nat
  | [] => 0
  | d :: r => uptoBulk d + uptoBulkAll r
def uptoBulkEntries {H : Type} : List (Lit × DataW H) → Nat
  | [] => 0
  | x :: r => uptoBulkEntry x + uptoBulkEntries r
def uptoBulkEntry {H : Type} : Lit × DataW H → Nat
  | (.string bytes, d) => bytes.length + uptoBulk d + 1
  | (_, d) => uptoBulk d + 1
 end
def uptoSmall : (H : Type) → List (DataW H) → Bool := fun _ ds => decide (uptoBulkAll ds ≤ 1048576)
def OpenSpec.upto (s : _root_.Go.ChangeSpec) : _root_.Go.OpenSpec := { _root_.Go.OpenSpec.ofChange s with cond := some uptoSmall }

/-- 'slopelaw1.NatParses', WHERE WHAT IT READS IS OF BULK AT MOST 1048576: true; the input reads as it did. -/
def natParsesUptoRow : OpenClaim := { program := "ytlecjjcpidjmhaa", sum := "9326ffbeec46c5434f71ddc33bd7e132f4d6fbb2b58c43b94645e387d90fd758", func := "slope/slopelaw1.NatParses", spec := "natParses", apart := false, narrowed := true }
def NatParsesUptoSaid : Prop := natParsesUptoRow.holds Try.pinned (OpenSpec.upto natParsesSpec)

/-- 'slopelaw1.NatPrints', WHERE WHAT IT READS IS OF BULK AT MOST 1048576: true; the input reads as it did. -/
def natPrintsUptoRow : OpenClaim := { program := "ytlecjjcpidjmhaa", sum := "9326ffbeec46c5434f71ddc33bd7e132f4d6fbb2b58c43b94645e387d90fd758", func := "slope/slopelaw1.NatPrints", spec := "natPrints", recurses := true, named := ["math/bits.overflowError"], apart := false, narrowed := true }
def NatPrintsUptoSaid : Prop := natPrintsUptoRow.holds Try.pinned (OpenSpec.upto natPrintsSpec)

/-- 'slopelaw1.NatTexts', WHERE WHAT IT READS IS OF BULK AT MOST 1048576: true; the input reads as it did. -/
def natTextsUptoRow : OpenClaim := { program := "ytlecjjcpidjmhaa", sum := "9326ffbeec46c5434f71ddc33bd7e132f4d6fbb2b58c43b94645e387d90fd758", func := "slope/slopelaw1.NatTexts", spec := "natTexts", recurses := true, named := ["math/bits.overflowError"], apart := false, narrowed := true }
def NatTextsUptoSaid : Prop := natTextsUptoRow.holds Try.pinned (OpenSpec.upto natTextsSpec)

/-- 'slopelaw1.NatFolds', WHERE WHAT IT READS IS OF BULK AT MOST 1048576: true; the input reads as it did. -/
def natFoldsUptoRow : OpenClaim := { program := "ytlecjjcpidjmhaa", sum := "9326ffbeec46c5434f71ddc33bd7e132f4d6fbb2b58c43b94645e387d90fd758", func := "slope/slopelaw1.NatFolds", spec := "natFolds", recurses := true, apart := false, narrowed := true }
def NatFoldsUptoSaid : Prop := natFoldsUptoRow.holds Try.pinned (OpenSpec.upto natFoldsSpec)

end Rows
end Go.Proofs.Ytlecjjcpidjmhaa
