/-
  No cell of these rows narrows 'for every input' (looked for: loops, veiled, ifaces, maps, wideKeys, modest, calm, conditions, laid).
  DERIVED. THE GIVEN ROWS OF THIS SEAT. 6 by the template 'for every input the law returns true; each argument reads behind the call as it read before'; 0 by the template 'total and deterministic' (their statements: YtgjokididdffhaaGreatTotals.lean).
  GIVEN WITH THE SEED: the statements are not yours to turn. If you find one false, say at which input.
  Laid BY PROGRAM, IN A SANDBOX (cutbox-rows.mjs): the forced cells as the released guide's own fill.sh prints them over the translation 9be80f18bbd7d5d7… (all of the seat's roots in one cut). By AI agents, Wed Nov 11 2026. No macro, syntax, notation, axiom, sorry.
-/
import Derived.Test.YtgjokididdffhaaGreatChecked
import GoSem.Claim
import GoSem.ClaimJoined
import GoSem.ClaimMapViews
import Derived.JoinedTies
import Derived.KernelRfl
namespace Go.Proofs.YtgjokididdffhaaGreat
/- THE CELL 'sum', in the pinned program and in every row, IS THE sha256 OF THE DUMP (.gsa) THAT YtgjokididdffhaaGreatProg.lean LOADS. Nothing in Lean hashes anything: it is a label: what it is worth is what the hold of that sum in a sandbox is worth. -/
noncomputable def Tryz.pinned : Pinned := { name := "ytgjokididdffhaagreat", sum := "9be80f18bbd7d5d74586de5e1e33fd826df2803e75be0c3645a1b44abfe2bc5b", checked := Tryz.checked }
namespace Rows
def none {H : Type} : Left H := { results := [], args := [] }

/-- 'slopelaw12.ColourReached': WHATEVER THE INPUT: true; the input reads as it did. -/
def colourReachedSpec : ChangeSpec := { name := "colourReached", fn := fun _ => fun
  | [d1, d2] => { results := [.lit (.bool true)], args := [d1, d2] }
  | _ => none }
def colourReachedRow : OpenClaim := { program := "ytgjokididdffhaagreat", sum := "9be80f18bbd7d5d74586de5e1e33fd826df2803e75be0c3645a1b44abfe2bc5b", func := "slope/slopelaw12.ColourReached", spec := "colourReached", unfollowed := true, recurses := true, plainKeys := false, apart := false }
def ColourReachedSaid : Prop := colourReachedRow.holds Tryz.pinned (OpenSpec.ofChange colourReachedSpec)

/-- ITS FALSE NEIGHBOUR: 'it returns false'. Refute it at one input. -/
def colourReachedWrong : ChangeSpec := { name := "colourReached", fn := fun _ => fun
  | [d1, d2] => { results := [.lit (.bool false)], args := [d1, d2] }
  | _ => none }
def ColourReachedWrongFalsely : Prop := colourReachedRow.holds Tryz.pinned (OpenSpec.ofChange colourReachedWrong)

/-- 'slopelaw12.ColourShown': WHATEVER THE INPUT: true; the input reads as it did. -/
def colourShownSpec : ChangeSpec := { name := "colourShown", fn := fun _ => fun
  | [d1, d2, d3] => { results := [.lit (.bool true)], args := [d1, d2, d3] }
  | _ => none }
def colourShownRow : OpenClaim := { program := "ytgjokididdffhaagreat", sum := "9be80f18bbd7d5d74586de5e1e33fd826df2803e75be0c3645a1b44abfe2bc5b", func := "slope/slopelaw12.ColourShown", spec := "colourShown", unfollowed := true, recurses := true, plainKeys := false, apart := false }
def ColourShownSaid : Prop := colourShownRow.holds Tryz.pinned (OpenSpec.ofChange colourShownSpec)

/-- ITS FALSE NEIGHBOUR: 'it returns false'. Refute it at one input. -/
def colourShownWrong : ChangeSpec := { name := "colourShown", fn := fun _ => fun
  | [d1, d2, d3] => { results := [.lit (.bool false)], args := [d1, d2, d3] }
  | _ => none }
def ColourShownWrongFalsely : Prop := colourShownRow.holds Tryz.pinned (OpenSpec.ofChange colourShownWrong)

/-- 'slopelaw12.ColourGreedyLeast': WHATEVER THE INPUT: true; the input reads as it did. -/
def colourGreedyLeastSpec : ChangeSpec := { name := "colourGreedyLeast", fn := fun _ => fun
  | [d1, d2, d3] => { results := [.lit (.bool true)], args := [d1, d2, d3] }
  | _ => none }
def colourGreedyLeastRow : OpenClaim := { program := "ytgjokididdffhaagreat", sum := "9be80f18bbd7d5d74586de5e1e33fd826df2803e75be0c3645a1b44abfe2bc5b", func := "slope/slopelaw12.ColourGreedyLeast", spec := "colourGreedyLeast", unfollowed := true, recurses := true, plainKeys := false, apart := false }
def ColourGreedyLeastSaid : Prop := colourGreedyLeastRow.holds Tryz.pinned (OpenSpec.ofChange colourGreedyLeastSpec)

/-- ITS FALSE NEIGHBOUR: 'it returns false'. Refute it at one input. -/
def colourGreedyLeastWrong : ChangeSpec := { name := "colourGreedyLeast", fn := fun _ => fun
  | [d1, d2, d3] => { results := [.lit (.bool false)], args := [d1, d2, d3] }
  | _ => none }
def ColourGreedyLeastWrongFalsely : Prop := colourGreedyLeastRow.holds Tryz.pinned (OpenSpec.ofChange colourGreedyLeastWrong)

/-- 'slopelaw12.ColourKinds': WHATEVER THE INPUT: true; the input reads as it did. -/
def colourKindsSpec : ChangeSpec := { name := "colourKinds", fn := fun _ => fun
  | [d1, d2, d3, d4] => { results := [.lit (.bool true)], args := [d1, d2, d3, d4] }
  | _ => none }
def colourKindsRow : OpenClaim := { program := "ytgjokididdffhaagreat", sum := "9be80f18bbd7d5d74586de5e1e33fd826df2803e75be0c3645a1b44abfe2bc5b", func := "slope/slopelaw12.ColourKinds", spec := "colourKinds", unfollowed := true, recurses := true, plainKeys := false, apart := false }
def ColourKindsSaid : Prop := colourKindsRow.holds Tryz.pinned (OpenSpec.ofChange colourKindsSpec)

/-- ITS FALSE NEIGHBOUR: 'it returns false'. Refute it at one input. -/
def colourKindsWrong : ChangeSpec := { name := "colourKinds", fn := fun _ => fun
  | [d1, d2, d3, d4] => { results := [.lit (.bool false)], args := [d1, d2, d3, d4] }
  | _ => none }
def ColourKindsWrongFalsely : Prop := colourKindsRow.holds Tryz.pinned (OpenSpec.ofChange colourKindsWrong)

/-- 'slopelaw12.ColourLeast': WHATEVER THE INPUT: true; the input reads as it did. -/
def colourLeastSpec : ChangeSpec := { name := "colourLeast", fn := fun _ => fun
  | [d1, d2] => { results := [.lit (.bool true)], args := [d1, d2] }
  | _ => none }
def colourLeastRow : OpenClaim := { program := "ytgjokididdffhaagreat", sum := "9be80f18bbd7d5d74586de5e1e33fd826df2803e75be0c3645a1b44abfe2bc5b", func := "slope/slopelaw12.ColourLeast", spec := "colourLeast", unfollowed := true, recurses := true, plainKeys := false, apart := false }
def ColourLeastSaid : Prop := colourLeastRow.holds Tryz.pinned (OpenSpec.ofChange colourLeastSpec)

/-- ITS FALSE NEIGHBOUR: 'it returns false'. Refute it at one input. -/
def colourLeastWrong : ChangeSpec := { name := "colourLeast", fn := fun _ => fun
  | [d1, d2] => { results := [.lit (.bool false)], args := [d1, d2] }
  | _ => none }
def ColourLeastWrongFalsely : Prop := colourLeastRow.holds Tryz.pinned (OpenSpec.ofChange colourLeastWrong)

/-- 'slopelaw12.ColourChecks': WHATEVER THE INPUT: true; the input reads as it did. -/
def colourChecksSpec : ChangeSpec := { name := "colourChecks", fn := fun _ => fun
  | [d1, d2, d3] => { results := [.lit (.bool true)], args := [d1, d2, d3] }
  | _ => none }
def colourChecksRow : OpenClaim := { program := "ytgjokididdffhaagreat", sum := "9be80f18bbd7d5d74586de5e1e33fd826df2803e75be0c3645a1b44abfe2bc5b", func := "slope/slopelaw12.ColourChecks", spec := "colourChecks", unfollowed := true, recurses := true, plainKeys := false, apart := false }
def ColourChecksSaid : Prop := colourChecksRow.holds Tryz.pinned (OpenSpec.ofChange colourChecksSpec)

/-- ITS FALSE NEIGHBOUR: 'it returns false'. Refute it at one input. -/
def colourChecksWrong : ChangeSpec := { name := "colourChecks", fn := fun _ => fun
  | [d1, d2, d3] => { results := [.lit (.bool false)], args := [d1, d2, d3] }
  | _ => none }
def ColourChecksWrongFalsely : Prop := colourChecksRow.holds Tryz.pinned (OpenSpec.ofChange colourChecksWrong)

/- THE SECOND FORM. 'bulk': how many values and letters a reading holds, each counted each time it is reached (what is shared counts as often as it is met; a slice's spare places count too). A statement '..UptoSaid' is the law's where the arguments, and the package variables that the reading takes, are together of bulk at most 1048576: NARROWER than '..Said'. Prove '..Said' where nothing that the law and all that it calls make is longer than what came in: it says more and counts as full. Else prove '..UptoSaid'. A law counts once. -/
mutual
def uptoBulk {H : Type} : DataW H → Nat
  | .lit (.string bytes) => bytes.length + 1
  | .lit _ => 1
  | .nil => 1
  | .ptr d => uptoBulk d + 1
  | .slice elems spare => uptoBulkAll elems + uptoBulkAll spare + 1
  | .agg parts => uptoBulkAll parts + 1
  | .iface _ d => uptoBulk d + 1
  | .map entries => uptoBulkEntries entries + 1
  | .held _ => 1
def uptoBulkAll {H : Type} : List (DataW H) → Nat
  | [] => 0
  | d :: r => uptoBulk d + uptoBulkAll r
def uptoBulkEntries {H : Type} : List (Lit × DataW H) → Nat
  | [] => 0
  | x :: r => uptoBulkEntry x + uptoBulkEntries r
def uptoBulkEntry {H : Type} : Lit × DataW H → Nat
  | (.string bytes, d) => bytes.length + uptoBulk d + 1
  | (_, d) => uptoBulk d + 1
 end
def uptoSmall : (H : Type) → List (DataW H) → Bool := fun _ ds => decide (uptoBulkAll ds ≤ 1048576)
def OpenSpec.upto (s : _root_.Go.ChangeSpec) : _root_.Go.OpenSpec := { _root_.Go.OpenSpec.ofChange s with cond := some uptoSmall }

/-- 'slopelaw12.ColourReached', WHERE WHAT IT READS IS OF BULK AT MOST 1048576: true; the input reads as it did. -/
def colourReachedUptoRow : OpenClaim := { program := "ytgjokididdffhaagreat", sum := "9be80f18bbd7d5d74586de5e1e33fd826df2803e75be0c3645a1b44abfe2bc5b", func := "slope/slopelaw12.ColourReached", spec := "colourReached", unfollowed := true, recurses := true, plainKeys := false, apart := false, narrowed := true }
def ColourReachedUptoSaid : Prop := colourReachedUptoRow.holds Tryz.pinned (OpenSpec.upto colourReachedSpec)

/-- 'slopelaw12.ColourShown', WHERE WHAT IT READS IS OF BULK AT MOST 1048576: true; the input reads as it did. -/
def colourShownUptoRow : OpenClaim := { program := "ytgjokididdffhaagreat", sum := "9be80f18bbd7d5d74586de5e1e33fd826df2803e75be0c3645a1b44abfe2bc5b", func := "slope/slopelaw12.ColourShown", spec := "colourShown", unfollowed := true, recurses := true, plainKeys := false, apart := false, narrowed := true }
def ColourShownUptoSaid : Prop := colourShownUptoRow.holds Tryz.pinned (OpenSpec.upto colourShownSpec)

/-- 'slopelaw12.ColourGreedyLeast', WHERE WHAT IT READS IS OF BULK AT MOST 1048576: true; the input reads as it did. -/
def colourGreedyLeastUptoRow : OpenClaim := { program := "ytgjokididdffhaagreat", sum := "9be80f18bbd7d5d74586de5e1e33fd826df2803e75be0c3645a1b44abfe2bc5b", func := "slope/slopelaw12.ColourGreedyLeast", spec := "colourGreedyLeast", unfollowed := true, recurses := true, plainKeys := false, apart := false, narrowed := true }
def ColourGreedyLeastUptoSaid : Prop := colourGreedyLeastUptoRow.holds Tryz.pinned (OpenSpec.upto colourGreedyLeastSpec)

/-- 'slopelaw12.ColourKinds', WHERE WHAT IT READS IS OF BULK AT MOST 1048576: true; the input reads as it did. -/
def colourKindsUptoRow : OpenClaim := { program := "ytgjokididdffhaagreat", sum := "9be80f18bbd7d5d74586de5e1e33fd826df2803e75be0c3645a1b44abfe2bc5b", func := "slope/slopelaw12.ColourKinds", spec := "colourKinds", unfollowed := true, recurses := true, plainKeys := false, apart := false, narrowed := true }
def ColourKindsUptoSaid : Prop := colourKindsUptoRow.holds Tryz.pinned (OpenSpec.upto colourKindsSpec)

/-- 'slopelaw12.ColourLeast', WHERE WHAT IT READS IS OF BULK AT MOST 1048576: true; the input reads as it did. -/
def colourLeastUptoRow : OpenClaim := { program := "ytgjokididdffhaagreat", sum := "9be80f18bbd7d5d74586de5e1e33fd826df2803e75be0c3645a1b44abfe2bc5b", func := "slope/slopelaw12.ColourLeast", spec := "colourLeast", unfollowed := true, recurses := true, plainKeys := false, apart := false, narrowed := true }
def ColourLeastUptoSaid : Prop := colourLeastUptoRow.holds Tryz.pinned (OpenSpec.upto colourLeastSpec)

/-- 'slopelaw12.ColourChecks', WHERE WHAT IT READS IS OF BULK AT MOST 1048576: true; the input reads as it did. -/
def colourChecksUptoRow : OpenClaim := { program := "ytgjokididdffhaagreat", sum := "9be80f18bbd7d5d74586de5e1e33fd826df2803e75be0c3645a1b44abfe2bc5b", func := "slope/slopelaw12.ColourChecks", spec := "colourChecks", unfollowed := true, recurses := true, plainKeys := false, apart := false, narrowed := true }
def ColourChecksUptoSaid : Prop := colourChecksUptoRow.holds Tryz.pinned (OpenSpec.upto colourChecksSpec)

end Rows
end Go.Proofs.YtgjokididdffhaaGreat
