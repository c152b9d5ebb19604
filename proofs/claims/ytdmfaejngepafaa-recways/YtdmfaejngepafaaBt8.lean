/-
  WHAT A LAW CARRIES ALONG; how its arguments are opened.
-/
import Derived.Test.YtdmfaejngepafaaBt7
import Derived.ProofKit
import Derived.OpenShut
import Derived.ShutString
import Derived.ChangeOld
import Derived.SizedLaws
namespace Go.Proofs.Ytdmfaejngepafaa
open Go.ChangeShapes Go.WideShapes Go.ChangeAt Go.RowKit Go.Deep
set_option linter.unusedVariables false

/-- A fact that new blocks do not change. -/
structure Fact where
  p : World → Prop
  st : ∀ {w w' : World}, Below w.heap.size w w' → p w → p w'
structure Facts (w0 w : World) (L : List Fact) : Prop where
  bel : Below w0.heap.size w0 w
  all : ∀ f ∈ L, f.p w
theorem Facts.step {w0 w w' : World} {L : List Fact} (h : Facts w0 w L) (k : Below w.heap.size w w') : Facts w0 w' L :=
  ⟨h.bel.trans (k.mono h.bel.size), fun f hf => f.st k (h.all f hf)⟩
theorem Facts.add {w0 w : World} {L : List Fact} (h : Facts w0 w L) (f : Fact) (hf : f.p w) : Facts w0 w (f :: L) :=
  ⟨h.bel, fun g hg => by rcases List.mem_cons.1 hg with rfl | hg; exact hf; exact h.all g hg⟩
def fW (a : Option Addr) (n c : Nat) (xs : List Nat) : Fact := ⟨fun w => SlW w a n c xs, fun k h => h.below k⟩
def fI (a : Option Addr) (n c : Nat) (xs : List Int) : Fact := ⟨fun w => SlI w a n c xs, fun k h => h.below k⟩
def fT (R : Nat) (v0 v1 : Value) : Fact := ⟨fun w => Two w R v0 v1, fun k h => h.keep k⟩
theorem Facts.w {w0 w : World} {L : List Fact} (h : Facts w0 w L) (a : Option Addr) (n c : Nat) (xs : List Nat) (hm : fW a n c xs ∈ L) : SlW w a n c xs := h.all _ hm
theorem Facts.i {w0 w : World} {L : List Fact} (h : Facts w0 w L) (a : Option Addr) (n c : Nat) (xs : List Int) (hm : fI a n c xs ∈ L) : SlI w a n c xs := h.all _ hm
theorem Facts.t {w0 w : World} {L : List Fact} (h : Facts w0 w L) (R : Nat) (v0 v1 : Value) (hm : fT R v0 v1 ∈ L) : Two w R v0 v1 := h.all _ hm
theorem Facts.box {w0 w : World} {L : List Fact} (h : Facts w0 w L) (v0 v1 : Value) (e : TypeId) : Facts w0 (w.alloc (.cells #[v0, v1] e)) (fT w.heap.size v0 v1 :: L) :=
  (h.step ((Below.refl _ _).alloc (Nat.le_refl _) _)).add (fT w.heap.size v0 v1) (Two.made _ _ _ _)
/-- A call's answer, laid in a variable. -/
theorem Facts.set {w0 w w' : World} {L : List Fact} (h : Facts w0 w L) {s : Int} {a : Option Addr} {n c : Nat} {xs : List Nat} (hs : SlW w' a n c xs) (hb : Below w.heap.size w w') (e : TypeId) :
    Facts w0 (w'.alloc (.cells #[.int .i64 s, .slice a n c] e)) (fT w'.heap.size (.int .i64 s) (.slice a n c) :: fW a n c xs :: L) :=
  ((h.step hb).add (fW a n c xs) hs).box _ _ _

theorem law_own : ownKnob Try.prog.godebug = none := by kernel_rfl
theorem law_laid : laidOutB Try.prog = true := by kernel_rfl

theorem law_bytesI : Try.prog.bytesOf 3 = 8 := by kernel_rfl
theorem law_cellsI : Try.prog.cellsOf 3 = 1 := by kernel_rfl
end Go.Proofs.Ytdmfaejngepafaa
