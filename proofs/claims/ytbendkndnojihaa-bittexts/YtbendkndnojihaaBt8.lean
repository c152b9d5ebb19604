/-
  WHAT A LAW CARRIES ALONG; how its arguments are opened.
-/
import Derived.Test.YtbendkndnojihaaBt7
import Derived.ProofKit
import Derived.OpenShut
import Derived.ShutString
import Derived.ChangeOld
import Derived.SizedLaws
namespace Go.Proofs.Ytbendkndnojihaa
open Go.ChangeShapes Go.WideShapes Go.ChangeAt Go.RowKit Go.Deep
set_option linter.unusedVariables false

/-- A fact that new blocks do not change. -/
structure Fact where
  p : World → Prop
  st : ∀ {w w' : World}, Below w.heap.size w w' → p w → p w'
structure Facts (w0 w : World) (L : List Fact) : Prop where
  bel : Below w0.heap.size w0 w
  all : ∀ f ∈ L, f.p w
theorem Facts.step {w0 w w' : World} {L : List Fact} (h : Facts w0 w L) (k : Below w.heap.size w w') : Facts w0 w' L :=
  ⟨h.bel.trans (k.mono h.bel.size), fun f hf => f.st k (h.all f hf)⟩
theorem Facts.add {w0 w : World} {L : List Fact} (h : Facts w0 w L) (f : Fact) (hf : f.p w) : Facts w0 w (f :: L) :=
  ⟨h.bel, fun g hg => by rcases List.mem_cons.1 hg with rfl | hg; exact hf; exact h.all g hg⟩
def fW (a : Option Addr) (n c : Nat) (xs : List Nat) : Fact := ⟨fun w => SlW w a n c xs, fun k h => h.below k⟩
def fI (a : Option Addr) (n c : Nat) (xs : List Int) : Fact := ⟨fun w => SlI w a n c xs, fun k h => h.below k⟩
def fT (R : Nat) (v0 v1 : Value) : Fact := ⟨fun w => Two w R v0 v1, fun k h => h.keep k⟩
theorem Facts.w {w0 w : World} {L : List Fact} (h : Facts w0 w L) (a : Option Addr) (n c : Nat) (xs : List Nat) (hm : fW a n c xs ∈ L) : SlW w a n c xs := h.all _ hm
theorem Facts.i {w0 w : World} {L : List Fact} (h : Facts w0 w L) (a : Option Addr) (n c : Nat) (xs : List Int) (hm : fI a n c xs ∈ L) : SlI w a n c xs := h.all _ hm
theorem Facts.t {w0 w : World} {L : List Fact} (h : Facts w0 w L) (R : Nat) (v0 v1 : Value) (hm : fT R v0 v1 ∈ L) : Two w R v0 v1 := h.all _ hm
theorem Facts.box {w0 w : World} {L : List Fact} (h : Facts w0 w L) (v0 v1 : Value) (e : TypeId) : Facts w0 (w.alloc (.cells #[v0, v1] e)) (fT w.heap.size v0 v1 :: L) :=
  (h.step ((Below.refl _ _).alloc (Nat.le_refl _) _)).add (fT w.heap.size v0 v1) (Two.made _ _ _ _)
/-- A call's answer, laid in a variable. -/
theorem Facts.set {w0 w w' : World} {L : List Fact} (h : Facts w0 w L) {s : Int} {a : Option Addr} {n c : Nat} {xs : List Nat} (hs : SlW w' a n c xs) (hb : Below w.heap.size w w') (e : TypeId) :
    Facts w0 (w'.alloc (.cells #[.int .i64 s, .slice a n c] e)) (fT w'.heap.size (.int .i64 s) (.slice a n c) :: fW a n c xs :: L) :=
  ((h.step hb).add (fW a n c xs) hs).box _ _ _

theorem law_own : ownKnob Try.prog.godebug = none := by kernel_rfl
theorem law_laid : laidOutB Try.prog = true := by kernel_rfl

theorem law_bytesI : Try.prog.bytesOf 3 = 8 := by kernel_rfl
theorem law_cellsI : Try.prog.cellsOf 3 = 1 := by kernel_rfl
/-- A list of numbers that is handed in. -/
theorem arg_ints {H : Type} {enc : TypeId × Value → H} {W : World} {a : Option Addr} {n c : Nat} {d : DataW H} {p : List MemPlace}
    (h : DataW.Trod enc Try.prog W 0 (fun _ => true) true 42 (.slice a n c) d p) (hz : ∀ el sp, d = .slice el sp → (el.length + sp.length) * Try.prog.bytesOf 3 ≤ reachBytes) :
    ∃ xs, SlI W a n c xs ∧ (∀ x ∈ xs, -9223372036854775808 ≤ x ∧ x ≤ 9223372036854775807) ∧ n ≤ 17592186043904 ∧ (a = none → n = 0 ∧ c = 0) := by
  obtain ⟨fuel, hf⟩ := h
  rcases open_ints Try.underlying42 Try.underlying3 law_cellsI hf with ⟨hcs, _⟩ | ⟨x, l, k, zs, hcs, _, hl, hm, hzl, hx, hcell, hwz⟩
  · simp [Value.cells] at hcs
    obtain ⟨rfl, rfl, rfl⟩ := hcs
    exact ⟨[], SlG.nil _, (fun x hx => by cases hx), Nat.zero_le _, fun _ => ⟨rfl, rfl⟩⟩
  · simp [Value.cells] at hcs
    obtain ⟨rfl, rfl, rfl⟩ := hcs
    have hzl' : zs.length = c := by simpa using hzl
    have hd : d = .slice (lits .i64 (zs.take n)) (lits .i64 (zs.drop n)) := by injection hx
    have hb := hz _ _ hd
    have hlen : (lits (H := H) .i64 (zs.take n)).length + (lits (H := H) .i64 (zs.drop n)).length = c := by
      simp [lits]; omega
    rw [hlen, law_bytesI] at hb
    unfold reachBytes at hb
    refine ⟨zs.take n, ⟨by simp; omega, hl, hm, ?_⟩, fun y hy => bounds_i64 (hwz y (List.mem_of_mem_take hy)), by omega, fun h => by cases h⟩
    by_cases h0 : n = 0
    · left; subst h0; simp
    · right
      obtain ⟨b, off, spot⟩ := x
      have c0 := hcell 0 (by omega)
      have hspot : spot = none := by simpa [Addr.add] using World.cell?_spot c0
      subst hspot
      refine ⟨b, off, rfl, ?_⟩
      intro i hi
      have hi' : i < n := by simp at hi; omega
      have := hcell i (by omega)
      rw [addr_add] at this
      rw [this]
      simp [vI, List.getD, hi', show i < zs.length from by omega]
end Go.Proofs.Ytbendkndnojihaa
