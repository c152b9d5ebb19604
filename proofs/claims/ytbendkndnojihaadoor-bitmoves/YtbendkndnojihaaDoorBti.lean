/-
  LISTS OF SETS; bitset.alike: its contract.
-/
import Derived.Test.YtbendkndnojihaaDoorBta
import Derived.Test.YtbendkndnojihaaDoorBth
namespace Go.Proofs.YtbendkndnojihaaDoor
open Go.RowKit Go.Deep
set_option linter.unusedVariables false

/-- A set in memory. -/
structure SetC where
  s : Int
  a : Option Addr
  n : Nat
  c : Nat
  xs : List Nat
def SetC.nul : SetC := ⟨0, none, 0, 0, []⟩
def SetC.In (e : SetC) (w : World) : Prop := SlW w e.a e.n e.c e.xs ∧ OkW e.xs
theorem SetC.In.below {e : SetC} {w w' : World} (h : e.In w) (k : Below w.heap.size w w') : e.In w' := ⟨h.1.below k, h.2⟩

/-- A slice of sets. -/
structure SlS (w : World) (a : Option Addr) (n c : Nat) (L : List SetC) : Prop where
  len : L.length = n
  le : n ≤ c
  cap : c ≤ maxLen
  cells : L = [] ∨ ∃ b off, a = some ⟨b, off, none⟩ ∧ ∀ i, i < L.length → w.cell? ⟨b, off + i * 2, none⟩ = some (.int .i64 (L.getD i .nul).s) ∧ w.cell? ⟨b, off + i * 2 + 1, none⟩ = some (.slice (L.getD i .nul).a (L.getD i .nul).n (L.getD i .nul).c)
  all : ∀ e ∈ L, e.In w
theorem SlS.below {w w' : World} {a : Option Addr} {n c : Nat} {L : List SetC} (h : SlS w a n c L) (hb : Below w.heap.size w w') : SlS w' a n c L :=
  ⟨h.len, h.le, h.cap, h.cells.imp id (fun ⟨b, off, e, k⟩ => ⟨b, off, e, fun i hi => ⟨below_cell hb (k i hi).1, below_cell hb (k i hi).2⟩⟩), fun e he => (h.all e he).below hb⟩
theorem SlS.at {w : World} {a : Option Addr} {n c : Nat} {L : List SetC} (h : SlS w a n c L) (hn : 0 < n) : ∃ b off, a = some ⟨b, off, none⟩ ∧ ∀ i, i < n → w.cell? ⟨b, off + i * 2, none⟩ = some (.int .i64 (L.getD i .nul).s) ∧ w.cell? ⟨b, off + i * 2 + 1, none⟩ = some (.slice (L.getD i .nul).a (L.getD i .nul).n (L.getD i .nul).c) := by
  rcases h.cells with e | ⟨b, off, e, k⟩
  · have := h.len; rw [e] at this; simp at this; omega
  · exact ⟨b, off, e, fun i hi => k i (by rw [h.len]; exact hi)⟩
theorem SlS.get {w : World} {a : Option Addr} {n c : Nat} {L : List SetC} (h : SlS w a n c L) (i : Nat) (hi : i < n) : (L.getD i .nul).In w := by
  have hl : i < L.length := by rw [h.len]; exact hi
  have : L.getD i .nul = L[i] := by simp [List.getD, hl]
  rw [this]; exact h.all _ (List.getElem_mem hl)

theorem any_takeS {l : List SetC} {k : Nat} (hk : k < l.length) (p : SetC → Bool) : (l.take (k + 1)).any p = (p (l.getD k .nul) || (l.take k).any p) := by
  rw [List.take_add_one, List.getElem?_eq_getElem hk, List.any_append, Bool.or_comm]
  simp [List.getD, hk]
theorem any_badS {l : List SetC} {p : SetC → Bool} {k : Nat} (hk : k < l.length) (h : p (l.getD k .nul) = true) : l.any p = true := by
  rw [List.any_eq_true]
  refine ⟨l[k], List.getElem_mem hk, ?_⟩
  simpa [List.getD, hk] using h

def notMay (e : SetC) : Bool := !MayS e.s e.xs
def offS (size : Int) (e : SetC) : Bool := decide (e.s ≠ size)
/-- Are they sets of one universe? -/
def alikeE (size : Int) (L : List SetC) : Int := if L.any notMay then 61 else if (!fitsI size) || L.any (offS size) then 60 else 0

end Go.Proofs.YtbendkndnojihaaDoor
