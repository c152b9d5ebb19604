/-
  bitset: fits, bit, wordsFor, blank, put: contracts.
-/
import Derived.Test.YtdmfaejngepafaaBt0
import Derived.Test.YtdmfaejngepafaaBt1
namespace Go.Proofs.Ytdmfaejngepafaa
open Go.RowKit Go.Deep
set_option linter.unusedVariables false

theorem u64_nat {x : Nat} (h : x < 18446744073709551616) : IntKind.u64.wrap (x : Int) = (x : Int) := by
  show (x : Int) % 18446744073709551616 = x
  omega

theorem wrap_i64 (x : Int) : IntKind.i64.wrap x = (x + 9223372036854775808) % 18446744073709551616 - 9223372036854775808 := by
  simp [IntKind.wrap, IntKind.bits, IntKind.signed]
  split <;> omega

def fitsI (s : Int) : Bool := decide (0 ≤ s ∧ s ≤ 4096)
theorem fitsI_nat {s : Int} (h : fitsI s = true) : ∃ n : Nat, s = (n : Int) ∧ n ≤ 4096 := by
  simp [fitsI] at h
  obtain ⟨n, rfl⟩ := Int.eq_ofNat_of_zero_le h.1
  exact ⟨n, rfl, by omega⟩

def setV (s : Int) (a : Option Addr) (n c : Nat) : Value := .agg #[.int .i64 s, .slice a n c]
/-- A struct of two cells in memory. -/
structure Two (w : World) (R : Nat) (v0 v1 : Value) : Prop where
  c0 : w.cell? ⟨R, 0, none⟩ = some v0
  c1 : w.cell? ⟨R, 1, none⟩ = some v1
  f0 : w.frozen? ⟨R, 0, none⟩ = false
  f1 : w.frozen? ⟨R, 1, none⟩ = false
theorem Two.lt {w : World} {R : Nat} {v0 v1 : Value} (h : Two w R v0 v1) : R < w.heap.size := World.block_lt_of_cell? _ _ h.c0
theorem Two.made (w : World) (v0 v1 : Value) (e : TypeId) : Two (w.alloc (.cells #[v0, v1] e)) w.heap.size v0 v1 := ⟨by simp, by simp, by simp, by simp⟩
theorem Two.keep {w w' : World} {R : Nat} {v0 v1 : Value} (h : Two w R v0 v1) (k : Below w.heap.size w w') : Two w' R v0 v1 :=
  ⟨below_cell k h.c0, below_cell k h.c1, by rw [k.frozen h.lt]; exact h.f0, by rw [k.frozen h.lt]; exact h.f1⟩
theorem Two.set {w : World} {R : Nat} {v0 v1 : Value} (h : Two w R v0 v1) (u0 u1 : Value) : Two ((w.setCell ⟨R, 0, none⟩ u0).setCell ⟨R, 1, none⟩ u1) R u0 u1 := by
  have s0 : (w.setCell ⟨R, 0, none⟩ u0).cell? ⟨R, 0, none⟩ = some u0 := World.cell?_setCell_same _ _ _ h.c0
  have s1 : (w.setCell ⟨R, 0, none⟩ u0).cell? ⟨R, 1, none⟩ = some v1 := by rw [World.cell?_setCell_other _ _ _ _ (by simp)]; exact h.c1
  refine ⟨?_, World.cell?_setCell_same _ _ _ s1, ?_, ?_⟩
  · rw [World.cell?_setCell_other _ _ _ _ (by simp)]; exact s0
  · rw [World.frozen?_setCell, World.frozen?_setCell]; exact h.f0
  · rw [World.frozen?_setCell, World.frozen?_setCell]; exact h.f1
theorem Two.other {w : World} {R : Nat} {v0 v1 : Value} (h : Two w R v0 v1) (b i : Nat) (v : Value) (hne : b ≠ R) : Two (w.setCell ⟨b, i, none⟩ v) R v0 v1 :=
  ⟨by rw [World.cell?_setCell_other _ _ _ _ (by intro h; injection h with h1 h2; exact hne h1)]; exact h.c0,
   by rw [World.cell?_setCell_other _ _ _ _ (by intro h; injection h with h1 h2; exact hne h1)]; exact h.c1,
   by rw [World.frozen?_setCell]; exact h.f0, by rw [World.frozen?_setCell]; exact h.f1⟩
theorem Two.chg {S : Nat → Prop} {w w' : World} {R : Nat} {v0 v1 : Value} (h : Two w R v0 v1) (k : Chg S w w') (hs : ¬ S R) : Two w' R v0 v1 :=
  ⟨k.cell hs h.c0, k.cell hs h.c1, by rw [k.froz h.lt hs]; exact h.f0, by rw [k.froz h.lt hs]; exact h.f1⟩
theorem two_chg (w : World) (R : Nat) (u0 u1 : Value) : Chg (fun j => j = R) w ((w.setCell ⟨R, 0, none⟩ u0).setCell ⟨R, 1, none⟩ u1) :=
  (Chg.of_set (S := fun j => j = R) _ _ _ _ rfl).trans (Chg.of_set (S := fun j => j = R) _ _ _ _ rfl)
theorem two_below {w0 w : World} (h : Below w0.heap.size w0 w) (R : Nat) (hR : w0.heap.size ≤ R) (u0 u1 : Value) : Below w0.heap.size w0 ((w.setCell ⟨R, 0, none⟩ u0).setCell ⟨R, 1, none⟩ u1) :=
  (h.setCell (p := ⟨R, 0, none⟩) hR u0).setCell (p := ⟨R, 1, none⟩) hR u1
theorem FnG.two {α : Type} {g : α → Value} {w : World} {b off n : Nat} {f : Nat → α} (h : FnG g w b off n f) (R : Nat) (u0 u1 : Value) (hne : R ≠ b) : FnG g ((w.setCell ⟨R, 0, none⟩ u0).setCell ⟨R, 1, none⟩ u1) b off n f :=
  (h.other R 0 u0 hne).other R 1 u1 hne

/-- A set in new memory, that may be written. -/
def NewS (w w' : World) (s : Int) (n : Nat) (f : Nat → Nat) (v : Value) : Prop :=
  ∃ b c, v = setV s (some ⟨b, 0, none⟩) n c ∧ n ≤ c ∧ c ≤ maxLen ∧ w.heap.size ≤ b ∧ b < w'.heap.size ∧ FnW w' b 0 n f ∧ Below w.heap.size w w'

end Go.Proofs.Ytdmfaejngepafaa
