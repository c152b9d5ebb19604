/-
  bitset's reader: ended, skip: contracts.
-/
import Derived.Test.YtdmfaejngepafaaBt3
import Derived.Test.YtdmfaejngepafaaBq0
namespace Go.Proofs.Ytdmfaejngepafaa
open Go.RowKit Go.Deep
set_option linter.unusedVariables false

def bySt (s : ByteArray) (i : Nat) : Nat := (s.get! i).toNat
theorem bySt_lt (s : ByteArray) (i : Nat) : bySt s i < 256 := by
  unfold bySt
  have := (s.get! i).toNat_lt
  omega

theorem bySt_get (s : ByteArray) (p : Nat) (h : p < s.size) : (s[p]'h).toNat = bySt s p := by
  unfold bySt
  cases s with
  | mk d =>
    have h2 : p < d.size := h
    show (d[p]'h2).toNat = (d[p]!).toNat
    simp [h2]
/-- Behind skip. -/
def skB (s : ByteArray) (p c : Nat) : Bool := decide (p < s.size) && (bySt s p == c)
def skP (s : ByteArray) (p c : Nat) : Nat := if skB s p c then p + 1 else p
theorem Two.put1 {w : World} {R : Nat} {v0 v1 : Value} (h : Two w R v0 v1) (u : Value) : Two (w.setCell ⟨R, 1, none⟩ u) R v0 u :=
  ⟨by rw [World.cell?_setCell_other _ _ _ _ (by simp)]; exact h.c0, World.cell?_setCell_same _ _ _ h.c1, by rw [World.frozen?_setCell]; exact h.f0, by rw [World.frozen?_setCell]; exact h.f1⟩

end Go.Proofs.Ytdmfaejngepafaa
