/-
  WORDS BESIDE A STRUCT.
-/
import Derived.Test.YtbendkndnojihabDoorBt2
namespace Go.Proofs.YtbendkndnojihabDoor
open Go.RowKit Go.Deep
set_option linter.unusedVariables false

/-- The words of a set lie not in a struct. -/
theorem SlW.two {w : World} {R : Nat} {s0 : Int} {a0 : Option Addr} {n0 c0 : Nat} {a : Option Addr} {n c : Nat} {xs : List Nat} (h : SlW w a n c xs) (t : Two w R (.int .i64 s0) (.slice a0 n0 c0)) (u0 u1 : Value) :
    SlW ((w.setCell ⟨R, 0, none⟩ u0).setCell ⟨R, 1, none⟩ u1) a n c xs := by
  refine ⟨h.len, h.le, h.cap, ?_⟩
  rcases h.cells with e | ⟨b, off, e, k⟩
  · exact .inl e
  · refine .inr ⟨b, off, e, fun i hi => ?_⟩
    have hc := k i hi
    have h0 : ¬ (R = b ∧ 0 = off + i) := by
      rintro ⟨rfl, hh⟩
      rw [← hh, t.c0] at hc
      cases hc
    have h1 : ¬ (R = b ∧ 1 = off + i) := by
      rintro ⟨rfl, hh⟩
      rw [← hh, t.c1] at hc
      cases hc
    rw [World.cell?_setCell_other _ _ _ _ (by intro h; injection h with e1 e2; exact h1 ⟨e1, e2⟩), World.cell?_setCell_other _ _ _ _ (by intro h; injection h with e1 e2; exact h0 ⟨e1, e2⟩)]
    exact hc

end Go.Proofs.YtbendkndnojihabDoor
