/-
  SLICES OF LIMBS IN MEMORY; the small functions.
-/
import Derived.Test.YtppdpdkldokacaaRows
import Derived.Test.YtppdpdkldokacaaNum
import Derived.WalkKit
import Derived.WalkSpells
import Derived.WalkLawsBesides
import Derived.Deep.QuietTactic
import Derived.BigQuiet
import Derived.Deep.OwnRows
namespace Go.Proofs.Ytppdpdkldokacaa
open Go.RowKit Go.Deep
set_option linter.unusedVariables false

theorem hide {p : Prop} (h : p) : Hid p := h
theorem unhide {p : Prop} (h : Hid p) : p := h

theorem drewN_add (w : World) (a b : Nat) : (w.drewN a).drewN b = w.drewN (a + b) := by simp [World.drewN, Nat.add_assoc]

theorem drewN_add3 (w : World) (a b c : Nat) : ((w.drewN a).drewN b).drewN c = w.drewN (a + b + c) := by rw [drewN_add, drewN_add, Nat.add_assoc]

def Cells (w : World) (b off : Nat) (xs : List Nat) : Prop :=
  ∀ i, i < xs.length → w.cell? ⟨b, off + i, none⟩ = some (.int .u32 (xs.getD i 0 : Nat))

structure Sl (w : World) (a : Option Addr) (n c : Nat) (xs : List Nat) : Prop where
  len : xs.length = n
  le : n ≤ c
  cap : c ≤ maxLen
  cells : xs = [] ∨ ∃ b off, a = some ⟨b, off, none⟩ ∧ Cells w b off xs

/-- What may be. -/
def MayL (xs : List Nat) : Bool := decide (xs.length ≤ 2048) && (xs.isEmpty || xs.getD (xs.length - 1) 0 != 0)

theorem MayL.norm {xs : List Nat} (h : MayL xs = true) : Norm xs := by
  simp only [MayL, Bool.and_eq_true, Bool.or_eq_true, decide_eq_true_eq, List.isEmpty_iff, bne_iff_ne] at h
  exact h.2
theorem MayL.len {xs : List Nat} (h : MayL xs = true) : xs.length ≤ 2048 := by
  simp only [MayL, Bool.and_eq_true, decide_eq_true_eq] at h
  exact h.1
theorem MayL.mk {xs : List Nat} (h : Norm xs) (k : xs.length ≤ 2048) : MayL xs = true := by
  simp only [MayL, Bool.and_eq_true, Bool.or_eq_true, decide_eq_true_eq, List.isEmpty_iff, bne_iff_ne]
  exact ⟨k, h⟩

/-! ### rows that are written -/
def Fn (w : World) (b off n : Nat) (f : Nat → Nat) : Prop :=
  ∀ i, i < n → w.cell? ⟨b, off + i, none⟩ = some (.int .u32 (f i : Nat)) ∧ w.frozen? ⟨b, off + i, none⟩ = false

theorem Fn.set {w : World} {b off n : Nat} {f : Nat → Nat} (h : Fn w b off n f) (k v : Nat) (hk : k < n) :
    Fn (w.setCell ⟨b, off + k, none⟩ (.int .u32 (v : Nat))) b off n (fun i => if i = k then v else f i) := by
  intro i hi
  refine ⟨?_, by rw [World.frozen?_setCell]; exact (h i hi).2⟩
  by_cases e : i = k
  · subst e
    rw [World.cell?_setCell_same _ _ _ (h i hi).1]
    simp
  · rw [World.cell?_setCell_other _ _ _ _ (by intro h; injection h with h1 h2; omega)]
    simp [e, (h i hi).1]

theorem Fn.cells {w : World} {b off n : Nat} {f : Nat → Nat} {xs : List Nat} (h : Fn w b off n f) (hl : xs.length ≤ n) (he : ∀ i, i < xs.length → f i = xs.getD i 0) : Cells w b off xs := by
  intro i hi
  rw [(h i (by omega)).1, he i hi]

theorem Cells.below {w w' : World} {b off : Nat} {xs : List Nat} (h : Cells w b off xs) (hb : Below w.heap.size w w') : Cells w' b off xs := by
  intro i hi
  have := h i hi
  rw [hb.cell (World.block_lt_of_cell? _ _ this)]
  exact this

theorem Fn.made (w : World) (n : Nat) (e : TypeId) : Fn (w.alloc (.cells (madeCells #[.int .u32 0] n) e)) w.heap.size 0 n (fun _ => 0) := by
  intro i hi
  refine ⟨?_, by simp⟩
  simp [madeCells, hi, Nat.mod_one]

theorem Sl.below {w w' : World} {a : Option Addr} {n c : Nat} {xs : List Nat} (h : Sl w a n c xs) (hb : Below w.heap.size w w') : Sl w' a n c xs :=
  ⟨h.len, h.le, h.cap, h.cells.imp id (fun ⟨b, off, e, k⟩ => ⟨b, off, e, k.below hb⟩)⟩

theorem bel_drewN {B : Nat} {a w : World} (h : Below B a w) (k : Nat) : Below B a (w.drewN k) := ⟨h.os, h.tape, h.output, h.size, h.block⟩

theorem Sl.drewN {w : World} {a : Option Addr} {n c : Nat} {xs : List Nat} (h : Sl w a n c xs) (k : Nat) : Sl (w.drewN k) a n c xs :=
  h.below (bel_drewN (Below.refl _ _) k)

end Go.Proofs.Ytppdpdkldokacaa
