/-
  SLICES OF LIMBS IN MEMORY; the small functions.
-/
import Derived.Test.YtgonfjigcplbnaaRows
import Derived.Test.YtgonfjigcplbnaaNum
import Derived.WalkKit
import Derived.WalkSpells
import Derived.WalkLawsBesides
import Derived.Deep.QuietTactic
import Derived.BigQuiet
import Derived.Deep.OwnRows
namespace Go.Proofs.Ytgonfjigcplbnaa
open Go.RowKit Go.Deep
set_option linter.unusedVariables false

theorem hide {p : Prop} (h : p) : Hid p := h
theorem unhide {p : Prop} (h : Hid p) : p := h

theorem drewN_add (w : World) (a b : Nat) : (w.drewN a).drewN b = w.drewN (a + b) := by simp [World.drewN, Nat.add_assoc]

theorem drewN_add3 (w : World) (a b c : Nat) : ((w.drewN a).drewN b).drewN c = w.drewN (a + b + c) := by rw [drewN_add, drewN_add, Nat.add_assoc]

def Cells (w : World) (b off : Nat) (xs : List Nat) : Prop :=
  ∀ i, i < xs.length → w.cell? ⟨b, off + i, none⟩ = some (.int .u32 (xs.getD i 0 : Nat))

structure Sl (w : World) (a : Option Addr) (n c : Nat) (xs : List Nat) : Prop where
  len : xs.length = n
  le : n ≤ c
  cap : c ≤ maxLen
  cells : xs = [] ∨ ∃ b off, a = some ⟨b, off, none⟩ ∧ Cells w b off xs

/-- What may be. -/
def MayL (xs : List Nat) : Bool := decide (xs.length ≤ 2048) && (xs.isEmpty || xs.getD (xs.length - 1) 0 != 0)

theorem MayL.norm {xs : List Nat} (h : MayL xs = true) : Norm xs := by
  simp only [MayL, Bool.and_eq_true, Bool.or_eq_true, decide_eq_true_eq, List.isEmpty_iff, bne_iff_ne] at h
  exact h.2
theorem MayL.len {xs : List Nat} (h : MayL xs = true) : xs.length ≤ 2048 := by
  simp only [MayL, Bool.and_eq_true, decide_eq_true_eq] at h
  exact h.1
theorem MayL.mk {xs : List Nat} (h : Norm xs) (k : xs.length ≤ 2048) : MayL xs = true := by
  simp only [MayL, Bool.and_eq_true, Bool.or_eq_true, decide_eq_true_eq, List.isEmpty_iff, bne_iff_ne]
  exact ⟨k, h⟩

/-! ### rows that are written -/
def Fn (w : World) (b off n : Nat) (f : Nat → Nat) : Prop :=
  ∀ i, i < n → w.cell? ⟨b, off + i, none⟩ = some (.int .u32 (f i : Nat)) ∧ w.frozen? ⟨b, off + i, none⟩ = false

theorem Fn.set {w : World} {b off n : Nat} {f : Nat → Nat} (h : Fn w b off n f) (k v : Nat) (hk : k < n) :
    Fn (w.setCell ⟨b, off + k, none⟩ (.int .u32 (v : Nat))) b off n (fun i => if i = k then v else f i) := by
  intro i hi
  refine ⟨?_, by rw [World.frozen?_setCell]; exact (h i hi).2⟩
  by_cases e : i = k
  · subst e
    rw [World.cell?_setCell_same _ _ _ (h i hi).1]
    simp
  · rw [World.cell?_setCell_other _ _ _ _ (by intro h; injection h with h1 h2; omega)]
    simp [e, (h i hi).1]

theorem Fn.cells {w : World} {b off n : Nat} {f : Nat → Nat} {xs : List Nat} (h : Fn w b off n f) (hl : xs.length ≤ n) (he : ∀ i, i < xs.length → f i = xs.getD i 0) : Cells w b off xs := by
  intro i hi
  rw [(h i (by omega)).1, he i hi]

theorem Cells.below {w w' : World} {b off : Nat} {xs : List Nat} (h : Cells w b off xs) (hb : Below w.heap.size w w') : Cells w' b off xs := by
  intro i hi
  have := h i hi
  rw [hb.cell (World.block_lt_of_cell? _ _ this)]
  exact this

theorem Fn.made (w : World) (n : Nat) (e : TypeId) : Fn (w.alloc (.cells (madeCells #[.int .u32 0] n) e)) w.heap.size 0 n (fun _ => 0) := by
  intro i hi
  refine ⟨?_, by simp⟩
  simp [madeCells, hi, Nat.mod_one]

theorem Sl.below {w w' : World} {a : Option Addr} {n c : Nat} {xs : List Nat} (h : Sl w a n c xs) (hb : Below w.heap.size w w') : Sl w' a n c xs :=
  ⟨h.len, h.le, h.cap, h.cells.imp id (fun ⟨b, off, e, k⟩ => ⟨b, off, e, k.below hb⟩)⟩

theorem bel_drewN {B : Nat} {a w : World} (h : Below B a w) (k : Nat) : Below B a (w.drewN k) := ⟨h.os, h.tape, h.output, h.size, h.block⟩

theorem Sl.drewN {w : World} {a : Option Addr} {n c : Nat} {xs : List Nat} (h : Sl w a n c xs) (k : Nat) : Sl (w.drewN k) a n c xs :=
  h.below (bel_drewN (Below.refl _ _) k)

end Go.Proofs.Ytgonfjigcplbnaa

namespace Go.Proofs.Ytgonfjigcplbnaa
open Go.RowKit Go.Deep
set_option linter.unusedVariables false

theorem Try.info_u32 : (Try.prog.info? 96).map (fun i => (i.zero, i.size, i.bytes)) = some (some (.int .u32 0), 1, 4) := by kernel_rfl

theorem rt_step {wr w : World} {k j : Nat} {xs : List Nat} (hf : Fn wr w.heap.size 0 k (fun i => if i < j then xs.getD i 0 else 0)) (hlt : j < k) (hb : Below w.heap.size w wr) :
    Fn (wr.setCell ⟨w.heap.size, j, none⟩ (.int .u32 (xs.getD j 0 : Nat))) w.heap.size 0 k (fun i => if i < j + 1 then xs.getD i 0 else 0) ∧ Below w.heap.size w (wr.setCell ⟨w.heap.size, j, none⟩ (.int .u32 (xs.getD j 0 : Nat))) := by
  refine ⟨?_, hb.setCell (Nat.le_refl _) _⟩
  have h := hf.set j (xs.getD j 0) hlt
  simp only [Nat.zero_add] at h
  intro i hi
  have := h i hi
  refine ⟨?_, this.2⟩
  rw [this.1]
  by_cases e : i = j
  · simp [e]
  · by_cases e2 : i < j
    · simp [e, e2, show i < j + 1 from by omega]
    · simp [e, e2, show ¬ i < j + 1 from by omega]

theorem rt_end {wr w : World} {k j : Nat} {xs : List Nat} (hf : Fn wr w.heap.size 0 k (fun i => if i < j then xs.getD i 0 else 0)) (hj : j = k) (hk : k ≤ xs.length) :
    Cells wr w.heap.size 0 (xs.take k) := by
  have hlen : (xs.take k).length = k := by simp [Nat.min_eq_left hk]
  refine hf.cells (by omega) (fun i hi => ?_)
  rw [hlen] at hi
  simp [hj, hi, List.getD]

/-- The block at which a slice lies is new. -/
def NewAt (B : Nat) (a : Option Addr) : Prop := ∀ x, a = some x → B ≤ x.block

end Go.Proofs.Ytgonfjigcplbnaa

namespace Go.Proofs.Ytgonfjigcplbnaa
open Go.RowKit Go.Deep
set_option linter.unusedVariables false

def vals (xs : List Nat) : List Value := xs.map (fun x => Value.int .u32 (x : Nat))

theorem cell_of_block {w : World} {b : Nat} {cur : Array Value} {e : TypeId} {fr : Nat × Nat} (h : w.heap[b]? = some (.cells cur e fr)) (i : Nat) : w.cell? ⟨b, i, none⟩ = cur[i]? := by
  simp [World.cell?, h]

theorem frozen_of_block {w : World} {b : Nat} {cur : Array Value} {e : TypeId} (h : w.heap[b]? = some (.cells cur e)) (i : Nat) : w.frozen? ⟨b, i, none⟩ = false := by
  simp [World.frozen?, h]

theorem set_block {w : World} {b : Nat} {cur : Array Value} {e : TypeId} {fr : Nat × Nat} (h : w.heap[b]? = some (.cells cur e fr)) (i : Nat) (v : Value) : (w.setCell ⟨b, i, none⟩ v).heap[b]? = some (.cells (cur.setIfInBounds i v) e fr) := by
  simp only [World.setCell, Array.getElem?_modify, h]
  simp

theorem set_block_other {w : World} {b k i : Nat} (hk : k ≠ b) (v : Value) : (w.setCell ⟨b, i, none⟩ v).heap[k]? = w.heap[k]? :=
  Below.heap_setCell w _ v k hk

theorem alloc_block (w : World) (o : Obj) : (w.alloc o).heap[w.heap.size]? = some o := by
  show (w.heap.push o)[w.heap.size]? = some o
  simp

theorem cells_of_block {w : World} {b off : Nat} {cur : Array Value} {e : TypeId} {fr : Nat × Nat} {xs : List Nat} (h : w.heap[b]? = some (.cells cur e fr)) (ht : ∀ i, i < xs.length → cur[off + i]? = some (.int .u32 (xs.getD i 0 : Nat))) : Cells w b off xs := by
  intro i hi
  rw [cell_of_block h]; exact ht i hi

theorem vals_get {xs : List Nat} {i : Nat} (h : i < xs.length) : (vals xs)[i]? = some (.int .u32 (xs.getD i 0 : Nat)) := by
  simp [vals, h]

theorem take_vals {cur : Array Value} {n : Nat} {xs : List Nat} (hl : xs.length = n) (h : cur.toList.take n = vals xs) : ∀ i, i < xs.length → cur[i]? = some (.int .u32 (xs.getD i 0 : Nat)) := by
  intro i hi
  have := vals_get hi
  rw [← h] at this
  simpa [List.getElem?_take, show i < n from by omega] using this

theorem copy_step {wr w : World} {n k : Nat} {cur : Array Value} {xs : List Nat} (hblk : wr.heap[w.heap.size]? = some (.cells cur 96)) (hsz : cur.size = n + 3) (hk : k < n)
    (hpre : ∀ i, i < k → cur[i]? = some (.int .u32 (xs.getD i 0 : Nat))) :
    ∃ cur', (wr.setCell ⟨w.heap.size, k, none⟩ (.int .u32 (xs.getD k 0 : Nat))).heap[w.heap.size]? = some (.cells cur' 96) ∧ cur'.size = n + 3 ∧ ∀ i, i < k + 1 → cur'[i]? = some (.int .u32 (xs.getD i 0 : Nat)) := by
  refine ⟨_, set_block hblk k _, by simp [hsz], ?_⟩
  intro i hi
  by_cases e : i = k
  · subst e; simp [show i < cur.size from by omega]
  · rw [Array.getElem?_setIfInBounds_ne (by omega)]; exact hpre i (by omega)

end Go.Proofs.Ytgonfjigcplbnaa
