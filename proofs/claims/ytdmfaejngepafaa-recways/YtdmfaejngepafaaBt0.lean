/-
  ROWS OF ANY VALUES IN MEMORY.
-/
import Derived.Test.YtdmfaejngepafaaRows
import Derived.WalkKit
import Derived.WalkSpells
import Derived.WalkLawsBesides
import Derived.Deep.QuietTactic
import Derived.BigQuiet
import Derived.Deep.OwnRows
import Derived.Deep.AppendLies
import Derived.Deep.RegionLaw
import Derived.Deep.DeepMust
import Derived.OwnWalk
import Derived.Laws.IdiomCopy
import Derived.Below
namespace Go.Proofs.Ytdmfaejngepafaa
open Go.RowKit Go.Deep
set_option linter.unusedVariables false

theorem hide {p : Prop} (h : p) : Hid p := h
theorem unhide {p : Prop} (h : Hid p) : p := h
theorem drewN_add (w : World) (a b : Nat) : (w.drewN a).drewN b = w.drewN (a + b) := by simp [World.drewN, Nat.add_assoc]
theorem bel_drewN {B : Nat} {a w : World} (h : Below B a w) (k : Nat) : Below B a (w.drewN k) := ⟨h.os, h.tape, h.output, h.size, h.block⟩

theorem cell_of_block {w : World} {b : Nat} {cur : Array Value} {e : TypeId} {fr : Nat × Nat} (h : w.heap[b]? = some (.cells cur e fr)) (i : Nat) : w.cell? ⟨b, i, none⟩ = cur[i]? := by
  simp [World.cell?, h]
theorem frozen_of_block {w : World} {b : Nat} {cur : Array Value} {e : TypeId} (h : w.heap[b]? = some (.cells cur e)) (i : Nat) : w.frozen? ⟨b, i, none⟩ = false := by
  simp [World.frozen?, h]
theorem alloc_block (w : World) (o : Obj) : (w.alloc o).heap[w.heap.size]? = some o := by
  show (w.heap.push o)[w.heap.size]? = some o
  simp
theorem addr_add (b off j : Nat) : (⟨b, off, none⟩ : Addr).add j = ⟨b, off + j, none⟩ := by unfold Addr.add; split <;> simp_all

theorem below_cell {w w' : World} (hb : Below w.heap.size w w') {p : Addr} {v : Value} (h : w.cell? p = some v) : w'.cell? p = some v := by
  rw [hb.cell (World.block_lt_of_cell? _ _ h)]; exact h

/-- w' is w but for the blocks of S, and new ones. -/
structure Chg (S : Nat → Prop) (w w' : World) : Prop where
  os : w'.os = w.os
  tape : w'.tape = w.tape
  output : w'.output = w.output
  size : w.heap.size ≤ w'.heap.size
  block : ∀ k, k < w.heap.size → ¬ S k → w'.heap[k]? = w.heap[k]?
theorem Chg.refl (S : Nat → Prop) (w : World) : Chg S w w := ⟨rfl, rfl, rfl, Nat.le_refl _, fun _ _ _ => rfl⟩
theorem Chg.trans {S : Nat → Prop} {a b c : World} (h : Chg S a b) (k : Chg S b c) : Chg S a c :=
  ⟨k.os.trans h.os, k.tape.trans h.tape, k.output.trans h.output, Nat.le_trans h.size k.size, fun i hi hs => (k.block i (Nat.lt_of_lt_of_le hi h.size) hs).trans (h.block i hi hs)⟩
theorem Chg.mono {S T : Nat → Prop} {w w' : World} (h : Chg S w w') (hs : ∀ k, k < w.heap.size → S k → T k) : Chg T w w' :=
  ⟨h.os, h.tape, h.output, h.size, fun k hk hn => h.block k hk (fun hh => hn (hs k hk hh))⟩
theorem Chg.of_below {S : Nat → Prop} {w w' : World} (h : Below w.heap.size w w') : Chg S w w' :=
  ⟨h.os, h.tape, h.output, h.size, fun k hk _ => h.block k hk⟩
theorem Chg.of_set {S : Nat → Prop} (w : World) (b i : Nat) (v : Value) (hb : S b) : Chg S w (w.setCell ⟨b, i, none⟩ v) :=
  ⟨rfl, rfl, rfl, by simp, fun k hk hs => Below.heap_setCell w _ v k (fun e => by subst e; exact hs hb)⟩
theorem Chg.drew {S : Nat → Prop} {w w' : World} (h : Chg S w w') : Chg S w w'.drew := ⟨h.os, h.tape, h.output, h.size, h.block⟩
theorem Chg.below {S : Nat → Prop} {w w' : World} {B : Nat} (h : Chg S w w') (hB : B ≤ w.heap.size) (hs : ∀ k, k < B → ¬ S k) : Below B w w' :=
  ⟨h.os, h.tape, h.output, h.size, fun k hk => h.block k (by omega) (hs k hk)⟩
theorem Chg.cell {S : Nat → Prop} {w w' : World} (h : Chg S w w') {b i : Nat} {v : Value} (hs : ¬ S b) (hc : w.cell? ⟨b, i, none⟩ = some v) : w'.cell? ⟨b, i, none⟩ = some v := by
  have hlt := World.block_lt_of_cell? _ _ hc
  rw [World.cell?_of_block (w := w) (h.block b hlt hs)]; exact hc
theorem Chg.froz {S : Nat → Prop} {w w' : World} (h : Chg S w w') {b i : Nat} (hlt : b < w.heap.size) (hs : ¬ S b) : w'.frozen? ⟨b, i, none⟩ = w.frozen? ⟨b, i, none⟩ :=
  World.frozen?_of_block (w := w) (h.block b hlt hs)

section
variable {α : Type} {g : α → Value} {d : α}

/-- A slice whose cells are g of xs. -/
structure SlG (g : α → Value) (d : α) (w : World) (a : Option Addr) (n c : Nat) (xs : List α) : Prop where
  len : xs.length = n
  le : n ≤ c
  cap : c ≤ maxLen
  cells : xs = [] ∨ ∃ b off, a = some ⟨b, off, none⟩ ∧ ∀ i, i < xs.length → w.cell? ⟨b, off + i, none⟩ = some (g (xs.getD i d))

theorem SlG.below {w w' : World} {a : Option Addr} {n c : Nat} {xs : List α} (h : SlG g d w a n c xs) (hb : Below w.heap.size w w') : SlG g d w' a n c xs :=
  ⟨h.len, h.le, h.cap, h.cells.imp id (fun ⟨b, off, e, k⟩ => ⟨b, off, e, fun i hi => below_cell hb (k i hi)⟩)⟩
theorem SlG.drewN {w : World} {a : Option Addr} {n c : Nat} {xs : List α} (h : SlG g d w a n c xs) (k : Nat) : SlG g d (w.drewN k) a n c xs :=
  h.below (bel_drewN (Below.refl _ _) k)
theorem SlG.at {w : World} {a : Option Addr} {n c : Nat} {xs : List α} (h : SlG g d w a n c xs) (hn : 0 < n) : ∃ b off, a = some ⟨b, off, none⟩ ∧ ∀ i, i < n → w.cell? ⟨b, off + i, none⟩ = some (g (xs.getD i d)) := by
  rcases h.cells with e | ⟨b, off, e, k⟩
  · have := h.len; rw [e] at this; simp at this; omega
  · exact ⟨b, off, e, fun i hi => k i (by rw [h.len]; exact hi)⟩
theorem SlG.nil (w : World) : SlG g d w none 0 0 [] := ⟨rfl, Nat.le_refl _, Nat.zero_le _, .inl rfl⟩
/-- Its first m. -/
theorem SlG.pre {w : World} {a : Option Addr} {n c m : Nat} {xs : List α} (h : SlG g d w a n c xs) (hm : m ≤ n) : SlG g d w a m c (xs.take m) := by
  have hl : (xs.take m).length = m := by simp [h.len]; omega
  refine ⟨hl, Nat.le_trans hm h.le, h.cap, ?_⟩
  by_cases h0 : m = 0
  · left; subst h0; simp
  · right
    obtain ⟨b, off, e, k⟩ := h.at (by omega)
    refine ⟨b, off, e, fun i hi => ?_⟩
    rw [hl] at hi
    rw [k i (by omega)]
    simp [List.getD, hi]

/-- Cells that may be written. -/
def FnG (g : α → Value) (w : World) (b off n : Nat) (f : Nat → α) : Prop :=
  ∀ i, i < n → w.cell? ⟨b, off + i, none⟩ = some (g (f i)) ∧ w.frozen? ⟨b, off + i, none⟩ = false

theorem FnG.set {w : World} {b off n : Nat} {f : Nat → α} (h : FnG g w b off n f) (k : Nat) (v : α) (hk : k < n) :
    FnG g (w.setCell ⟨b, off + k, none⟩ (g v)) b off n (fun i => if i = k then v else f i) := by
  intro i hi
  refine ⟨?_, by rw [World.frozen?_setCell]; exact (h i hi).2⟩
  by_cases e : i = k
  · subst e
    rw [World.cell?_setCell_same _ _ _ (h i hi).1]
    simp
  · rw [World.cell?_setCell_other _ _ _ _ (by intro h; injection h with h1 h2; omega)]
    simp [e, (h i hi).1]
theorem FnG.congr {w : World} {b off n : Nat} {f f' : Nat → α} (h : FnG g w b off n f) (he : ∀ i, i < n → f i = f' i) : FnG g w b off n f' := by
  intro i hi
  rw [← he i hi]; exact h i hi
theorem FnG.below {w w' : World} {b off n : Nat} {f : Nat → α} (h : FnG g w b off n f) (hb : Below w.heap.size w w') : FnG g w' b off n f := by
  intro i hi
  have hlt := World.block_lt_of_cell? _ _ (h i hi).1
  exact ⟨below_cell hb (h i hi).1, by rw [hb.frozen hlt]; exact (h i hi).2⟩
/-- Another block is written. -/
theorem FnG.other {w : World} {b off n : Nat} {f : Nat → α} (h : FnG g w b off n f) (b' i : Nat) (v : Value) (hne : b' ≠ b) : FnG g (w.setCell ⟨b', i, none⟩ v) b off n f := by
  intro j hj
  refine ⟨?_, by rw [World.frozen?_setCell]; exact (h j hj).2⟩
  rw [World.cell?_setCell_other _ _ _ _ (by intro h; injection h with h1 h2; exact hne h1)]
  exact (h j hj).1
theorem FnG.chg {S : Nat → Prop} {w w' : World} {b off n : Nat} {f : Nat → α} (h : FnG g w b off n f) (k : Chg S w w') (hs : ¬ S b) : FnG g w' b off n f := by
  intro i hi
  have hlt := World.block_lt_of_cell? _ _ (h i hi).1
  exact ⟨k.cell hs (h i hi).1, by rw [k.froz hlt hs]; exact (h i hi).2⟩
theorem SlG.chg {S : Nat → Prop} {w w' : World} {a : Option Addr} {n c : Nat} {xs : List α} (h : SlG g d w a n c xs) (k : Chg S w w') (hs : ∀ x, a = some x → x.block < w.heap.size → ¬ S x.block) : SlG g d w' a n c xs := by
  refine ⟨h.len, h.le, h.cap, ?_⟩
  rcases h.cells with e | ⟨b, off, e, hc⟩
  · exact .inl e
  · by_cases h0 : xs = []
    · exact .inl h0
    · refine .inr ⟨b, off, e, fun i hi => k.cell ?_ (hc i hi)⟩
      have hlt := World.block_lt_of_cell? _ _ (hc i hi)
      exact hs _ e hlt
theorem FnG.made (w : World) (n : Nat) (e : TypeId) (z : α) (hz : (g z).cells = #[g z]) : FnG g (w.alloc (.cells (madeCells #[g z] n) e)) w.heap.size 0 n (fun _ => z) := by
  intro i hi
  refine ⟨?_, by simp⟩
  simp [madeCells, hi, Nat.mod_one]

/-- The first n as a list. -/
def lstG (f : Nat → α) (n : Nat) : List α := (List.range n).map f
theorem lstG_len (f : Nat → α) (n : Nat) : (lstG f n).length = n := by simp [lstG]
theorem lstG_getD (f : Nat → α) (n i : Nat) (d : α) (h : i < n) : (lstG f n).getD i d = f i := by simp [lstG, List.getD, h]
theorem lstG_congr {f f' : Nat → α} {n : Nat} (h : ∀ i, i < n → f i = f' i) : lstG f n = lstG f' n := by
  unfold lstG
  apply List.map_congr_left
  intro i hi
  exact h i (List.mem_range.1 hi)
theorem lstG_self (xs : List α) (d : α) : lstG (fun i => xs.getD i d) xs.length = xs := by
  apply List.ext_getElem (by simp [lstG])
  intro i h1 h2
  simp [lstG, List.getD, h2]
theorem FnG.sl {w : World} {b off n c : Nat} {f : Nat → α} (h : FnG g w b off n f) (hc : n ≤ c) (hm : c ≤ maxLen) : SlG g d w (some ⟨b, off, none⟩) n c (lstG f n) := by
  refine ⟨lstG_len f n, hc, hm, .inr ⟨_, _, rfl, ?_⟩⟩
  intro i hi
  rw [lstG_len] at hi
  rw [lstG_getD f n i d hi]; exact (h i hi).1
theorem list_ext {xs ys : List α} (d : α) (hl : xs.length = ys.length) (h : ∀ i, i < xs.length → xs.getD i d = ys.getD i d) : xs = ys := by
  apply List.ext_getElem hl
  intro i a1 a2
  have := h i a1
  simpa [List.getD, a1, a2] using this
end

def vU (x : Nat) : Value := .int .u64 (x : Nat)
def vI (x : Int) : Value := .int .i64 x
def vB (x : Bool) : Value := .bool x
abbrev SlW := SlG vU 0
abbrev SlI := SlG vI 0
abbrev SlB := SlG vB false
abbrev FnW := FnG vU
abbrev FnI := FnG vI
abbrev FnB := FnG vB

theorem info_parts {P : Program} {e : TypeId} {z : Value} {s b : Nat} (h : (P.info? e).map (fun i => (i.zero, i.size, i.bytes)) = some (some z, s, b)) : ∃ i, P.info? e = some i ∧ i.zero = some z ∧ i.size = s ∧ i.bytes = b := by
  obtain ⟨i, hi, hzz⟩ := Option.map_eq_some_iff.1 h
  simp only [Prod.mk.injEq] at hzz
  exact ⟨i, hi, hzz.1, hzz.2.1, hzz.2.2⟩
theorem own_ge {w : World} {base : Nat} {e : TypeId} {size : Nat} {v : Value} {n : Nat} {xs : List Value} (h : w.ownsRow base e size v n xs) : ∀ k, v.ownBlock = some k → base ≤ k ∧ k < w.heap.size := by
  intro k hk
  rcases h.2 with ⟨h2, h3⟩ | ⟨g', cap, cur, h3, h4, h5, h6, h7, h8, h9⟩
  · subst h2; cases hk
  · subst h3
    simp [Value.ownBlock] at hk
    subst hk
    refine ⟨h4, ?_⟩
    rcases Nat.lt_or_ge g' w.heap.size with hlt | hge
    · exact hlt
    · rw [Array.getElem?_eq_none hge] at h5; cases h5

/-- A row that one owns, of one cell each: its cells. -/
theorem own_fn {α : Type} {g : α → Value} {w : World} {base b n c : Nat} {e : TypeId} {xs : List α} (d : α) (h : w.ownsRow base e 1 (.slice (some ⟨b, 0, none⟩) n c) n (xs.map g)) : xs.length = n ∧ n ≤ c ∧ c ≤ maxLen ∧ base ≤ b ∧ FnG g w b 0 n (fun i => xs.getD i d) := by
  obtain ⟨hl, h⟩ := h
  simp at hl
  rcases h with ⟨h2, _⟩ | ⟨g', cap, cur, h3, h4, h5, h6, h7, h8, h9⟩
  · cases h2
  · cases h3
    refine ⟨hl, h6, h7, h4, fun i hi => ⟨?_, frozen_of_block h5 _⟩⟩
    rw [Nat.zero_add, cell_of_block h5]
    have : (cur.toList.take (n * 1))[i]? = (xs.map g)[i]? := by rw [h9]
    simp [hi, show i < xs.length from by omega] at this
    rw [this]
    simp [List.getD, show i < xs.length from by omega]
end Go.Proofs.Ytdmfaejngepafaa
