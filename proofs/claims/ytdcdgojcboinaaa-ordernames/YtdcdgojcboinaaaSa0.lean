/-
  slopeplain.Given.Nat: its contract.
-/
import Derived.Test.YtdcdgojcboinaaaGiv
import Derived.Deep.AppendLies
import Derived.Deep.RegionLaw
import Derived.Deep.DeepMust
namespace Go.Proofs.Ytdcdgojcboinaaa
open Go.RowKit Go.Deep
set_option linter.unusedVariables false

/-- w' is w but for the blocks of S, and new ones. -/
structure Chg (S : Nat → Prop) (w w' : World) : Prop where
  os : w'.os = w.os
  tape : w'.tape = w.tape
  output : w'.output = w.output
  size : w.heap.size ≤ w'.heap.size
  block : ∀ k, k < w.heap.size → ¬ S k → w'.heap[k]? = w.heap[k]?

theorem Chg.refl (S : Nat → Prop) (w : World) : Chg S w w := ⟨rfl, rfl, rfl, Nat.le_refl _, fun _ _ _ => rfl⟩
theorem Chg.trans {S : Nat → Prop} {a b c : World} (h : Chg S a b) (k : Chg S b c) : Chg S a c :=
  ⟨k.os.trans h.os, k.tape.trans h.tape, k.output.trans h.output, Nat.le_trans h.size k.size, fun i hi hs => (k.block i (Nat.lt_of_lt_of_le hi h.size) hs).trans (h.block i hi hs)⟩
theorem Chg.mono {S T : Nat → Prop} {w w' : World} (h : Chg S w w') (hs : ∀ k, k < w.heap.size → S k → T k) : Chg T w w' :=
  ⟨h.os, h.tape, h.output, h.size, fun k hk hn => h.block k hk (fun hh => hn (hs k hk hh))⟩
theorem Chg.of_below {S : Nat → Prop} {w w' : World} (h : Below w.heap.size w w') : Chg S w w' :=
  ⟨h.os, h.tape, h.output, h.size, fun k hk _ => h.block k hk⟩
theorem Chg.of_alloc {S : Nat → Prop} (w : World) (o : Obj) : Chg S w (w.alloc o) := .of_below ((Below.refl _ _).alloc (Nat.le_refl _) o)
theorem Chg.of_set {S : Nat → Prop} (w : World) (b i : Nat) (v : Value) (hb : S b) : Chg S w (w.setCell ⟨b, i, none⟩ v) :=
  ⟨rfl, rfl, rfl, by simp, fun k hk hs => set_block_other (fun e => by subst e; exact hs hb) v⟩
theorem Chg.of_grown {S : Nat → Prop} {w w' : World} {row : Option Nat} (h : w.grownBy w' row) (hr : ∀ k, row = some k → S k) : Chg S w w' :=
  ⟨h.os, h.tape, h.output, h.size, fun k hk hs => h.block k hk (fun e => hs (hr k e.symm))⟩
theorem Chg.of_drewN {S : Nat → Prop} (w : World) (k : Nat) : Chg S w (w.drewN k) := ⟨rfl, rfl, rfl, Nat.le_refl _, fun _ _ _ => rfl⟩
theorem Chg.of_drew {S : Nat → Prop} (w : World) : Chg S w w.drew := ⟨rfl, rfl, rfl, Nat.le_refl _, fun _ _ _ => rfl⟩
theorem Chg.below {S : Nat → Prop} {w w' : World} {B : Nat} (h : Chg S w w') (hB : B ≤ w.heap.size) (hs : ∀ k, k < B → ¬ S k) : Below B w w' :=
  ⟨h.os, h.tape, h.output, h.size, fun k hk => h.block k (by omega) (hs k hk)⟩

theorem Chg.cell {S : Nat → Prop} {w w' : World} (h : Chg S w w') {b i : Nat} {v : Value} (hs : ¬ S b) (hc : w.cell? ⟨b, i, none⟩ = some v) : w'.cell? ⟨b, i, none⟩ = some v := by
  have hlt := World.block_lt_of_cell? _ _ hc
  rw [World.cell?_of_block (w := w) (h.block b hlt hs)]; exact hc

theorem Cells.chg {S : Nat → Prop} {w w' : World} {b off : Nat} {xs : List Nat} (h : Cells w b off xs) (k : Chg S w w') (hs : ¬ S b) : Cells w' b off xs :=
  fun i hi => k.cell hs (h i hi)

theorem Sl.chg {S : Nat → Prop} {w w' : World} {a : Option Addr} {n c : Nat} {xs : List Nat} (h : Sl w a n c xs) (k : Chg S w w') (hs : ∀ x, a = some x → xs ≠ [] → ¬ S x.block) : Sl w' a n c xs :=
  ⟨h.len, h.le, h.cap, h.cells.elim .inl (fun ⟨b, off, e, kk⟩ => by
    by_cases hx : xs = []
    · exact .inl hx
    · exact .inr ⟨b, off, e, kk.chg k (hs _ e hx)⟩)⟩

theorem Sl.block_lt {w : World} {a : Option Addr} {n c : Nat} {xs : List Nat} (h : Sl w a n c xs) (hx : xs ≠ []) : ∀ x, a = some x → x.block < w.heap.size := by
  intro x hx'
  rcases h.cells with e | ⟨b, off, e, kk⟩
  · exact absurd e hx
  · rw [e] at hx'
    cases hx'
    have := kk 0 (by cases xs with | nil => exact absurd rfl hx | cons => simp)
    exact World.block_lt_of_cell? _ _ this

theorem ownsRow_chg {S : Nat → Prop} {w w' : World} {base : Nat} {e : TypeId} {size : Nat} {v : Value} {n : Nat} {xs : List Value} (h : w.ownsRow base e size v n xs) (k : Chg S w w') (hs : ∀ k, v.ownBlock = some k → ¬ S k) : w'.ownsRow base e size v n xs := by
  refine ⟨h.1, h.2.imp id ?_⟩
  rintro ⟨g, cap, cur, rfl, hb, hg, h1, h2, h3, h4⟩
  refine ⟨g, cap, cur, rfl, hb, ?_, h1, h2, h3, h4⟩
  have hlt : g < w.heap.size := by
    rcases Nat.lt_or_ge g w.heap.size with hlt | hge
    · exact hlt
    · rw [Array.getElem?_eq_none hge] at hg; cases hg
  rw [k.block g hlt (hs g rfl)]; exact hg

/-- What was handed in: where it lies, where its copy lies, the limbs. -/
structure Ent where
  b : Nat
  c : Nat
  b0 : Nat
  c0 : Nat
  xs : List Nat

def marks : List Nat := [42405, 23130, 42330]
def Ent.v (e : Ent) : Value := .slice (some ⟨e.b, 0, none⟩) (e.xs.length + 3) e.c
def Ent.v0 (e : Ent) : Value := .slice (some ⟨e.b0, 0, none⟩) (e.xs.length + 3) e.c0

/-- The blocks that are the book's own. -/
def Own (B : Nat) (v0 v1 : Value) (k : Nat) : Prop := k = B ∨ v0.ownBlock = some k ∨ v1.ownBlock = some k

structure EntOk (w : World) (B : Nat) (v0 v1 : Value) (e : Ent) : Prop where
  sl : Sl w (some ⟨e.b, 0, none⟩) (e.xs.length + 3) e.c (e.xs ++ marks)
  sl0 : Sl w (some ⟨e.b0, 0, none⟩) (e.xs.length + 3) e.c0 (e.xs ++ marks)
  s : ¬ Own B v0 v1 e.b
  s0 : ¬ Own B v0 v1 e.b0

theorem own_of_copy {w w1 : World} {n : Nat} {cur : Array Value} {xs : List Nat} (hl : xs.length = n) (hn : n ≤ 35184372088000) (hblk : w1.heap[w.heap.size]? = some (.cells cur 98)) (hsz : cur.size = n + 3)
    (hpre : ∀ i, i < n → cur[i]? = some (.int .u32 (xs.getD i 0 : Nat))) : w1.ownsRow w.heap.size 98 1 (.slice (some ⟨w.heap.size, 0, none⟩) n (n + 3)) n (vals xs) := by
  refine ⟨by simp [vals, hl], .inr ⟨w.heap.size, n + 3, cur, rfl, Nat.le_refl _, hblk, by omega, ?_, by omega, ?_⟩⟩
  · unfold maxLen; omega
  · apply List.ext_getElem?
    intro i
    by_cases hi : i < n
    · have h1 := hpre i hi
      rw [vals_get (by omega)]
      simpa [List.getElem?_take, hi] using h1
    · rw [List.getElem?_eq_none (by simp; omega), List.getElem?_eq_none (by simp [vals]; omega)]

theorem grown_frozen {w w' : World} {row : Option Nat} (hg : w.grownBy w' row) {b i : Nat} (hlt : b < w.heap.size) (hne : some b ≠ row) : w'.cell? ⟨b, i, none⟩ = w.cell? ⟨b, i, none⟩ ∧ w'.frozen? ⟨b, i, none⟩ = w.frozen? ⟨b, i, none⟩ :=
  ⟨hg.cell_far ⟨b, i, none⟩ hlt hne, hg.frozen_far ⟨b, i, none⟩ hlt hne⟩

theorem sl_of_own {w : World} {base g n c : Nat} {xs : List Nat} (h : w.ownsRow base 98 1 (.slice (some ⟨g, 0, none⟩) n c) n (vals xs)) : Sl w (some ⟨g, 0, none⟩) n c xs := by
  obtain ⟨hl, h2⟩ := h
  have hl' : xs.length = n := by simpa [vals] using hl
  rcases h2 with ⟨h2, h3⟩ | ⟨g', cap, cur, h3, h4, h5, h6, h7, h8, h9⟩
  · cases h2
  · injection h3 with e1 e2 e3
    injection e1 with e1
    injection e1 with e1
    subst e1 e3
    refine ⟨hl', h6, h7, .inr ⟨_, _, rfl, cells_of_block h5 ?_⟩⟩
    have := take_vals hl' (by simpa using h9)
    simpa using this

theorem vals_append (xs ys : List Nat) : vals xs ++ vals ys = vals (xs ++ ys) := by simp [vals]

theorem own_ge {w : World} {base : Nat} {e : TypeId} {size : Nat} {v : Value} {n : Nat} {xs : List Value} (h : w.ownsRow base e size v n xs) : ∀ k, v.ownBlock = some k → base ≤ k ∧ k < w.heap.size := by
  intro k hk
  rcases h.2 with ⟨h2, h3⟩ | ⟨g', cap, cur, h3, h4, h5, h6, h7, h8, h9⟩
  · subst h2; cases hk
  · subst h3
    simp [Value.ownBlock] at hk
    subst hk
    refine ⟨h4, ?_⟩
    rcases Nat.lt_or_ge g' w.heap.size with hlt | hge
    · exact hlt
    · rw [Array.getElem?_eq_none hge] at h5; cases h5

theorem one_slice {a : Option Addr} {n c : Nat} : ∀ u ∈ [Value.slice a n c], u.oneCell' = true := by
  intro u hu; simp at hu; subst hu; rfl
theorem len_max {k : Nat} (h : k ≤ 1000000000000) : k + 1 ≤ maxLen := by unfold maxLen; omega
theorem len_bytes {k : Nat} (h : k ≤ 1000000000000) : (k + 1) * 24 ≤ 140737488355328 := by omega

theorem block_lt {w : World} {b : Nat} {o : Obj} (h : w.heap[b]? = some o) : b < w.heap.size := by
  rcases Nat.lt_or_ge b w.heap.size with hlt | hge
  · exact hlt
  · rw [Array.getElem?_eq_none hge] at h; cases h

end Go.Proofs.Ytdcdgojcboinaaa

namespace Go.Proofs.Ytdcdgojcboinaaa
open Go.RowKit Go.Deep
set_option linter.unusedVariables false

def CellsI (w : World) (b off : Nat) (xs : List Int) : Prop :=
  ∀ i, i < xs.length → w.cell? ⟨b, off + i, none⟩ = some (.int .i64 (xs.getD i 0))
/-- A list of whole numbers where it lies. -/
structure SlI (w : World) (a : Option Addr) (n c : Nat) (xs : List Int) : Prop where
  len : xs.length = n
  le : n ≤ c
  cap : c ≤ maxLen
  cells : xs = [] ∨ ∃ b off, a = some ⟨b, off, none⟩ ∧ CellsI w b off xs
theorem SlI.below {w w' : World} {a : Option Addr} {n c : Nat} {xs : List Int} (h : SlI w a n c xs) (hb : Below w.heap.size w w') : SlI w' a n c xs :=
  ⟨h.len, h.le, h.cap, h.cells.imp id (fun ⟨b, off, e, k⟩ => ⟨b, off, e, fun i hi => (Chg.of_below hb).cell (S := fun _ => False) (fun x => x) (k i hi)⟩)⟩
theorem SlI.at {w : World} {a : Option Addr} {n c : Nat} {xs : List Int} (h : SlI w a n c xs) (hn : 0 < n) : ∃ b off, a = some ⟨b, off, none⟩ ∧ ∀ i, i < n → w.cell? ⟨b, off + i, none⟩ = some (.int .i64 (xs.getD i 0)) := by
  rcases h.cells with e | ⟨b, off, e, k⟩
  · have := h.len; rw [e] at this; simp at this; omega
  · exact ⟨b, off, e, fun i hi => k i (by rw [h.len]; exact hi)⟩
theorem SlI.nil (w : World) : SlI w none 0 0 [] := ⟨rfl, Nat.le_refl _, Nat.zero_le _, .inl rfl⟩
/-- The columns of a row rise, within their range. -/
structure RowP (width : Int) (cols : List Int) (x y : Nat) : Prop where
  rng : ∀ i, x ≤ i → i < y → 0 ≤ cols.getD i 0 ∧ cols.getD i 0 < width
  up : ∀ i, x < i → i < y → cols.getD (i - 1) 0 < cols.getD i 0
/-- What is asked of a pattern ahead of its rows. -/
structure HeadP (rows width : Int) (st cols : List Int) : Prop where
  fit : 0 ≤ rows ∧ rows ≤ 128 ∧ 0 ≤ width ∧ width ≤ 128
  len : (st.length : Int) = rows + 1
  first : st.getD 0 0 = 0
  last : st.getD rows.toNat 0 = (cols.length : Int)
def SortP (st : List Int) (x : Nat) : Prop := ∀ i, x ≤ i → i + 1 < st.length → st.getD i 0 ≤ st.getD (i + 1) 0
structure MayP (rows width : Int) (st cols : List Int) : Prop where
  head : HeadP rows width st cols
  sort : SortP st 0
  row : ∀ r, r + 1 < st.length → RowP width cols (st.getD r 0).toNat (st.getD (r + 1) 0).toNat
theorem SortP.mono {st : List Int} (h : SortP st 0) : ∀ d i, i + d < st.length → st.getD i 0 ≤ st.getD (i + d) 0
  | 0, i, _ => Int.le_refl _
  | d + 1, i, hi => Int.le_trans (SortP.mono h d i (by omega)) (h (i + d) (Nat.zero_le _) (by omega))
/-- Where rows begin and end. -/
theorem HeadP.rng {rows width : Int} {st cols : List Int} (h : HeadP rows width st cols) (hs : SortP st 0) {i : Nat} (hi : i < st.length) : 0 ≤ st.getD i 0 ∧ st.getD i 0 ≤ (cols.length : Int) := by
  have h1 := hs.mono i 0 (by omega)
  rw [Nat.zero_add, h.first] at h1
  have hl := h.len
  have hf := h.fit
  have h2 := hs.mono (rows.toNat - i) i (by omega)
  rw [show i + (rows.toNat - i) = rows.toNat by omega, h.last] at h2
  exact ⟨h1, h2⟩
end Go.Proofs.Ytdcdgojcboinaaa
