/- Giv2 -/
import Derived.Test.YtgjokididdffhaaGreatGiv
import Derived.Deep.AppendLies
import Derived.Deep.RegionLaw
import Derived.Deep.DeepMust
namespace Go.Proofs.YtgjokididdffhaaGreat
open Go.RowKit Go.Deep
set_option linter.unusedVariables false
structure Chg (S : Nat → Prop) (w w' : World) : Prop where
  os : w'.os = w.os
  tape : w'.tape = w.tape
  output : w'.output = w.output
  size : w.heap.size ≤ w'.heap.size
  block : ∀ k, k < w.heap.size → ¬ S k → w'.heap[k]? = w.heap[k]?

theorem Chg.refl (S : Nat → Prop) (w : World) : Chg S w w := ⟨rfl, rfl, rfl, Nat.le_refl _, fun _ _ _ => rfl⟩
theorem Chg.trans {S : Nat → Prop} {a b c : World} (h : Chg S a b) (k : Chg S b c) : Chg S a c :=
  ⟨k.os.trans h.os, k.tape.trans h.tape, k.output.trans h.output, Nat.le_trans h.size k.size, fun i hi hs => (k.block i (Nat.lt_of_lt_of_le hi h.size) hs).trans (h.block i hi hs)⟩
theorem Chg.mono {S T : Nat → Prop} {w w' : World} (h : Chg S w w') (hs : ∀ k, k < w.heap.size → S k → T k) : Chg T w w' :=
  ⟨h.os, h.tape, h.output, h.size, fun k hk hn => h.block k hk (fun hh => hn (hs k hk hh))⟩
theorem Chg.of_below {S : Nat → Prop} {w w' : World} (h : Below w.heap.size w w') : Chg S w w' :=
  ⟨h.os, h.tape, h.output, h.size, fun k hk _ => h.block k hk⟩
theorem Chg.of_alloc {S : Nat → Prop} (w : World) (o : Obj) : Chg S w (w.alloc o) := .of_below ((Below.refl _ _).alloc (Nat.le_refl _) o)
theorem Chg.of_set {S : Nat → Prop} (w : World) (b i : Nat) (v : Value) (hb : S b) : Chg S w (w.setCell ⟨b, i, none⟩ v) :=
  ⟨rfl, rfl, rfl, by simp, fun k hk hs => set_block_other (fun e => by subst e; exact hs hb) v⟩
theorem Chg.of_grown {S : Nat → Prop} {w w' : World} {row : Option Nat} (h : w.grownBy w' row) (hr : ∀ k, row = some k → S k) : Chg S w w' :=
  ⟨h.os, h.tape, h.output, h.size, fun k hk hs => h.block k hk (fun e => hs (hr k e.symm))⟩
theorem Chg.of_drew {S : Nat → Prop} (w : World) : Chg S w w.drew := ⟨rfl, rfl, rfl, Nat.le_refl _, fun _ _ _ => rfl⟩
theorem Chg.below {S : Nat → Prop} {w w' : World} {B : Nat} (h : Chg S w w') (hB : B ≤ w.heap.size) (hs : ∀ k, k < B → ¬ S k) : Below B w w' :=
  ⟨h.os, h.tape, h.output, h.size, fun k hk => h.block k (by omega) (hs k hk)⟩

theorem Chg.cell {S : Nat → Prop} {w w' : World} (h : Chg S w w') {b i : Nat} {v : Value} (hs : ¬ S b) (hc : w.cell? ⟨b, i, none⟩ = some v) : w'.cell? ⟨b, i, none⟩ = some v := by
  have hlt := World.block_lt_of_cell? _ _ hc
  rw [World.cell?_of_block (w := w) (h.block b hlt hs)]; exact hc

theorem Cells.chg {S : Nat → Prop} {w w' : World} {b off : Nat} {xs : List Nat} (h : Cells w b off xs) (k : Chg S w w') (hs : ¬ S b) : Cells w' b off xs :=
  fun i hi => k.cell hs (h i hi)

theorem Sl.chg {S : Nat → Prop} {w w' : World} {a : Option Addr} {n c : Nat} {xs : List Nat} (h : Sl w a n c xs) (k : Chg S w w') (hs : ∀ x, a = some x → xs ≠ [] → ¬ S x.block) : Sl w' a n c xs :=
  ⟨h.len, h.le, h.cap, h.cells.elim .inl (fun ⟨b, off, e, kk⟩ => by
    by_cases hx : xs = []
    · exact .inl hx
    · exact .inr ⟨b, off, e, kk.chg k (hs _ e hx)⟩)⟩

theorem Sl.block_lt {w : World} {a : Option Addr} {n c : Nat} {xs : List Nat} (h : Sl w a n c xs) (hx : xs ≠ []) : ∀ x, a = some x → x.block < w.heap.size := by
  intro x hx'
  rcases h.cells with e | ⟨b, off, e, kk⟩
  · exact absurd e hx
  · rw [e] at hx'
    cases hx'
    have := kk 0 (by cases xs with | nil => exact absurd rfl hx | cons => simp)
    exact World.block_lt_of_cell? _ _ this

theorem ownsRow_chg {S : Nat → Prop} {w w' : World} {base : Nat} {e : TypeId} {size : Nat} {v : Value} {n : Nat} {xs : List Value} (h : w.ownsRow base e size v n xs) (k : Chg S w w') (hs : ∀ k, v.ownBlock = some k → ¬ S k) : w'.ownsRow base e size v n xs := by
  refine ⟨h.1, h.2.imp id ?_⟩
  rintro ⟨g, cap, cur, rfl, hb, hg, h1, h2, h3, h4⟩
  refine ⟨g, cap, cur, rfl, hb, ?_, h1, h2, h3, h4⟩
  have hlt : g < w.heap.size := by
    rcases Nat.lt_or_ge g w.heap.size with hlt | hge
    · exact hlt
    · rw [Array.getElem?_eq_none hge] at hg; cases hg
  rw [k.block g hlt (hs g rfl)]; exact hg

structure Ent where
  b : Nat
  c : Nat
  b0 : Nat
  c0 : Nat
  xs : List Nat

def marks : List Nat := [42405, 23130, 42330]
def Ent.v (e : Ent) : Value := .slice (some ⟨e.b, 0, none⟩) (e.xs.length + 3) e.c
def Ent.v0 (e : Ent) : Value := .slice (some ⟨e.b0, 0, none⟩) (e.xs.length + 3) e.c0

def Own (B : Nat) (v0 v1 : Value) (k : Nat) : Prop := k = B ∨ v0.ownBlock = some k ∨ v1.ownBlock = some k

structure EntOk (w : World) (B : Nat) (v0 v1 : Value) (e : Ent) : Prop where
  sl : Sl w (some ⟨e.b, 0, none⟩) (e.xs.length + 3) e.c (e.xs ++ marks)
  sl0 : Sl w (some ⟨e.b0, 0, none⟩) (e.xs.length + 3) e.c0 (e.xs ++ marks)
  s : ¬ Own B v0 v1 e.b
  s0 : ¬ Own B v0 v1 e.b0

structure Giv (w : World) (B : Nat) (v0 v1 : Value) (es : List Ent) : Prop where
  blk : ∃ cur, w.heap[B]? = some (.cells cur 65) ∧ cur.size = 20 ∧ cur[0]? = some v0 ∧ cur[1]? = some v1 ∧ ∀ i, 2 ≤ i → i < 20 → cur[i]? = some (.slice none 0 0)
  own0 : w.ownsRow (B + 1) 101 1 v0 es.length (es.map Ent.v)
  own1 : w.ownsRow (B + 1) 101 1 v1 es.length (es.map Ent.v0)
  apart : ∀ k, v0.ownBlock = some k → v1.ownBlock ≠ some k
  ents : ∀ e ∈ es, EntOk w B v0 v1 e

theorem Giv.chg {S : Nat → Prop} {w w' : World} {B : Nat} {v0 v1 : Value} {es : List Ent} (h : Giv w B v0 v1 es) (k : Chg S w w') (hB : ¬ S B) (h0 : ∀ k, v0.ownBlock = some k → ¬ S k) (h1 : ∀ k, v1.ownBlock = some k → ¬ S k)
    (hes : ∀ e ∈ es, ¬ S e.b ∧ ¬ S e.b0) : Giv w' B v0 v1 es := by
  obtain ⟨cur, hc, hr⟩ := h.blk
  have hlt : B < w.heap.size := by
    rcases Nat.lt_or_ge B w.heap.size with hlt | hge
    · exact hlt
    · rw [Array.getElem?_eq_none hge] at hc; cases hc
  refine ⟨⟨cur, by rw [k.block B hlt hB]; exact hc, hr⟩, ownsRow_chg h.own0 k h0, ownsRow_chg h.own1 k h1, h.apart, fun e he => ?_⟩
  have := h.ents e he
  exact ⟨this.sl.chg k (fun x hx _ => by cases hx; exact (hes e he).1), this.sl0.chg k (fun x hx _ => by cases hx; exact (hes e he).2), this.s, this.s0⟩

theorem Giv.below {w w' : World} {B : Nat} {v0 v1 : Value} {es : List Ent} (h : Giv w B v0 v1 es) (k : Below w.heap.size w w') : Giv w' B v0 v1 es :=
  h.chg (S := fun _ => False) (.of_below k) id (fun _ _ => id) (fun _ _ => id) (fun _ _ => ⟨id, id⟩)

theorem Giv.cell0 {w : World} {B : Nat} {v0 v1 : Value} {es : List Ent} (h : Giv w B v0 v1 es) : w.cell? ⟨B, 0, none⟩ = some v0 ∧ w.cell? ⟨B, 1, none⟩ = some v1 ∧ w.frozen? ⟨B, 0, none⟩ = false ∧ w.frozen? ⟨B, 1, none⟩ = false ∧ B < w.heap.size := by
  obtain ⟨cur, hc, hr⟩ := h.blk
  have e0 : w.cell? ⟨B, 0, none⟩ = some v0 := by rw [cell_of_block hc]; exact hr.2.1
  exact ⟨e0, by rw [cell_of_block hc]; exact hr.2.2.1, frozen_of_block hc _, frozen_of_block hc _, World.block_lt_of_cell? _ _ e0⟩

theorem own_ge {w : World} {base : Nat} {e : TypeId} {size : Nat} {v : Value} {n : Nat} {xs : List Value} (h : w.ownsRow base e size v n xs) : ∀ k, v.ownBlock = some k → base ≤ k ∧ k < w.heap.size := by
  intro k hk
  rcases h.2 with ⟨h2, h3⟩ | ⟨g', cap, cur, h3, h4, h5, h6, h7, h8, h9⟩
  · subst h2; cases hk
  · subst h3
    simp [Value.ownBlock] at hk
    subst hk
    refine ⟨h4, ?_⟩
    rcases Nat.lt_or_ge g' w.heap.size with hlt | hge
    · exact hlt
    · rw [Array.getElem?_eq_none hge] at h5; cases h5

theorem block_lt {w : World} {b : Nat} {o : Obj} (h : w.heap[b]? = some o) : b < w.heap.size := by
  rcases Nat.lt_or_ge b w.heap.size with hlt | hge
  · exact hlt
  · rw [Array.getElem?_eq_none hge] at h; cases h
def CellsI (w : World) (b off : Nat) (xs : List Int) : Prop :=
  ∀ i, i < xs.length → w.cell? ⟨b, off + i, none⟩ = some (.int .i64 (xs.getD i 0))
structure SlI (w : World) (a : Option Addr) (n c : Nat) (xs : List Int) : Prop where
  len : xs.length = n
  le : n ≤ c
  cap : c ≤ maxLen
  cells : xs = [] ∨ ∃ b off, a = some ⟨b, off, none⟩ ∧ CellsI w b off xs
theorem SlI.below {w w' : World} {a : Option Addr} {n c : Nat} {xs : List Int} (h : SlI w a n c xs) (hb : Below w.heap.size w w') : SlI w' a n c xs :=
  ⟨h.len, h.le, h.cap, h.cells.imp id (fun ⟨b, off, e, k⟩ => ⟨b, off, e, fun i hi => (Chg.of_below hb).cell (S := fun _ => False) (fun x => x) (k i hi)⟩)⟩
theorem SlI.at {w : World} {a : Option Addr} {n c : Nat} {xs : List Int} (h : SlI w a n c xs) (hn : 0 < n) : ∃ b off, a = some ⟨b, off, none⟩ ∧ ∀ i, i < n → w.cell? ⟨b, off + i, none⟩ = some (.int .i64 (xs.getD i 0)) := by
  rcases h.cells with e | ⟨b, off, e, k⟩
  · have := h.len; rw [e] at this; simp at this; omega
  · exact ⟨b, off, e, fun i hi => k i (by rw [h.len]; exact hi)⟩
theorem SlI.nil (w : World) : SlI w none 0 0 [] := ⟨rfl, Nat.le_refl _, Nat.zero_le _, .inl rfl⟩
structure RowP (width : Int) (cols : List Int) (x y : Nat) : Prop where
  rng : ∀ i, x ≤ i → i < y → 0 ≤ cols.getD i 0 ∧ cols.getD i 0 < width
  up : ∀ i, x < i → i < y → cols.getD (i - 1) 0 < cols.getD i 0
structure HeadP (rows width : Int) (st cols : List Int) : Prop where
  fit : 0 ≤ rows ∧ rows ≤ 128 ∧ 0 ≤ width ∧ width ≤ 128
  len : (st.length : Int) = rows + 1
  first : st.getD 0 0 = 0
  last : st.getD rows.toNat 0 = (cols.length : Int)
def SortP (st : List Int) (x : Nat) : Prop := ∀ i, x ≤ i → i + 1 < st.length → st.getD i 0 ≤ st.getD (i + 1) 0
structure MayP (rows width : Int) (st cols : List Int) : Prop where
  head : HeadP rows width st cols
  sort : SortP st 0
  row : ∀ r, r + 1 < st.length → RowP width cols (st.getD r 0).toNat (st.getD (r + 1) 0).toNat
theorem SortP.mono {st : List Int} (h : SortP st 0) : ∀ d i, i + d < st.length → st.getD i 0 ≤ st.getD (i + d) 0
  | 0, i, _ => Int.le_refl _
  | d + 1, i, hi => Int.le_trans (SortP.mono h d i (by omega)) (h (i + d) (Nat.zero_le _) (by omega))
theorem HeadP.rng {rows width : Int} {st cols : List Int} (h : HeadP rows width st cols) (hs : SortP st 0) {i : Nat} (hi : i < st.length) : 0 ≤ st.getD i 0 ∧ st.getD i 0 ≤ (cols.length : Int) := by
  have h1 := hs.mono i 0 (by omega)
  rw [Nat.zero_add, h.first] at h1
  have hl := h.len
  have hf := h.fit
  have h2 := hs.mono (rows.toNat - i) i (by omega)
  rw [show i + (rows.toNat - i) = rows.toNat by omega, h.last] at h2
  exact ⟨h1, h2⟩
def InP (size : Int) (xs : List Int) (n : Nat) : Prop := ∀ i, i < n → 0 ≤ xs.getD i 0 ∧ xs.getD i 0 < size
def BIs (P : Prop) (w w' : World) (e : Ending) : Prop := (∃ b : Bool, e = .returned (.bool b) ∧ (b = true ↔ P)) ∧ Below w.heap.size w w'
def BIq (P : Prop) (w w' : World) (e : Ending) : Prop := (∃ b : Bool, e = .returned (.bool b) ∧ (b = true ↔ P)) ∧ w' = w
def Dr (w w' : World) : Prop := ∃ m, w' = w.drewN m
theorem Dr.refl (w : World) : Dr w w := ⟨0, rfl⟩
theorem Dr.drew {w w' : World} (h : Dr w w') : Dr w w'.drew := by obtain ⟨m, rfl⟩ := h; exact ⟨m + 1, by simp⟩
theorem Dr.n {w w' : World} (h : Dr w w') (k : Nat) : Dr w (w'.drewN k) := by obtain ⟨m, rfl⟩ := h; exact ⟨m + k, by rw [World.drewN_drewN]⟩
theorem Dr.trans {w w' w'' : World} (h : Dr w w') (k : Dr w' w'') : Dr w w'' := by obtain ⟨m, rfl⟩ := k; exact h.n m
theorem Dr.below {w w' : World} (h : Dr w w') : Below w.heap.size w w' := by obtain ⟨m, rfl⟩ := h; exact bel_drewN (Below.refl _ _) m
def QI (ok : Bool) (w w' : World) (e : Ending) : Prop := e = .returned (.bool ok) ∧ Dr w w'
theorem QI.yes {P : Prop} {ok : Bool} (ho : ok = true ↔ P) {w w' : World} (h : P) (k : Dr w w') : QI ok w w' (.returned (.bool true)) := ⟨by rw [ho.2 h], k⟩
theorem QI.no {P : Prop} {ok : Bool} (ho : ok = true ↔ P) {w w' : World} (h : ¬ P) (k : Dr w w') : QI ok w w' (.returned (.bool false)) := ⟨by cases ok; rfl; exact absurd (ho.1 rfl) h, k⟩
theorem truth (P : Prop) : ∃ ok : Bool, ok = true ↔ P := by by_cases h : P; exact ⟨true, by simp [h]⟩; exact ⟨false, by simp [h]⟩
theorem BIs.yes {P : Prop} {w w' : World} (h : P) (k : Below w.heap.size w w') : BIs P w w' (.returned (.bool true)) := ⟨⟨true, rfl, by simp [h]⟩, k⟩
theorem BIs.no {P : Prop} {w w' : World} (h : ¬ P) (k : Below w.heap.size w w') : BIs P w w' (.returned (.bool false)) := ⟨⟨false, rfl, by simp [h]⟩, k⟩
set_option maxRecDepth 20000 in
set_option maxHeartbeats 8000000 in
theorem fits_any (rows width : Int) (w : World) : Calls Tryz.prog 67 #[.int .i64 rows, .int .i64 width] w fun e w' => BIq (0 ≤ rows ∧ rows ≤ 128 ∧ 0 ≤ width ∧ width ≤ 128) w w' e := by
  by_cases h1 : 0 ≤ rows
  · by_cases h2 : rows ≤ 128
    · by_cases h3 : 0 ≤ width
      · by_cases h4 : width ≤ 128
        · go_enter Tryz.func67, Tryz.ntmps67
          go_wp2_with fail
          go_ret
          exact ⟨⟨true, rfl, by simp [h1, h2, h3, h4]⟩, rfl⟩
        · go_enter Tryz.func67, Tryz.ntmps67
          go_wp2_with fail
          go_ret
          exact ⟨⟨false, rfl, by simp; omega⟩, rfl⟩
      · go_enter Tryz.func67, Tryz.ntmps67
        go_wp2_with fail
        go_ret
        exact ⟨⟨false, rfl, by simp; omega⟩, rfl⟩
    · go_enter Tryz.func67, Tryz.ntmps67
      go_wp2_with fail
      go_ret
      exact ⟨⟨false, rfl, by simp; omega⟩, rfl⟩
  · go_enter Tryz.func67, Tryz.ntmps67
    go_wp2_with fail
    go_ret
    exact ⟨⟨false, rfl, by simp; omega⟩, rfl⟩
set_option maxRecDepth 20000 in
set_option maxHeartbeats 8000000 in
theorem sized_any (rows width : Int) (w : World) : Calls Tryz.prog 75 #[.int .i64 rows, .int .i64 width] w fun e w' => BIq (0 ≤ rows ∧ rows ≤ 128 ∧ 0 ≤ width ∧ width ≤ 128) w w' e := by
  by_cases h1 : 0 ≤ rows
  · by_cases h2 : rows ≤ 128
    · by_cases h3 : 0 ≤ width
      · by_cases h4 : width ≤ 128
        · go_enter Tryz.func75, Tryz.ntmps75
          go_wp2_with fail
          go_ret
          exact ⟨⟨true, rfl, by simp [h1, h2, h3, h4]⟩, rfl⟩
        · go_enter Tryz.func75, Tryz.ntmps75
          go_wp2_with fail
          go_ret
          exact ⟨⟨false, rfl, by simp; omega⟩, rfl⟩
      · go_enter Tryz.func75, Tryz.ntmps75
        go_wp2_with fail
        go_ret
        exact ⟨⟨false, rfl, by simp; omega⟩, rfl⟩
    · go_enter Tryz.func75, Tryz.ntmps75
      go_wp2_with fail
      go_ret
      exact ⟨⟨false, rfl, by simp; omega⟩, rfl⟩
  · go_enter Tryz.func75, Tryz.ntmps75
    go_wp2_with fail
    go_ret
    exact ⟨⟨false, rfl, by simp; omega⟩, rfl⟩
set_option maxRecDepth 20000 in
set_option maxHeartbeats 8000000 in
theorem within_any (a : Option Addr) (n c : Nat) (xs : List Int) (size : Int) (w : World) (h : SlI w a n c xs) (hn : n ≤ 140737488355328) (ok : Bool) (hok : ok = true ↔ InP size xs n) : Calls Tryz.prog 109 #[.slice a n c, .int .i64 size] w fun e w' => QI ok w w' e := by
  have HS := hide h
  have HOK := hide hok
  clear h hok
  go_enter Tryz.func109, Tryz.ntmps109
  go_wp2_with fail
  go_loopw [9, 6] (fun kv _ wr => ∃ k : Nat, k ≤ n ∧ kv = .int .i64 (k : Nat) ∧ Hid (∀ i, i < k → 0 ≤ xs.getD i 0 ∧ xs.getD i 0 < size) ∧ Hid (Dr w wr)) (fun kv _ _ => n - (intOf kv).toNat)
  case atStart => exact ⟨0, Nat.zero_le _, rfl, fun i hi => absurd hi (Nat.not_lt_zero _), Dr.refl _⟩
  case round =>
    obtain ⟨k, hk, rfl, HK, HW⟩ := hrel
    by_cases hlt : k < n
    · have hlt' : (k:Int) < (n:Int) := by omega
      obtain ⟨b, off, rfl, hc⟩ := ((unhide HS).below (unhide HW).below).at (by omega)
      have hx := hc k hlt
      obtain ⟨x, hxx⟩ : ∃ x, xs.getD k 0 = x := ⟨_, rfl⟩
      rw [hxx] at hx
      have HX := hide hxx
      clear hc hxx
      by_cases h0 : x < 0
      · go_wp2_with fail
        go_ret
        exact QI.no (unhide HOK) (fun z => by unfold InP at z; have := (z k hlt).1; have h9 := unhide HX; rw [h9] at this; omega) (unhide HW)
      · by_cases h1 : size ≤ x
        · go_wp2_with fail
          go_ret
          exact QI.no (unhide HOK) (fun z => by unfold InP at z; have := (z k hlt).2; have h9 := unhide HX; rw [h9] at this; omega) (unhide HW)
        · go_wp2_with fail
          refine ⟨⟨k + 1, by omega, by (first | rfl | go_num), hide fun i hi => ?_, HW⟩, by simp [intOf]; omega⟩
          rcases Nat.lt_or_eq_of_le (Nat.le_of_lt_succ hi) with e | e
          · exact unhide HK i e
          · rw [e, unhide HX]; omega
    · have hkn : k = n := by omega
      subst hkn
      have hlt' : ¬ (k:Int) < (k:Int) := by omega
      go_wp2_with fail
      go_ret
      exact QI.yes (unhide HOK) (unhide HK) (unhide HW)
set_option maxRecDepth 20000 in
set_option maxHeartbeats 8000000 in
theorem isRow_any (a : Option Addr) (n c : Nat) (xs : List Int) (width : Int) (w : World) (h : SlI w a n c xs) (hn : n ≤ 140737488355328) (ok : Bool) (hok : ok = true ↔ RowP width xs 0 n) : Calls Tryz.prog 69 #[.slice a n c, .int .i64 width] w fun e w' => QI ok w w' e := by
  have HS := hide h
  have HOK := hide hok
  obtain ⟨ok2, hok2⟩ := truth (InP width xs n)
  have HOK2 := hide hok2
  have KW := hide (fun (W : World) (k : Dr w W) => within_any a n c xs width W (h.below k.below) hn ok2 hok2)
  clear hok2
  clear h hok
  go_enter Tryz.func69, Tryz.ntmps69
  go_wp2_with fail
  go_loopw [5] (fun kv wr => ∃ k : Nat, 1 ≤ k ∧ (k ≤ n ∨ k = 1) ∧ kv = .int .i64 (k : Nat) ∧ Hid (∀ i, 0 < i → i < k → xs.getD (i - 1) 0 < xs.getD i 0) ∧ Hid (Dr w wr)) (fun kv _ => n - (intOf kv).toNat)
  case atStart => exact ⟨1, Nat.le_refl _, .inr rfl, rfl, fun i hi hi2 => by omega, Dr.refl _⟩
  case round =>
    obtain ⟨k, hk1, hk, rfl, HK, HW⟩ := hrel
    by_cases hlt : k < n
    · have hlt' : (k:Int) < (n:Int) := by omega
      obtain ⟨b, off, rfl, hc⟩ := ((unhide HS).below (unhide HW).below).at (by omega)
      obtain ⟨j, hj⟩ : ∃ j, k = j + 1 := ⟨k - 1, by omega⟩
      subst hj
      have hx := hc (j + 1) hlt
      have hy := hc j (by omega)
      obtain ⟨x, hxx⟩ : ∃ x, xs.getD (j + 1) 0 = x := ⟨_, rfl⟩
      obtain ⟨y, hyy⟩ : ∃ y, xs.getD j 0 = y := ⟨_, rfl⟩
      rw [hxx] at hx
      rw [hyy] at hy
      have HX := hide (And.intro hxx hyy)
      clear hc hxx hyy hk
      have hlt2 : (j:Int) + 1 < (n:Int) := by omega
      clear hlt'
      by_cases h0 : x ≤ y
      · go_wp2_with fail
        go_region
        all_goals go_wp2_with fail
        all_goals go_ret
        all_goals exact QI.no (unhide HOK) (fun z => by have h8 := z.up (j + 1) (by omega) hlt; have h9 := unhide HX; rw [h9.1, Nat.add_sub_cancel, h9.2] at h8; omega) (unhide HW).drew
      · go_wp2_with fail
        go_region
        all_goals go_wp2_with fail
        all_goals refine ⟨⟨j + 1 + 1, by omega, by omega, by (first | rfl | go_num), hide fun i hi hi2 => ?_, hide (unhide HW).drew⟩, by simp [intOf]; omega⟩
        all_goals rcases Nat.lt_or_eq_of_le (Nat.le_of_lt_succ hi2) with e | e
        all_goals first | exact unhide HK i hi e | (have h9 := unhide HX; subst e; rw [h9.1, Nat.add_sub_cancel, h9.2]; omega)
    · have hlt' : ¬ (k:Int) < (n:Int) := by omega
      go_wp2_with fail
      refine (unhide KW _ (unhide HW)).mono ?_
      rintro _ w3 ⟨rfl, d3⟩
      have HD := hide ((unhide HW).trans d3)
      clear d3
      go_wp2_with fail
      go_ret
      have hK := unhide HK
      refine ⟨?_, unhide HD⟩
      have : ok2 = ok := by
        have h1 := unhide HOK
        have h2 := unhide HOK2
        have h3 : InP width xs n ↔ RowP width xs 0 n := ⟨fun z => ⟨fun i _ hi => z i hi, fun i h1 h2 => hK i h1 (by omega)⟩, fun z i hi => z.rng i (Nat.zero_le _) hi⟩
        have h4 := (h2.trans h3).trans h1.symm
        cases ok2 <;> cases ok <;> simp_all
      show Ending.returned (Value.bool ok2) = _
      rw [this]
theorem wrapJ (x : Int) (h0 : -9223372036854775808 ≤ x) (h1 : x < 9223372036854775808) : IntKind.i64.wrap x = x := by
  have e : IntKind.i64.wrap x = (x + 9223372036854775808) % 18446744073709551616 - 9223372036854775808 := by
    simp [IntKind.wrap, IntKind.bits, IntKind.signed]
    split <;> omega
  rw [e]
  omega
theorem nan_int (x : Int) (w : World) : Calls Tryz.prog 137 #[.int .i64 x] w fun e w' => e = .returned (.bool false) ∧ w' = w := by
  go_enter Tryz.func137, Tryz.ntmps137
  go_wp2_with fail
  go_ret
  exact ⟨by simp, rfl⟩
theorem less_int (x y : Int) (w : World) : Calls Tryz.prog 108 #[.int .i64 x, .int .i64 y] w fun e w' => e = .returned (.bool (decide (x < y))) ∧ w' = w := by
  have H1 := hide (nan_int x w)
  go_enter Tryz.func108, Tryz.ntmps108
  go_wp2_with fail
  refine (unhide H1).mono ?_
  rintro _ _ ⟨rfl, hw⟩
  obtain rfl := hw.symm
  clear hw
  go_wp2_with fail
  go_ret
  exact ⟨rfl, rfl⟩
set_option maxRecDepth 20000 in
set_option maxHeartbeats 8000000 in
theorem isSorted_any (a : Option Addr) (n c : Nat) (xs : List Int) (w : World) (h : SlI w a n c xs) (hn : n ≤ 140737488355328) (ok : Bool) (hok : ok = true ↔ SortP xs 0) : Calls Tryz.prog 68 #[.slice a n c] w fun e w' => QI ok w w' e := by
  have HL := hide h.len
  have HS := hide h
  have HOK := hide hok
  have KL := hide (fun (x y : Int) (W : World) => less_int x y W)
  clear h hok
  go_enter Tryz.func68, Tryz.ntmps68
  go_wp2_with fail
  go_loopw [3] (fun iv wr => ∃ q : Nat, q ≤ n ∧ iv = .int .i64 ((q : Int) - 1) ∧ Hid (SortP xs (q - 1)) ∧ Hid (Dr w wr)) (fun iv _ => ((intOf iv) + 1).toNat)
  case atStart => exact ⟨n, Nat.le_refl _, rfl, hide (fun i h1 h2 => by have := unhide HL; omega), Dr.refl _⟩
  case round =>
    obtain ⟨q, hq, rfl, HK, HW⟩ := hrel
    by_cases h2 : 2 ≤ q
    · obtain ⟨j, hj⟩ : ∃ j, q = j + 2 := ⟨q - 2, by omega⟩
      subst hj
      have ej : ((j + 2 : Nat) : Int) - 1 = (j : Int) + 1 := by omega
      rw [ej]
      have HEJ := hide ej
      obtain ⟨b, off, rfl, hc⟩ := ((unhide HS).below (unhide HW).below).at (by omega)
      have hx := hc (j + 1) (by omega)
      have hy := hc j (by omega)
      obtain ⟨x, hxx⟩ : ∃ x, xs.getD (j + 1) 0 = x := ⟨_, rfl⟩
      obtain ⟨y, hyy⟩ : ∃ y, xs.getD j 0 = y := ⟨_, rfl⟩
      rw [hxx] at hx
      rw [hyy] at hy
      have HX := hide (And.intro hxx hyy)
      have hlt2 : (j:Int) + 1 < (n:Int) := by omega
      have h0 : (0:Int) < (j:Int) + 1 := by omega
      have hjj : IntKind.i64.wrap ((j:Int) + 1 - 1) = (j:Int) := by rw [wrapJ _ (by omega) (by omega)]; omega
      have hlt3 : (j:Int) < (n:Int) := by omega
      have hj0 : (0:Int) ≤ (j:Int) := by omega
      clear hc hxx hyy ej h2
      by_cases hl : x < y
      · have KX := hide (fun (W : World) => (show Calls Tryz.prog 108 #[.int .i64 x, .int .i64 y] W fun e w' => e = .returned (.bool true) ∧ w' = W from by have := less_int x y W; rwa [decide_eq_true hl] at this))
        have HLL := hide hl
        clear hl
        go_wp2_with fail
        go_quiet ((go_at_call 108; exact Calls.quiet_of_same (unhide KX _)))
        all_goals go_wp2_with fail
        all_goals go_ret
        all_goals exact QI.no (unhide HOK) (fun z => by have h8 := z j (Nat.zero_le _) (by have := unhide HL; omega); have h9 := unhide HX; rw [h9.1, h9.2] at h8; have := unhide HLL; omega) ((unhide HW).n _)
      · have KX := hide (fun (W : World) => (show Calls Tryz.prog 108 #[.int .i64 x, .int .i64 y] W fun e w' => e = .returned (.bool false) ∧ w' = W from by have := less_int x y W; rwa [decide_eq_false hl] at this))
        have HLL := hide hl
        clear hl
        go_wp2_with fail
        go_quiet ((go_at_call 108; exact Calls.quiet_of_same (unhide KX _)))
        all_goals go_wp2_with fail
        all_goals refine ⟨⟨j + 1, by omega, by (first | rfl | go_num | (congr 1; omega)), hide fun i hi hi2 => ?_, hide ((unhide HW).n _)⟩, by simp [intOf]; omega⟩
        all_goals by_cases e : i = j
        · subst e
          have h9 := unhide HX
          rw [h9.1, h9.2]
          have := unhide HLL
          omega
        · exact unhide HK i (by omega) hi2
    · have h0 : ¬ (0:Int) < (q:Int) - 1 := by omega
      go_wp2_with fail
      go_ret
      exact QI.yes (unhide HOK) (fun i _ hi => unhide HK i (by omega) hi) (unhide HW)
end Go.Proofs.YtgjokididdffhaaGreat
