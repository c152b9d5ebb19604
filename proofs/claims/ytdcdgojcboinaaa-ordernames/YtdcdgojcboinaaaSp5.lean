/-
  slopeplain.Given.Pattern: contract.
-/
import Derived.Test.YtdcdgojcboinaaaSa3
import Derived.Test.YtdcdgojcboinaaaSi3
import Derived.Deep.RegionHeld3
namespace Go.Proofs.Ytdcdgojcboinaaa
open Go.RowKit Go.Deep
set_option linter.unusedVariables false

/-- A box of cells that may be written. -/
structure BoxP (w : World) (X : Nat) (vs : List Value) : Prop where
  all : ∀ q u, vs[q]? = some u → w.cell? ⟨X, q, none⟩ = some u ∧ w.frozen? ⟨X, q, none⟩ = false
  lt : X < w.heap.size
theorem Chg.frzP {S : Nat → Prop} {w w' : World} (h : Chg S w w') {b i : Nat} (hb : b < w.heap.size) (hs : ¬ S b) : w'.frozen? ⟨b, i, none⟩ = w.frozen? ⟨b, i, none⟩ := by
  unfold World.frozen?
  rw [h.block b hb hs]
theorem BoxP.chg {S : Nat → Prop} {w w' : World} {X : Nat} {vs : List Value} (h : BoxP w X vs) (k : Chg S w w') (hs : ¬ S X) : BoxP w' X vs :=
  ⟨fun q u hq => ⟨k.cell hs (h.all q u hq).1, by rw [k.frzP h.lt hs]; exact (h.all q u hq).2⟩, Nat.lt_of_lt_of_le h.lt k.size⟩
theorem BoxP.below {w w' : World} {X : Nat} {vs : List Value} (h : BoxP w X vs) (k : Below w.heap.size w w') : BoxP w' X vs := h.chg (S := fun _ => False) (Chg.of_below k) (fun x => x)
theorem BoxP.put {w : World} {X : Nat} {vs : List Value} (h : BoxP w X vs) (q : Nat) (u : Value) : BoxP (w.setCell ⟨X, q, none⟩ u) X (vs.set q u) := by
  refine ⟨fun p x hp => ?_, by simpa using h.lt⟩
  rw [World.frozen?_setCell]
  rw [List.getElem?_set] at hp
  by_cases e : q = p
  · subst e
    rw [if_pos rfl] at hp
    split at hp
    · rename_i hl
      obtain ⟨y, hy⟩ : ∃ y, vs[q]? = some y := ⟨_, List.getElem?_eq_getElem hl⟩
      have h1 := h.all q y hy
      obtain rfl := Option.some.inj hp
      exact ⟨World.cell?_setCell_same _ _ _ h1.1, h1.2⟩
    · cases hp
  · rw [if_neg e] at hp
    have h1 := h.all p x hp
    exact ⟨by rw [World.cell?_setCell_other _ _ _ _ (by intro c; simp at c; try omega)]; exact h1.1, h1.2⟩
theorem BoxP.other {w : World} {X : Nat} {vs : List Value} (h : BoxP w X vs) {Y : Nat} (q : Nat) (u : Value) (hn : X ≠ Y) : BoxP (w.setCell ⟨Y, q, none⟩ u) X vs :=
  h.chg (S := fun j => j = Y) (Chg.of_set _ _ _ _ rfl) hn
theorem BoxP.made (w : World) (vs : Array Value) (e : TypeId) : BoxP (w.alloc (.cells vs e)) w.heap.size vs.toList := by
  refine ⟨fun q u hq => ?_, by simp⟩
  have hq' : vs[q]? = some u := by simpa using hq
  exact ⟨by simp [hq'], by simp⟩
theorem EntOkI.ne {w : World} {B : Nat} {v0 v1 : Value} {e : EntI} (h : EntOkI w B v0 v1 e) {R : Nat} {a : Option Addr} {n c : Nat} (hR : w.cell? ⟨R, 2, none⟩ = some (.slice a n c)) : ¬ e.b = R ∧ ¬ e.b0 = R := by
  have k : ∀ {b c' : Nat}, SlI w (some ⟨b, 0, none⟩) (e.xs.length + 3) c' (e.xs ++ marksI) → ¬ b = R := by
    intro b c' hs hb
    obtain ⟨b2, o2, e2, hc⟩ := hs.at (by omega)
    injection e2 with e3
    injection e3 with e4 e5 e6
    subst e4 e5 hb
    have := hc 2 (by omega)
    rw [Nat.zero_add, hR] at this
    cases this
  exact ⟨k h.sl, k h.sl0⟩
end Go.Proofs.Ytdcdgojcboinaaa

namespace Go.Proofs.Ytdcdgojcboinaaa
open Go.RowKit Go.Deep
set_option linter.unusedVariables false

theorem SlI.front {w : World} {a : Option Addr} {c : Nat} {xs ys : List Int} (h : SlI w a (xs.length + 3) c (xs ++ ys)) {n : Nat} {x : List Int} (hx : xs = x) (hn : x.length = n) : SlI w a n c x := by
  subst hx
  refine ⟨hn, by have := h.le; omega, h.cap, ?_⟩
  rcases h.cells with e | ⟨b, off, e, k⟩
  · left
    exact (List.append_eq_nil_iff.1 e).1
  · right
    refine ⟨b, off, e, fun i hi => ?_⟩
    have := k i (by simp; omega)
    rw [this]
    congr 2
    simp [List.getD, List.getElem?_append_left hi]
/-- The truth of a sentence. -/
def TruQ (b : Bool) (P : Prop) : Prop := b = true ↔ P
theorem BIs.known {P : Prop} {w w' : World} {e : Ending} {b : Bool} (hb : TruQ b P) (h : BIs P w w' e) : e = .returned (.bool b) ∧ Below w.heap.size w w' := by
  obtain ⟨⟨b', rfl, hb'⟩, k⟩ := h
  have : b' = b := by
    have := hb'.trans (Iff.symm hb)
    cases b <;> cases b' <;> simp_all
  rw [this]
  exact ⟨rfl, k⟩
theorem TruQ.con {b : Bool} {P R : Prop} (h : TruQ b P) (e : R ↔ P) : TruQ b R := Iff.trans h e.symm
end Go.Proofs.Ytdcdgojcboinaaa

namespace Go.Proofs.Ytdcdgojcboinaaa
open Go.RowKit Go.Deep
set_option linter.unusedVariables false

/-- A row of cells that may be written. -/
def RoV (w : World) (b n : Nat) (f : Nat → Value) : Prop := ∀ i, i < n → w.cell? ⟨b, i, none⟩ = some (f i) ∧ w.frozen? ⟨b, i, none⟩ = false
theorem RoV.made (w : World) (n : Nat) (e : TypeId) (z : Value) : RoV (w.alloc (.cells (madeCells #[z] n) e)) w.heap.size n (fun _ => z) := by
  intro i hi
  refine ⟨?_, by simp⟩
  simp [madeCells, hi, Nat.mod_one]
theorem RoV.chg {S : Nat → Prop} {w w' : World} {b n : Nat} {f : Nat → Value} (h : RoV w b n f) (k : Chg S w w') (hs : ¬ S b) : RoV w' b n f := fun i hi => ⟨k.cell hs (h i hi).1, by rw [k.frzP (World.block_lt_of_cell? _ _ (h i hi).1) hs]; exact (h i hi).2⟩
theorem RoV.below {w w' : World} {b n : Nat} {f : Nat → Value} (h : RoV w b n f) (k : Below w.heap.size w w') : RoV w' b n f := h.chg (S := fun _ => False) (Chg.of_below k) (fun x => x)
theorem RoV.put {w : World} {b n : Nat} {f : Nat → Value} (h : RoV w b n f) (k : Nat) (v : Value) (hk : k < n) : RoV (w.setCell ⟨b, k, none⟩ v) b n (fun i => if i = k then v else f i) := by
  intro i hi
  rw [World.frozen?_setCell]
  refine ⟨?_, (h i hi).2⟩
  by_cases e : i = k
  · subst e
    simp only [if_true]
    exact World.cell?_setCell_same _ _ _ (h i hi).1
  · simp only [e, if_false]
    rw [World.cell?_setCell_other _ _ _ _ (by intro c; simp at c; first | done | omega)]
    exact (h i hi).1
theorem RoV.congr {w : World} {b n : Nat} {f g : Nat → Value} (h : RoV w b n f) (e : ∀ i, i < n → f i = g i) : RoV w b n g := fun i hi => by rw [← e i hi]; exact h i hi
/-- The truth of a sentence, as a bool. -/
noncomputable def tb (P : Prop) : Bool := @decide P (Classical.propDecidable P)
theorem tb_iff {P : Prop} : tb P = true ↔ P := by unfold tb; exact @decide_eq_true_iff P (Classical.propDecidable P)
theorem tb_yes {P : Prop} (h : P) : tb P = true := tb_iff.2 h
theorem tb_no {P : Prop} (h : ¬ P) : tb P = false := by cases hk : tb P; rfl; exact absurd (tb_iff.1 hk) h
theorem tb_congr {P Q : Prop} (h : P ↔ Q) : tb P = tb Q := by by_cases p : P; rw [tb_yes p, tb_yes (h.1 p)]; rw [tb_no p, tb_no (fun q => p (h.2 q))]
theorem Try.info_boolP : (Try.prog.info? 4).map (fun i => (i.zero, i.size, i.bytes)) = some (some (.bool false), 1, 1) := by kernel_rfl
theorem make_boolsP (n : Nat) (hn : n ≤ 35184372088000) (w : World) : (Instr.makeSlice 25 (.int .i64 (n : Int)) (.int .i64 (n : Int))).run Try.prog w = .ok (.slice (some ⟨w.heap.size, 0, none⟩) n n) (w.alloc (.cells (madeCells #[.bool false] n) 4)) :=
  run_make_row' (P := Try.prog) 25 4 (.bool false) 1 Try.underlying25 Try.info_boolP rfl .i64 .i64 n (by omega) (by omega) w
/-- A grid as it is handed over. -/
def gridV (rows width : Nat) (b n : Nat) : Value := .agg #[.int .i64 (rows : Int), .int .i64 (width : Int), .slice (some ⟨b, 0, none⟩) n n]
end Go.Proofs.Ytdcdgojcboinaaa

namespace Go.Proofs.Ytdcdgojcboinaaa
open Go.RowKit Go.Deep
set_option linter.unusedVariables false

/-- A place of a grid that was laid by the first i columns. -/
def Vis (R width : Nat) (st cols : List Int) (i x : Nat) : Prop := ∃ r j : Nat, r < R ∧ st.getD r 0 ≤ (j : Int) ∧ (j : Int) < st.getD (r + 1) 0 ∧ j < i ∧ (r : Int) * (width : Int) + cols.getD j 0 = (x : Int)
theorem Vis.zero {R width : Nat} {st cols : List Int} {x : Nat} : ¬ Vis R width st cols 0 x := fun ⟨_, _, _, _, _, h, _⟩ => absurd h (Nat.not_lt_zero _)
theorem row_one {R : Nat} {width : Int} {st cols : List Int} (hm : MayP (R : Int) width st cols) {r k j : Nat} (hr : r < R) (hk : k < R) (h1 : st.getD r 0 ≤ (j : Int)) (h2 : (j : Int) < st.getD (r + 1) 0) (h3 : st.getD k 0 ≤ (j : Int)) (h4 : (j : Int) < st.getD (k + 1) 0) : r = k := by
  have hl := hm.head.len
  rcases Nat.lt_trichotomy r k with c | c | c
  · have := hm.sort.mono (k - (r + 1)) (r + 1) (by omega)
    rw [show r + 1 + (k - (r + 1)) = k by omega] at this
    omega
  · exact c
  · have := hm.sort.mono (r - (k + 1)) (k + 1) (by omega)
    rw [show k + 1 + (r - (k + 1)) = r by omega] at this
    omega
theorem Vis.step {R width : Nat} {st cols : List Int} (hm : MayP (R : Int) (width : Int) st cols) {k X Y i c : Nat} (hk : k < R) (hR : RowAt st cols (width : Int) k X Y) (h1 : X ≤ i) (h2 : i < Y) (hc : cols.getD i 0 = (c : Int)) (x : Nat) : Vis R width st cols (i + 1) x ↔ (Vis R width st cols i x ∨ x = k * width + c) := by
  constructor
  · rintro ⟨r, j, hr, a1, a2, a3, a4⟩
    by_cases e : j = i
    · subst e
      right
      have := row_one hm hr hk a1 a2 (by rw [hR.hX]; omega) (by rw [hR.hY]; omega)
      subst this
      rw [hc] at a4
      have e2 : ((r * width : Nat) : Int) = (r : Int) * (width : Int) := by simp
      omega
    · exact .inl ⟨r, j, hr, a1, a2, by omega, a4⟩
  · rintro (⟨r, j, hr, a1, a2, a3, a4⟩ | e)
    · exact ⟨r, j, hr, a1, a2, by omega, a4⟩
    · refine ⟨k, i, hk, by rw [hR.hX]; omega, by rw [hR.hY]; omega, by omega, ?_⟩
      rw [hc, e]
      simp
theorem Vis.has {R width : Nat} {st cols : List Int} (hm : MayP (R : Int) (width : Int) st cols) {r c : Nat} (hr : r < R) (hc : c < width) : Vis R width st cols cols.length (r * width + c) ↔ HasP (R : Int) (width : Int) st cols (r : Int) (c : Int) := by
  have e0 : ((r : Int)).toNat = r := by omega
  have hl := hm.head.len
  constructor
  · rintro ⟨q, j, hq, a1, a2, a3, a4⟩
    obtain ⟨X, Y, hR⟩ := hm.rowAt (k := q) (by omega)
    rw [hR.hX] at a1
    rw [hR.hY] at a2
    have hg := hR.row.rng j (by omega) (by omega)
    obtain ⟨d, hd⟩ : ∃ d : Nat, cols.getD j 0 = (d : Int) := ⟨(cols.getD j 0).toNat, by omega⟩
    rw [hd] at a4 hg
    have a5 : q * width + d = r * width + c := by
      have e1 : ((q * width : Nat) : Int) = (q : Int) * (width : Int) := by simp
      have e2 : ((r * width + c : Nat) : Int) = ((r * width : Nat) : Int) + (c : Int) := by simp
      omega
    have a6 : q = r := by
      have h1 : (q * width + d) / width = q := by rw [Nat.mul_comm, Nat.mul_add_div (by omega)]; rw [Nat.div_eq_of_lt (by omega)]; rfl
      have h2 : (r * width + c) / width = r := by rw [Nat.mul_comm, Nat.mul_add_div (by omega)]; rw [Nat.div_eq_of_lt (by omega)]; rfl
      rw [← h1, ← h2, a5]
    subst a6
    exact ⟨hm, by omega, by omega, j, by rw [e0, hR.hX]; omega, by rw [e0, hR.hY]; omega, by rw [hd]; omega⟩
  · rintro ⟨_, _, _, j, a1, a2, a3⟩
    rw [e0] at a1 a2
    obtain ⟨X, Y, hR⟩ := hm.rowAt (k := r) (by omega)
    rw [hR.hX] at a1
    rw [hR.hY] at a2
    refine ⟨r, j, hr, by rw [hR.hX]; omega, by rw [hR.hY]; omega, by have := hR.lt; omega, ?_⟩
    rw [a3]
    simp
/-- What the rounds of Open leave. -/
structure OpI (w2 W : World) (b : Nat) (m : Nat) (P : Nat → Prop) : Prop where
  row : RoV W b m (fun x => .bool (tb (P x)))
  chg : Chg (fun j => j = b) w2 W
theorem OpI.put {w2 W : World} {b m : Nat} {P Q : Nat → Prop} (h : OpI w2 W b m P) (x : Nat) (hx : x < m) (e : ∀ y, Q y ↔ (P y ∨ y = x)) : OpI w2 (W.setCell ⟨b, x, none⟩ (.bool true)) b m Q := by
  refine ⟨(h.row.put x (.bool true) hx).congr (fun i hi => ?_), h.chg.trans (Chg.of_set _ _ _ _ rfl)⟩
  by_cases c : i = x
  · simp only [c, if_true]
    rw [tb_yes ((e x).2 (.inr rfl))]
  · simp only [c, if_false]
    rw [tb_congr (show P i ↔ Q i from ⟨fun p => (e i).2 (.inl p), fun q => ((e i).1 q).resolve_right c⟩)]
theorem OpI.drew {w2 W : World} {b m : Nat} {P : Nat → Prop} (h : OpI w2 W b m P) : OpI w2 W.drew b m P := ⟨h.row.chg (S := fun _ => False) (Chg.of_drew _) (fun x => x), h.chg.trans (Chg.of_drew _)⟩
end Go.Proofs.Ytdcdgojcboinaaa

namespace Go.Proofs.Ytdcdgojcboinaaa
open Go.RowKit Go.Deep
set_option linter.unusedVariables false

/-- The rows of the places of the first k rows. -/
def plR (st : List Int) : Nat → List Int
  | 0 => []
  | k + 1 => plR st k ++ List.replicate ((st.getD (k + 1) 0).toNat - (st.getD k 0).toNat) (k : Int)
/-- Two lists that grow. -/
structure PlI (w1 W : World) (base : Nat) (v u : Value) (rs cs : List Int) : Prop where
  own1 : W.ownsRow base 3 1 v rs.length (valsI rs)
  own2 : W.ownsRow base 3 1 u cs.length (valsI cs)
  apart : ∀ g, v.ownBlock = some g → u.ownBlock ≠ some g
  bel : Below base w1 W
  le : base ≤ W.heap.size
theorem PlI.swap {w1 W : World} {base : Nat} {v u : Value} {rs cs : List Int} (h : PlI w1 W base v u rs cs) : PlI w1 W base u v cs rs := ⟨h.own2, h.own1, fun g hu hv => h.apart g hv hu, h.bel, h.le⟩
theorem PlI.app {w1 W W3 : World} {base : Nat} {v u : Value} {rs cs : List Int} {x : Int} {g cap : Nat} (h : PlI w1 W base v u rs cs) (o : Obj) (hown : W3.ownsRow base 3 1 (.slice (some ⟨g, 0, none⟩) (rs.length + 1) cap) (rs.length + 1) (valsI rs ++ [.int .i64 x])) (hg : (W.alloc o).grownBy W3 v.ownBlock) (hat : v.ownBlock = some g ∨ g = W.heap.size + 1) : PlI w1 W3 base (.slice (some ⟨g, 0, none⟩) (rs.length + 1) cap) u (rs ++ [x]) cs := by
  have hB : Below base W W3 := Below.grown ((Below.refl base W).alloc h.le o) hg (by simp; have := h.le; omega) (fun j hj => (own_ge h.own1 j hj).1)
  refine ⟨by simpa [valsI] using hown, (h.own2.alloc o).kept hg ?_, ?_, h.bel.trans hB, Nat.le_trans h.le hB.size⟩
  · cases hu : u.ownBlock with
    | none => exact .inl rfl
    | some j =>
      right
      intro e
      exact h.apart j e.symm hu
  · intro j hj hu
    have hj' : g = j := by simpa [Value.ownBlock] using hj
    subst hj'
    rcases hat with e | e
    · exact h.apart _ e hu
    · have := (own_ge h.own2 _ hu).2
      omega
theorem own_slI {w : World} {base n : Nat} {v : Value} {xs : List Int} (h : w.ownsRow base 3 1 v n (valsI xs)) : ∃ a c, v = .slice a n c ∧ SlI w a n c xs := by
  have hl : xs.length = n := by have := h.1; simpa [valsI] using this
  rcases h.2 with ⟨rfl, rfl⟩ | ⟨b, cap, cur, rfl, h4, h5, h6, h7, h8, h9⟩
  · have : xs = [] := List.eq_nil_of_length_eq_zero hl
    subst this
    exact ⟨none, 0, rfl, SlI.nil _⟩
  · refine ⟨_, _, rfl, ⟨hl, h6, h7, .inr ⟨b, 0, rfl, fun i hi => ?_⟩⟩⟩
    rw [Nat.zero_add, cell_of_block h5]
    have : (cur.toList.take (n * 1))[i]? = (valsI xs)[i]? := by rw [h9]
    rw [List.getElem?_take_of_lt (by omega)] at this
    rw [← Array.getElem?_toList, this]
    simp [valsI, List.getD, hi]
/-- What Places answers. -/
structure PlP (w w' : World) (e : Ending) (rs cs : List Int) : Prop where
  out : ∃ a1 c1 a2 c2, e = .returned (.tuple #[.slice a1 rs.length c1, .slice a2 cs.length c2, .int .i64 0]) ∧ SlI w' a1 rs.length c1 rs ∧ SlI w' a2 cs.length c2 cs
  bel : Below w.heap.size w w'
theorem PlI.res {w w1 W : World} {base : Nat} {v u : Value} {rs cs : List Int} (h : PlI w1 W base v u rs cs) (hb : Below w.heap.size w w1) (hB : w.heap.size ≤ base) : PlP w W (.returned (.tuple #[v, u, .int .i64 0])) rs cs := by
  obtain ⟨a1, c1, rfl, s1⟩ := own_slI h.own1
  obtain ⟨a2, c2, rfl, s2⟩ := own_slI h.own2
  exact ⟨⟨a1, c1, a2, c2, rfl, s1, s2⟩, hb.trans (h.bel.mono hB)⟩
theorem plR_row {st cols : List Int} {width : Int} {k X Y : Nat} (h : RowAt st cols width k X Y) : plR st (k + 1) = plR st k ++ List.replicate (Y - X) (k : Int) := by
  simp only [plR]
  rw [h.hX, h.hY]
  rfl
theorem rep_snoc (n : Nat) (x : Int) : List.replicate (n + 1) x = List.replicate n x ++ [x] := List.replicate_succ'
theorem take_snoc {cols : List Int} {i : Nat} {x : Int} (hi : i < cols.length) (hx : cols.getD i 0 = x) : cols.take (i + 1) = cols.take i ++ [x] := by
  rw [List.take_add_one]
  congr 1
  subst hx
  simp [hi, List.getD]
theorem plR_len {R : Nat} {width : Int} {st cols : List Int} (hm : MayP (R : Int) width st cols) : ∀ k, k ≤ R → ((plR st k).length : Int) = st.getD k 0
  | 0, _ => by rw [hm.head.first]; rfl
  | k + 1, hk => by
    obtain ⟨X, Y, h⟩ := hm.rowAt (k := k) (by omega)
    rw [plR_row h, List.length_append, List.length_replicate, h.hY]
    have := plR_len hm k (by omega)
    rw [h.hX] at this
    have := h.le
    omega
end Go.Proofs.Ytdcdgojcboinaaa
