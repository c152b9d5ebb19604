/-
  slopeplain.Given.Pattern: contract.
-/
import Derived.Test.YtppdpdkldokacaaSa3
import Derived.Test.YtppdpdkldokacaaSi3
import Derived.Deep.RegionHeld3
import Derived.Test.YtppdpdkldokacaaSa4
namespace Go.Proofs.Ytppdpdkldokacaa
open Go.RowKit Go.Deep
set_option linter.unusedVariables false

/-- A box of cells that may be written. -/
structure BoxP (w : World) (X : Nat) (vs : List Value) : Prop where
  all : ∀ q u, vs[q]? = some u → w.cell? ⟨X, q, none⟩ = some u ∧ w.frozen? ⟨X, q, none⟩ = false
  lt : X < w.heap.size
theorem Chg.frzP {S : Nat → Prop} {w w' : World} (h : Chg S w w') {b i : Nat} (hb : b < w.heap.size) (hs : ¬ S b) : w'.frozen? ⟨b, i, none⟩ = w.frozen? ⟨b, i, none⟩ := by
  unfold World.frozen?
  rw [h.block b hb hs]
theorem BoxP.chg {S : Nat → Prop} {w w' : World} {X : Nat} {vs : List Value} (h : BoxP w X vs) (k : Chg S w w') (hs : ¬ S X) : BoxP w' X vs :=
  ⟨fun q u hq => ⟨k.cell hs (h.all q u hq).1, by rw [k.frzP h.lt hs]; exact (h.all q u hq).2⟩, Nat.lt_of_lt_of_le h.lt k.size⟩
theorem BoxP.below {w w' : World} {X : Nat} {vs : List Value} (h : BoxP w X vs) (k : Below w.heap.size w w') : BoxP w' X vs := h.chg (S := fun _ => False) (Chg.of_below k) (fun x => x)
theorem BoxP.put {w : World} {X : Nat} {vs : List Value} (h : BoxP w X vs) (q : Nat) (u : Value) : BoxP (w.setCell ⟨X, q, none⟩ u) X (vs.set q u) := by
  refine ⟨fun p x hp => ?_, by simpa using h.lt⟩
  rw [World.frozen?_setCell]
  rw [List.getElem?_set] at hp
  by_cases e : q = p
  · subst e
    rw [if_pos rfl] at hp
    split at hp
    · rename_i hl
      obtain ⟨y, hy⟩ : ∃ y, vs[q]? = some y := ⟨_, List.getElem?_eq_getElem hl⟩
      have h1 := h.all q y hy
      obtain rfl := Option.some.inj hp
      exact ⟨World.cell?_setCell_same _ _ _ h1.1, h1.2⟩
    · cases hp
  · rw [if_neg e] at hp
    have h1 := h.all p x hp
    exact ⟨by rw [World.cell?_setCell_other _ _ _ _ (by intro c; simp at c; try omega)]; exact h1.1, h1.2⟩
theorem BoxP.other {w : World} {X : Nat} {vs : List Value} (h : BoxP w X vs) {Y : Nat} (q : Nat) (u : Value) (hn : X ≠ Y) : BoxP (w.setCell ⟨Y, q, none⟩ u) X vs :=
  h.chg (S := fun j => j = Y) (Chg.of_set _ _ _ _ rfl) hn
theorem BoxP.made (w : World) (vs : Array Value) (e : TypeId) : BoxP (w.alloc (.cells vs e)) w.heap.size vs.toList := by
  refine ⟨fun q u hq => ?_, by simp⟩
  have hq' : vs[q]? = some u := by simpa using hq
  exact ⟨by simp [hq'], by simp⟩
theorem GivI.own_lt {w : World} {B : Nat} {v0 v1 : Value} {es : List EntI} {rs : Nat → Value} (h : GivI w B v0 v1 es rs) {k : Nat} (hk : Own B v0 v1 k) : k < w.heap.size := by
  rcases hk with rfl | hk | hk
  · exact h.cell0.2.2.2.2
  · exact (Go.Proofs.Ytppdpdkldokacaa.own_ge h.own0 k hk).2
  · exact (Go.Proofs.Ytppdpdkldokacaa.own_ge h.own1 k hk).2
theorem GivI.own_ge {w : World} {B : Nat} {v0 v1 : Value} {es : List EntI} {rs : Nat → Value} (h : GivI w B v0 v1 es rs) {k : Nat} (hk : Own B v0 v1 k) : B ≤ k := by
  rcases hk with rfl | hk | hk
  · exact Nat.le_refl _
  · have := (Go.Proofs.Ytppdpdkldokacaa.own_ge h.own0 k hk).1; omega
  · have := (Go.Proofs.Ytppdpdkldokacaa.own_ge h.own1 k hk).1; omega
theorem EntOkI.ne {w : World} {B : Nat} {v0 v1 : Value} {e : EntI} (h : EntOkI w B v0 v1 e) {R : Nat} {a : Option Addr} {n c : Nat} (hR : w.cell? ⟨R, 2, none⟩ = some (.slice a n c)) : ¬ e.b = R ∧ ¬ e.b0 = R := by
  have k : ∀ {b c' : Nat}, SlI w (some ⟨b, 0, none⟩) (e.xs.length + 3) c' (e.xs ++ marksI) → ¬ b = R := by
    intro b c' hs hb
    obtain ⟨b2, o2, e2, hc⟩ := hs.at (by omega)
    injection e2 with e3
    injection e3 with e4 e5 e6
    subst e4 e5 hb
    have := hc 2 (by omega)
    rw [Nat.zero_add, hR] at this
    cases this
  exact ⟨k h.sl, k h.sl0⟩
/-- A variable of one's own is written. -/
theorem GivI.setR {w w' : World} {B : Nat} {v0 v1 : Value} {es : List EntI} {rs : Nat → Value} (h : GivI w B v0 v1 es rs) {R : Nat} {a : Option Addr} {n c : Nat} (hR : w.cell? ⟨R, 2, none⟩ = some (.slice a n c)) (hc : Chg (fun j => j = R) w w') (hO : ¬ Own B v0 v1 R) : GivI w' B v0 v1 es rs :=
  h.chg hc (fun e => hO (by rw [← e]; exact .inl rfl)) (fun k hk e => hO (by rw [← e]; exact .inr (.inl hk))) (fun k hk e => hO (by rw [← e]; exact .inr (.inr hk))) (fun e he => (h.ents e he).ne hR)
/-- What Given.Pattern leaves. -/
structure GpPost (w w' : World) (B : Nat) (v0 v1 v0' v1' : Value) (es : List EntI) (rs : Nat → Value) (x y : List Int) (E1 E2 : EntI) : Prop where
  x1 : E1.xs = x
  x2 : E2.xs = y
  n1 : w.heap.size ≤ E1.b ∧ w.heap.size ≤ E1.b0
  n2 : w.heap.size ≤ E2.b ∧ w.heap.size ≤ E2.b0
  giv : GivI w' B v0' v1' (es ++ [E1] ++ [E2]) rs
  chg : Chg (Own B v0 v1) w w'
  safe : ∀ k, k < w.heap.size → ¬ Own B v0 v1 k → ¬ Own B v0' v1' k
end Go.Proofs.Ytppdpdkldokacaa

namespace Go.Proofs.Ytppdpdkldokacaa
open Go.RowKit Go.Deep
set_option linter.unusedVariables false

theorem SlI.front {w : World} {a : Option Addr} {c : Nat} {xs ys : List Int} (h : SlI w a (xs.length + 3) c (xs ++ ys)) {n : Nat} {x : List Int} (hx : xs = x) (hn : x.length = n) : SlI w a n c x := by
  subst hx
  refine ⟨hn, by have := h.le; omega, h.cap, ?_⟩
  rcases h.cells with e | ⟨b, off, e, k⟩
  · left
    exact (List.append_eq_nil_iff.1 e).1
  · right
    refine ⟨b, off, e, fun i hi => ?_⟩
    have := k i (by simp; omega)
    rw [this]
    congr 2
    simp [List.getD, List.getElem?_append_left hi]
/-- The truth of a sentence. -/
def TruQ (b : Bool) (P : Prop) : Prop := b = true ↔ P
theorem BIs.known {P : Prop} {w w' : World} {e : Ending} {b : Bool} (hb : TruQ b P) (h : BIs P w w' e) : e = .returned (.bool b) ∧ Below w.heap.size w w' := by
  obtain ⟨⟨b', rfl, hb'⟩, k⟩ := h
  have : b' = b := by
    have := hb'.trans (Iff.symm hb)
    cases b <;> cases b' <;> simp_all
  rw [this]
  exact ⟨rfl, k⟩
theorem GivI.sli {w : World} {B : Nat} {v0 v1 : Value} {is : List EntI} {rs : Nat → Value} (h : GivI w B v0 v1 is rs) {E : EntI} (hE : E ∈ is) {x : List Int} {n : Nat} (hx : E.xs = x) (hn : x.length = n) : SlI w (some ⟨E.b, 0, none⟩) n E.c x := (h.ents E hE).sl.front hx hn
theorem TruQ.con {b : Bool} {P R : Prop} (h : TruQ b P) (e : R ↔ P) : TruQ b R := Iff.trans h e.symm
end Go.Proofs.Ytppdpdkldokacaa

namespace Go.Proofs.Ytppdpdkldokacaa
open Go.RowKit Go.Deep
set_option linter.unusedVariables false

/-- A row of cells that may be written. -/
def RoV (w : World) (b n : Nat) (f : Nat → Value) : Prop := ∀ i, i < n → w.cell? ⟨b, i, none⟩ = some (f i) ∧ w.frozen? ⟨b, i, none⟩ = false
theorem RoV.made (w : World) (n : Nat) (e : TypeId) (z : Value) : RoV (w.alloc (.cells (madeCells #[z] n) e)) w.heap.size n (fun _ => z) := by
  intro i hi
  refine ⟨?_, by simp⟩
  simp [madeCells, hi, Nat.mod_one]
theorem RoV.chg {S : Nat → Prop} {w w' : World} {b n : Nat} {f : Nat → Value} (h : RoV w b n f) (k : Chg S w w') (hs : ¬ S b) : RoV w' b n f := fun i hi => ⟨k.cell hs (h i hi).1, by rw [k.frzP (World.block_lt_of_cell? _ _ (h i hi).1) hs]; exact (h i hi).2⟩
theorem RoV.below {w w' : World} {b n : Nat} {f : Nat → Value} (h : RoV w b n f) (k : Below w.heap.size w w') : RoV w' b n f := h.chg (S := fun _ => False) (Chg.of_below k) (fun x => x)
theorem RoV.put {w : World} {b n : Nat} {f : Nat → Value} (h : RoV w b n f) (k : Nat) (v : Value) (hk : k < n) : RoV (w.setCell ⟨b, k, none⟩ v) b n (fun i => if i = k then v else f i) := by
  intro i hi
  rw [World.frozen?_setCell]
  refine ⟨?_, (h i hi).2⟩
  by_cases e : i = k
  · subst e
    simp only [if_true]
    exact World.cell?_setCell_same _ _ _ (h i hi).1
  · simp only [e, if_false]
    rw [World.cell?_setCell_other _ _ _ _ (by intro c; simp at c; first | done | omega)]
    exact (h i hi).1
theorem RoV.congr {w : World} {b n : Nat} {f g : Nat → Value} (h : RoV w b n f) (e : ∀ i, i < n → f i = g i) : RoV w b n g := fun i hi => by rw [← e i hi]; exact h i hi
/-- The truth of a sentence, as a bool. -/
noncomputable def tb (P : Prop) : Bool := @decide P (Classical.propDecidable P)
theorem tb_iff {P : Prop} : tb P = true ↔ P := by unfold tb; exact @decide_eq_true_iff P (Classical.propDecidable P)
theorem tb_yes {P : Prop} (h : P) : tb P = true := tb_iff.2 h
theorem tb_no {P : Prop} (h : ¬ P) : tb P = false := by cases hk : tb P; rfl; exact absurd (tb_iff.1 hk) h
theorem tb_congr {P Q : Prop} (h : P ↔ Q) : tb P = tb Q := by by_cases p : P; rw [tb_yes p, tb_yes (h.1 p)]; rw [tb_no p, tb_no (fun q => p (h.2 q))]
theorem Try.info_boolP : (Try.prog.info? 4).map (fun i => (i.zero, i.size, i.bytes)) = some (some (.bool false), 1, 1) := by kernel_rfl
theorem make_boolsP (n : Nat) (hn : n ≤ 35184372088000) (w : World) : (Instr.makeSlice 67 (.int .i64 (n : Int)) (.int .i64 (n : Int))).run Try.prog w = .ok (.slice (some ⟨w.heap.size, 0, none⟩) n n) (w.alloc (.cells (madeCells #[.bool false] n) 4)) :=
  run_make_row' (P := Try.prog) 67 4 (.bool false) 1 Try.underlying67 Try.info_boolP rfl .i64 .i64 n (by omega) (by omega) w
/-- A grid as it is handed over. -/
def gridV (rows width : Nat) (b n : Nat) : Value := .agg #[.int .i64 (rows : Int), .int .i64 (width : Int), .slice (some ⟨b, 0, none⟩) n n]
end Go.Proofs.Ytppdpdkldokacaa
