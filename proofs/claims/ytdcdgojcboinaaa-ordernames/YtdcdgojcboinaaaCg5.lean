/-
  GRAPHS: the pattern of a relation, plain; a pattern that is being made in a variable.
-/
import Derived.Test.YtdcdgojcboinaaaSp5
import Derived.Test.YtdcdgojcboinaaaRq2
namespace Go.Proofs.Ytdcdgojcboinaaa
open Go.RowKit Go.Deep
set_option linter.unusedVariables false

/-- The things below k that u goes with. -/
noncomputable def grR (P : Nat → Nat → Prop) (u : Nat) : Nat → List Int
  | 0 => []
  | k + 1 => grR P u k ++ (if tb (P u k) = true then [(k : Int)] else [])
/-- All columns of the first k rows. -/
noncomputable def grC (P : Nat → Nat → Prop) (n : Nat) : Nat → List Int
  | 0 => []
  | k + 1 => grC P n k ++ grR P k n
/-- Where the first rows begin. -/
noncomputable def grS (P : Nat → Nat → Prop) (n : Nat) : Nat → List Int
  | 0 => [0]
  | k + 1 => grS P n k ++ [((grC P n (k + 1)).length : Int)]
theorem grR_len (P : Nat → Nat → Prop) (u : Nat) : ∀ k, (grR P u k).length ≤ k
  | 0 => Nat.le_refl _
  | k + 1 => by
    have := grR_len P u k
    simp only [grR, List.length_append]
    split <;> simp <;> omega
theorem grC_len (P : Nat → Nat → Prop) (n : Nat) : ∀ k, (grC P n k).length ≤ k * n
  | 0 => Nat.zero_le _
  | k + 1 => by
    have h1 := grC_len P n k
    have h2 := grR_len P k n
    simp only [grC, List.length_append]
    rw [Nat.add_mul, Nat.one_mul]
    omega
theorem grS_len (P : Nat → Nat → Prop) (n : Nat) : ∀ k, (grS P n k).length = k + 1
  | 0 => rfl
  | k + 1 => by simp only [grS, List.length_append, List.length_singleton]; rw [grS_len P n k]
theorem grR_congr {P Q : Nat → Nat → Prop} {u n : Nat} (h : ∀ v, v < n → (P u v ↔ Q u v)) : ∀ k, k ≤ n → grR P u k = grR Q u k
  | 0, _ => rfl
  | k + 1, hk => by simp only [grR]; rw [grR_congr h k (by omega), tb_congr (h k (by omega))]
theorem grC_congr {P Q : Nat → Nat → Prop} {n : Nat} (h : ∀ u v, u < n → v < n → (P u v ↔ Q u v)) : ∀ k, k ≤ n → grC P n k = grC Q n k
  | 0, _ => rfl
  | k + 1, hk => by simp only [grC]; rw [grC_congr h k (by omega), grR_congr (fun v hv => h k v (by omega) hv) n (Nat.le_refl _)]
theorem grS_congr {P Q : Nat → Nat → Prop} {n : Nat} (h : ∀ u v, u < n → v < n → (P u v ↔ Q u v)) : ∀ k, k ≤ n → grS P n k = grS Q n k
  | 0, _ => rfl
  | k + 1, hk => by simp only [grS]; rw [grS_congr h k (by omega), grC_congr h (k + 1) hk]
/-- A pattern that is being made in the box X; its lists are its own. -/
structure PbI (w1 W : World) (B X : Nat) (n : Int) (vS vC : Value) (S C : List Int) : Prop where
  box : W.heap[X]? = some (.cells #[.int .i64 n, .int .i64 n, vS, vC] 24 (0, 0))
  ownS : W.ownsRow B 3 1 vS S.length (valsI S)
  ownC : W.ownsRow B 3 1 vC C.length (valsI C)
  apart : ∀ g, vS.ownBlock = some g → vC.ownBlock ≠ some g
  bel : Below B w1 W
  le : B ≤ W.heap.size
  lx : B ≤ X
theorem own_neB {w : World} {B : Nat} {e : TypeId} {v : Value} {n : Nat} {xs : List Value} (h : w.ownsRow B e 1 v n xs) {k : Nat} {cs : Array Value} {e2 : TypeId} (hk : w.heap[k]? = some (.cells cs e2 (0, 0))) (hne : e ≠ e2) : v.ownBlock ≠ some k := by
  intro he
  rcases h.2 with ⟨h1, _⟩ | ⟨g, cap, cur, h1, h2, h3, _⟩
  · rw [h1] at he; simp [Value.ownBlock] at he
  · rw [h1] at he
    have : g = k := by simpa [Value.ownBlock] using he
    subst this
    rw [h3] at hk
    cases hk
    exact hne rfl
theorem PbI.below {w1 W Wn : World} {B X : Nat} {n : Int} {vS vC : Value} {S C : List Int} (h : PbI w1 W B X n vS vC S C) (k : Below W.heap.size W Wn) : PbI w1 Wn B X n vS vC S C :=
  ⟨(k.block _ (Array.getElem?_eq_some_iff.1 h.box).1).trans h.box, ownsRow_chg (S := fun _ => False) h.ownS (.of_below k) (fun _ _ => id), ownsRow_chg (S := fun _ => False) h.ownC (.of_below k) (fun _ _ => id), h.apart, h.bel.trans (k.mono h.le), Nat.le_trans h.le k.size, h.lx⟩
/-- A number is put to the columns, and the list is stored. -/
theorem PbI.appC {w1 W W3 : World} {B X : Nat} {n : Int} {vS vC : Value} {S C : List Int} {x : Int} {g cap : Nat} (h : PbI w1 W B X n vS vC S C) (hown : W3.ownsRow B 3 1 (.slice (some ⟨g, 0, none⟩) (C.length + 1) cap) (C.length + 1) (valsI C ++ [.int .i64 x])) (hg : W.grownBy W3 vC.ownBlock) (hat : vC.ownBlock = some g ∨ g = W.heap.size) :
    PbI w1 (W3.setCell ⟨X, 3, none⟩ (.slice (some ⟨g, 0, none⟩) (C.length + 1) cap)) B X n vS (.slice (some ⟨g, 0, none⟩) (C.length + 1) cap) S (C ++ [x]) := by
  have hX := (Array.getElem?_eq_some_iff.1 h.box).1
  have nC := own_neB h.ownC h.box (by decide)
  have nS := own_neB h.ownS h.box (by decide)
  have hb3 : W3.heap[X]? = some (.cells #[.int .i64 n, .int .i64 n, vS, vC] 24 (0, 0)) := (hg.block X hX (fun e => nC e.symm)).trans h.box
  have hB : Below B W W3 := (Below.refl B W).grown hg h.le (fun j hj => (own_ge h.ownC j hj).1)
  have hc : Chg (fun j => j = X) W3 (W3.setCell ⟨X, 3, none⟩ (.slice (some ⟨g, 0, none⟩) (C.length + 1) cap)) := Chg.of_set _ _ _ _ rfl
  have hgX : g ≠ X := by
    intro e
    rcases hown.2 with ⟨h1, _⟩ | ⟨g', cap', cur, h1, h2, h3, _⟩
    · cases h1
    · cases h1
      rw [e, hb3] at h3
      cases h3
  refine ⟨by simp [World.setCell, Array.getElem?_modify, hb3], ownsRow_chg (h.ownS.kept hg ?_) hc (fun j hj e => nS (by rw [← e]; exact hj)), ownsRow_chg (by simpa [valsI] using hown) hc (fun j hj e => ?_), fun j hj hu => ?_, h.bel.trans (hB.trans (hc.below (Nat.le_trans h.le hB.size) (fun j hj e => by have := h.lx; omega))), Nat.le_trans h.le (Nat.le_trans hB.size hc.size), h.lx⟩
  · cases hv : vS.ownBlock with
    | none => exact .inl rfl
    | some j => right; intro e; exact h.apart j hv e.symm
  · have : g = j := by simpa [Value.ownBlock] using hj
    exact hgX (this.trans e)
  · have hu' : g = j := by simpa [Value.ownBlock] using hu
    subst hu'
    rcases hat with e | e
    · exact h.apart _ hj e
    · have := (own_ge h.ownS _ hj).2; omega
/-- A number is put to the beginnings, and the list is stored. -/
theorem PbI.appS {w1 W W3 : World} {B X : Nat} {n : Int} {vS vC : Value} {S C : List Int} {x : Int} {g cap : Nat} (h : PbI w1 W B X n vS vC S C) (hown : W3.ownsRow B 3 1 (.slice (some ⟨g, 0, none⟩) (S.length + 1) cap) (S.length + 1) (valsI S ++ [.int .i64 x])) (hg : W.grownBy W3 vS.ownBlock) (hat : vS.ownBlock = some g ∨ g = W.heap.size) :
    PbI w1 (W3.setCell ⟨X, 2, none⟩ (.slice (some ⟨g, 0, none⟩) (S.length + 1) cap)) B X n (.slice (some ⟨g, 0, none⟩) (S.length + 1) cap) vC (S ++ [x]) C := by
  have hX := (Array.getElem?_eq_some_iff.1 h.box).1
  have nC := own_neB h.ownC h.box (by decide)
  have nS := own_neB h.ownS h.box (by decide)
  have hb3 : W3.heap[X]? = some (.cells #[.int .i64 n, .int .i64 n, vS, vC] 24 (0, 0)) := (hg.block X hX (fun e => nS e.symm)).trans h.box
  have hB : Below B W W3 := (Below.refl B W).grown hg h.le (fun j hj => (own_ge h.ownS j hj).1)
  have hc : Chg (fun j => j = X) W3 (W3.setCell ⟨X, 2, none⟩ (.slice (some ⟨g, 0, none⟩) (S.length + 1) cap)) := Chg.of_set _ _ _ _ rfl
  have hgX : g ≠ X := by
    intro e
    rcases hown.2 with ⟨h1, _⟩ | ⟨g', cap', cur, h1, h2, h3, _⟩
    · cases h1
    · cases h1
      rw [e, hb3] at h3
      cases h3
  refine ⟨by simp [World.setCell, Array.getElem?_modify, hb3], ownsRow_chg (by simpa [valsI] using hown) hc (fun j hj e => ?_), ownsRow_chg (h.ownC.kept hg ?_) hc (fun j hj e => nC (by rw [← e]; exact hj)), fun j hj hu => ?_, h.bel.trans (hB.trans (hc.below (Nat.le_trans h.le hB.size) (fun j hj e => by have := h.lx; omega))), Nat.le_trans h.le (Nat.le_trans hB.size hc.size), h.lx⟩
  · have : g = j := by simpa [Value.ownBlock] using hj
    exact hgX (this.trans e)
  · cases hv : vC.ownBlock with
    | none => exact .inl rfl
    | some j => right; intro e; exact h.apart j e.symm hv
  · have hj' : g = j := by simpa [Value.ownBlock] using hj
    subst hj'
    rcases hat with e | e
    · exact h.apart _ e hu
    · have := (own_ge h.ownC _ hu).2; omega
end Go.Proofs.Ytdcdgojcboinaaa

namespace Go.Proofs.Ytdcdgojcboinaaa
open Go.RowKit Go.Deep
set_option linter.unusedVariables false

/-- A graph as it is handed over. -/
def grV (n : Nat) (b m : Nat) : Value := .agg #[.int .i64 (n : Int), .slice (some ⟨b, 0, none⟩) m m]
/-- What shut and its like answer. -/
def GpP (w w' : World) (e : Ending) (n : Nat) (S C : List Int) : Prop := ∃ a1 c1 a2 c2, e = .returned (.agg #[.int .i64 (n : Int), .int .i64 (n : Int), .slice a1 S.length c1, .slice a2 C.length c2]) ∧ SlI w' a1 S.length c1 S ∧ SlI w' a2 C.length c2 C ∧ Below w.heap.size w w' ∧ (∀ z, a1 = some z → w.heap.size ≤ z.block) ∧ (∀ z, a2 = some z → w.heap.size ≤ z.block)
end Go.Proofs.Ytdcdgojcboinaaa

namespace Go.Proofs.Ytdcdgojcboinaaa
open Go.RowKit Go.Deep
set_option linter.unusedVariables false

end Go.Proofs.Ytdcdgojcboinaaa

namespace Go.Proofs.Ytdcdgojcboinaaa
open Go.RowKit Go.Deep
set_option linter.unusedVariables false

/-- The pairs of a list's things, the first i whole, of the next one the first j. -/
def MeP (xs : List Int) (i j : Nat) (x : Nat) : Prop := ∃ p q : Nat, (p < i ∧ q < xs.length ∨ p = i ∧ q < j) ∧ xs.getD p 0 * 128 + xs.getD q 0 = (x : Int)
theorem MeP.step {xs : List Int} {i j : Nat} {c : Nat} (hj : j < xs.length) (hc : xs.getD i 0 * 128 + xs.getD j 0 = (c : Int)) (x : Nat) : MeP xs i (j + 1) x ↔ (MeP xs i j x ∨ x = c) := by
  constructor
  · rintro ⟨p, q, h, e⟩
    rcases h with h | ⟨h1, h2⟩
    · exact .inl ⟨p, q, .inl h, e⟩
    · by_cases e2 : q = j
      · subst h1 e2
        right
        omega
      · exact .inl ⟨p, q, .inr ⟨h1, by omega⟩, e⟩
  · rintro (⟨p, q, h, e⟩ | e)
    · rcases h with h | ⟨h1, h2⟩
      · exact ⟨p, q, .inl h, e⟩
      · exact ⟨p, q, .inr ⟨h1, by omega⟩, e⟩
    · exact ⟨i, j, .inr ⟨rfl, by omega⟩, by rw [e]; exact hc⟩
theorem MeP.next {xs : List Int} {i x : Nat} : MeP xs (i + 1) 0 x ↔ MeP xs i xs.length x := by
  constructor
  · rintro ⟨p, q, h, e⟩
    rcases h with ⟨h1, h2⟩ | ⟨h1, h2⟩
    · by_cases e2 : p = i
      · exact ⟨p, q, .inr ⟨e2, h2⟩, e⟩
      · exact ⟨p, q, .inl ⟨by omega, h2⟩, e⟩
    · omega
  · rintro ⟨p, q, h, e⟩
    rcases h with ⟨h1, h2⟩ | ⟨h1, h2⟩
    · exact ⟨p, q, .inl ⟨by omega, h2⟩, e⟩
    · exact ⟨p, q, .inl ⟨by omega, h2⟩, e⟩
/-- The truths of pairs, as they lie. -/
structure PrS (w W : World) (b : Nat) (P : Nat → Prop) : Prop where
  row : RoV W b 16384 (fun x => .bool (tb (P x)))
  chg : Chg (fun j => j = b) w W
theorem PrS.put {w W : World} {b : Nat} {P R : Nat → Prop} (h : PrS w W b P) (x : Nat) (hx : x < 16384) (e : ∀ y, R y ↔ (P y ∨ y = x)) : PrS w (W.setCell ⟨b, x, none⟩ (.bool true)) b R := by
  refine ⟨(h.row.put x (.bool true) hx).congr (fun i hi => ?_), h.chg.trans (Chg.of_set _ _ _ _ rfl)⟩
  by_cases c : i = x
  · simp only [c, if_true]
    rw [tb_yes ((e x).2 (.inr rfl))]
  · simp only [c, if_false]
    rw [tb_congr (show P i ↔ R i from ⟨fun p => (e i).2 (.inl p), fun q => ((e i).1 q).resolve_right c⟩)]
theorem PrS.congr {w W : World} {b : Nat} {P R : Nat → Prop} (h : PrS w W b P) (e : ∀ x, P x ↔ R x) : PrS w W b R := ⟨h.row.congr (fun i hi => by rw [tb_congr (e i)]), h.chg⟩
theorem PrS.drew {w W : World} {b : Nat} {P : Nat → Prop} (h : PrS w W b P) : PrS w W.drew b P := ⟨h.row.chg (S := fun _ => False) (Chg.of_drew _) (fun x => x), h.chg.trans (Chg.of_drew _)⟩
end Go.Proofs.Ytdcdgojcboinaaa

namespace Go.Proofs.Ytdcdgojcboinaaa
open Go.RowKit Go.Deep
set_option linter.unusedVariables false

/-- A part of a list, as a value. -/
def subV (a : Option Addr) (c X Y : Nat) : Value := .slice (if c = X then a else Option.map (fun x => x.add X) a) (Y - X) (c - X)
end Go.Proofs.Ytdcdgojcboinaaa

namespace Go.Proofs.Ytdcdgojcboinaaa
open Go.RowKit Go.Deep
set_option linter.unusedVariables false

theorem Try.info_listI : (Try.prog.info? 22).map (fun i => (i.zero, i.size, i.bytes)) = some (some (.slice none 0 0), 1, 24) := by kernel_rfl
theorem make_listsI (n : Nat) (hn : n ≤ 1000000000) (w : World) : (Instr.makeSlice 87 (.int .i64 (n : Int)) (.int .i64 (n : Int))).run Try.prog w = .ok (.slice (some ⟨w.heap.size, 0, none⟩) n n) (w.alloc (.cells (madeCells #[.slice none 0 0] n) 22)) :=
  run_make_row' (P := Try.prog) 87 22 (.slice none 0 0) 24 Try.underlying87 Try.info_listI rfl .i64 .i64 n (by omega) (by omega) w
/-- A row of a pattern, as a value. -/
def rowV (st : List Int) (a2 : Option Addr) (c2 : Nat) (i : Nat) : Value := subV a2 c2 (st.getD i 0).toNat (st.getD (i + 1) 0).toNat
end Go.Proofs.Ytdcdgojcboinaaa
