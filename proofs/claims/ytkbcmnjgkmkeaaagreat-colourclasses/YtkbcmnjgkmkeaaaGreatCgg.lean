/-
  GRAPHS: sloperef12.lines: contract.
-/
import Derived.Test.YtkbcmnjgkmkeaaaGreatCgc
import Derived.Test.YtkbcmnjgkmkeaaaGreatRq0
namespace Go.Proofs.YtkbcmnjgkmkeaaaGreat
open Go.RowKit Go.Deep
set_option linter.unusedVariables false

/-- What is laid so far: rows below u whole, of row u the places below v, of this one those by things below k. -/
def LnQ (M : Nat → Nat → Nat → Prop) (n m u v k x : Nat) : Prop := ∃ a b j : Nat, a < n ∧ b < n ∧ j < m ∧ x = a * n + b ∧ a ≠ b ∧ M j a b ∧ (a < u ∨ a = u ∧ (b < v ∨ b = v ∧ j < k))
theorem idx_one {n a b u v : Nat} (hb : b < n) (hv : v < n) (h : a * n + b = u * n + v) : a = u ∧ b = v := by
  have h1 : (a * n + b) / n = a := by rw [Nat.mul_comm, Nat.mul_add_div (by omega), Nat.div_eq_of_lt hb]; rfl
  have h2 : (u * n + v) / n = u := by rw [Nat.mul_comm, Nat.mul_add_div (by omega), Nat.div_eq_of_lt hv]; rfl
  have h3 : a = u := by rw [← h1, ← h2, h]
  subst h3
  exact ⟨rfl, by omega⟩
theorem LnQ.yes {M : Nat → Nat → Nat → Prop} {n m u v k : Nat} (hu : u < n) (hv : v < n) (hk : k < m) (hne : u ≠ v) (hM : M k u v) (x : Nat) : LnQ M n m u v (k + 1) x ↔ (LnQ M n m u v k x ∨ x = u * n + v) := by
  constructor
  · rintro ⟨a, b, j, h1, h2, h3, h4, h5, h6, h7⟩
    rcases h7 with h7 | ⟨h7, h8 | ⟨h8, h9⟩⟩
    · exact .inl ⟨a, b, j, h1, h2, h3, h4, h5, h6, .inl h7⟩
    · exact .inl ⟨a, b, j, h1, h2, h3, h4, h5, h6, .inr ⟨h7, .inl h8⟩⟩
    · subst h7 h8
      exact .inr h4
  · rintro (⟨a, b, j, h1, h2, h3, h4, h5, h6, h7⟩ | h)
    · exact ⟨a, b, j, h1, h2, h3, h4, h5, h6, h7.imp_right (fun h => ⟨h.1, h.2.imp_right (fun h => ⟨h.1, by omega⟩)⟩)⟩
    · exact ⟨u, v, k, hu, hv, hk, h, hne, hM, .inr ⟨rfl, .inr ⟨rfl, by omega⟩⟩⟩
theorem LnQ.no {M : Nat → Nat → Nat → Prop} {n m u v k : Nat} (hM : ¬ M k u v) (x : Nat) : LnQ M n m u v (k + 1) x ↔ LnQ M n m u v k x := by
  constructor
  · rintro ⟨a, b, j, h1, h2, h3, h4, h5, h6, h7⟩
    refine ⟨a, b, j, h1, h2, h3, h4, h5, h6, h7.imp_right (fun h => ⟨h.1, h.2.imp_right (fun h8 => ⟨h8.1, ?_⟩)⟩)⟩
    by_cases e : j = k
    · obtain ⟨e1, _⟩ := h
      obtain ⟨e2, _⟩ := h8
      subst e e1 e2
      exact absurd h6 hM
    · omega
  · rintro ⟨a, b, j, h1, h2, h3, h4, h5, h6, h7⟩
    exact ⟨a, b, j, h1, h2, h3, h4, h5, h6, h7.imp_right (fun h => ⟨h.1, h.2.imp_right (fun h => ⟨h.1, by omega⟩)⟩)⟩
theorem LnQ.nextV {M : Nat → Nat → Nat → Prop} {n m u v k : Nat} (hk : k = m ∨ u = v) (x : Nat) : LnQ M n m u (v + 1) 0 x ↔ LnQ M n m u v k x := by
  constructor
  · rintro ⟨a, b, j, h1, h2, h3, h4, h5, h6, h7⟩
    refine ⟨a, b, j, h1, h2, h3, h4, h5, h6, h7.imp_right (fun h => ⟨h.1, ?_⟩)⟩
    omega
  · rintro ⟨a, b, j, h1, h2, h3, h4, h5, h6, h7⟩
    refine ⟨a, b, j, h1, h2, h3, h4, h5, h6, h7.imp_right (fun h => ⟨h.1, ?_⟩)⟩
    omega
theorem LnQ.nextU {M : Nat → Nat → Nat → Prop} {n m u : Nat} (x : Nat) : LnQ M n m (u + 1) 0 0 x ↔ LnQ M n m u n 0 x := by
  constructor
  · rintro ⟨a, b, j, h1, h2, h3, h4, h5, h6, h7⟩
    exact ⟨a, b, j, h1, h2, h3, h4, h5, h6, by omega⟩
  · rintro ⟨a, b, j, h1, h2, h3, h4, h5, h6, h7⟩
    exact ⟨a, b, j, h1, h2, h3, h4, h5, h6, by omega⟩
theorem LnQ.first {M : Nat → Nat → Nat → Prop} {n m : Nat} (x : Nat) : ¬ LnQ M n m 0 0 0 x := by
  rintro ⟨a, b, j, h1, h2, h3, h4, h5, h6, h7⟩
  omega
theorem LnQ.last {M : Nat → Nat → Nat → Prop} {n m u v : Nat} (hu : u < n) (hv : v < n) : LnQ M n m n 0 0 (u * n + v) ↔ (u ≠ v ∧ ∃ j, j < m ∧ M j u v) := by
  constructor
  · rintro ⟨a, b, j, h1, h2, h3, h4, h5, h6, h7⟩
    obtain ⟨rfl, rfl⟩ := idx_one hv h2 h4
    exact ⟨h5, j, h3, h6⟩
  · rintro ⟨h1, j, h2, h3⟩
    exact ⟨u, v, j, hu, hv, h2, rfl, h1, h3, .inl hu⟩
theorem OpI.below {w2 W W' : World} {b m : Nat} {P : Nat → Prop} (h : OpI w2 W b m P) (k : Below W.heap.size W W') : OpI w2 W' b m P := ⟨h.row.below k, h.chg.trans (Chg.of_below k)⟩
theorem OpI.congr {w2 W : World} {b m : Nat} {P Q : Nat → Prop} (h : OpI w2 W b m P) (e : ∀ x, P x ↔ Q x) : OpI w2 W b m Q := ⟨h.row.congr (fun x _ => by rw [tb_congr (e x)]), h.chg⟩
theorem vis_in {R width : Nat} {st cols : List Int} (hm : MayP (R : Int) (width : Int) st cols) {r c : Nat} (hr : r < R) (hc : c < width) : TruQ (tb (Vis R width st cols cols.length (r * width + c))) (InC st cols c r) :=
  tb_iff.trans ((Vis.has hm hr hc).trans (InC.of hm hr))
theorem idx_lt {r c R width : Nat} (hr : r < R) (hc : c < width) : r * width + c < R * width := by
  have h1 : (r + 1) * width ≤ R * width := Nat.mul_le_mul_right _ hr
  rw [Nat.add_mul] at h1
  omega
end Go.Proofs.YtkbcmnjgkmkeaaaGreat

namespace Go.Proofs.YtkbcmnjgkmkeaaaGreat
open Go.RowKit Go.Deep
set_option linter.unusedVariables false

end Go.Proofs.YtkbcmnjgkmkeaaaGreat

namespace Go.Proofs.YtkbcmnjgkmkeaaaGreat
open Go.RowKit Go.Deep
set_option linter.unusedVariables false

/-- Up to the place (u, v) nothing shows that it is no graph. -/
def GdP (st cols : List Int) (R u v : Nat) : Prop := ∀ a b, a < R → b < R → (a < u ∨ a = u ∧ b < v) → (InC st cols b a ↔ InC st cols a b) ∧ ¬ (a = b ∧ InC st cols b a)
theorem GdP.first (st cols : List Int) (R : Nat) : GdP st cols R 0 0 := fun a b _ _ h => by omega
theorem GdP.nextU {st cols : List Int} {R u : Nat} (h : GdP st cols R u R) : GdP st cols R (u + 1) 0 := fun a b ha hb hc => h a b ha hb (by omega)
theorem GdP.next {st cols : List Int} {R u v : Nat} (h : GdP st cols R u v) (h1 : InC st cols v u ↔ InC st cols u v) (h2 : ¬ (u = v ∧ InC st cols v u)) : GdP st cols R u (v + 1) := fun a b ha hb hc => by
  by_cases e : a = u ∧ b = v
  · obtain ⟨rfl, rfl⟩ := e
    exact ⟨h1, h2⟩
  · exact h a b ha hb (by omega)
theorem GdP.last {st cols : List Int} {R : Nat} (h : GdP st cols R R 0) : GraP st cols R R := by
  refine ⟨rfl, fun u v hu hv hi => ((h v u hv hu (.inl hv)).1).1 hi, ?_⟩
  rintro ⟨r, hr, hi⟩
  exact (h r r hr hr (.inl hr)).2 ⟨rfl, hi⟩
theorem GraP.no {st cols : List Int} {R u v : Nat} (hu : u < R) (hv : v < R) (h : ¬ (InC st cols v u ↔ InC st cols u v) ∨ (u = v ∧ InC st cols v u)) : ¬ GraP st cols R R := by
  rintro ⟨_, h1, h2⟩
  rcases h with h | ⟨h, hi⟩
  · exact h ⟨fun hi => h1 v u hv hu hi, fun hi => h1 u v hu hv hi⟩
  · subst h
    exact h2 ⟨u, hu, hi⟩
/-- What open has written so far. -/
def OpQ (R : Nat) (st cols : List Int) (u v x : Nat) : Prop := x < u * R + v ∧ Vis R R st cols cols.length x
theorem OpQ.next {R : Nat} {st cols : List Int} {u v x : Nat} : OpQ R st cols u (v + 1) x ↔ (x = u * R + v ∧ Vis R R st cols cols.length x) ∨ (x ≠ u * R + v ∧ OpQ R st cols u v x) := by
  unfold OpQ
  constructor
  · rintro ⟨h1, h2⟩
    by_cases e : x = u * R + v
    · exact .inl ⟨e, h2⟩
    · exact .inr ⟨e, by omega, h2⟩
  · rintro (⟨h1, h2⟩ | ⟨_, h1, h2⟩)
    · exact ⟨by omega, h2⟩
    · exact ⟨by omega, h2⟩
theorem OpQ.nextU {R : Nat} {st cols : List Int} {u x : Nat} : OpQ R st cols (u + 1) 0 x ↔ OpQ R st cols u R x := by
  unfold OpQ
  rw [Nat.add_mul, Nat.one_mul]
  rfl
theorem OpI.set {w2 W : World} {b m : Nat} {P Q : Nat → Prop} {t : Bool} (h : OpI w2 W b m P) (x : Nat) (hx : x < m) (hxx : TruQ t (Q x)) (e : ∀ y, y ≠ x → (Q y ↔ P y)) : OpI w2 (W.setCell ⟨b, x, none⟩ (.bool t)) b m Q := by
  refine ⟨(h.row.put x (.bool t) hx).congr (fun i hi => ?_), h.chg.trans (Chg.of_set _ _ _ _ rfl)⟩
  by_cases c : i = x
  · simp only [c, if_true]
    cases t
    · rw [tb_no (fun q => absurd (Iff.mpr hxx q) (by decide))]
    · rw [tb_yes (Iff.mp hxx rfl)]
  · simp only [c, if_false]
    rw [tb_congr (e i c)]
theorem wrap_i64g (x : Int) : IntKind.i64.wrap x = (x + 9223372036854775808) % 18446744073709551616 - 9223372036854775808 := by
  simp [IntKind.wrap, IntKind.bits, IntKind.signed]
  split <;> omega
/-- A graph's box and its truths, just made. -/
structure GbI (s : Nat) (wg ws : World) (G X n nn : Nat) : Prop where
  row : RoV ws G nn (fun _ => .bool false)
  box : BoxP ws X [.int .i64 (n : Int), .slice (some ⟨G, 0, none⟩) nn nn]
  ne : X ≠ G
  g0 : s ≤ G
  x0 : s ≤ X
  gl : G < ws.heap.size
  bel : Below s wg ws
/-- What open answers. -/
def OgP (w w' : World) (e : Ending) (R m : Nat) (ok : Bool) (f : Nat → Bool) : Prop := Below w.heap.size w w' ∧ (ok = true → ∃ b, w.heap.size ≤ b ∧ e = .returned (.tuple #[grV R b m, .bool true]) ∧ RoV w' b m (fun x => .bool (f x))) ∧ (ok = false → e = .returned (.tuple #[.agg #[.int .i64 0, .slice none 0 0], .bool false]))
end Go.Proofs.YtkbcmnjgkmkeaaaGreat
