/-
  ORDERS: the document's backs are the program's, plain.
-/
import Derived.Test.YtpmafjofkmefeaaCq7
import Derived.Test.YtpmafjofkmefeaaCh2
import Derived.Test.YtpmafjofkmefeaaRq0
import Derived.Lib.MinMax
import Derived.Test.YtpmafjofkmefeaaCo1
import Derived.Test.YtpmafjofkmefeaaSi3
namespace Go.Proofs.Ytpmafjofkmefeaa
open Go.RowKit Go.Deep
set_option linter.unusedVariables false

theorem inF_iff (xs : List Int) (u : Nat) : ∀ i, inF xs i u = true ↔ ∃ j, j < i ∧ thg xs j = u
  | 0 => by simp [inF]
  | i + 1 => by
    simp only [inF]
    by_cases e : u = thg xs i
    · rw [if_pos e]
      exact ⟨fun _ => ⟨i, by omega, e.symm⟩, fun _ => rfl⟩
    · rw [if_neg e, inF_iff xs u i]
      exact ⟨fun ⟨j, h1, h2⟩ => ⟨j, by omega, h2⟩, fun ⟨j, h1, h2⟩ => ⟨j, by
        have : j ≠ i := fun x => e (by rw [← h2, x])
        omega, h2⟩⟩
theorem thg_inj {xs : List Int} {R i j : Nat} (h : OrdTo xs R R) (hi : i < R) (hj : j < R) (e : thg xs i = thg xs j) : i = j := by
  unfold thg at e
  have h1 := h.rng i hi
  have h2 := h.rng j hj
  rcases Nat.lt_trichotomy i j with c | c | c
  · exact absurd (by omega) (h.one i j c hj)
  · exact c
  · exact absurd (by omega) (h.one j i c hi)
theorem thg_place {xs : List Int} {R u : Nat} (h : OrdTo xs R R) (hu : u < R) : ∃ p, p < R ∧ thg xs p = u ∧ posI xs R u = (p : Int) := by
  obtain ⟨p, hp, e1, e2⟩ := h.place hu
  exact ⟨p, hp, by unfold thg; omega, e2⟩
theorem inF_pos {xs : List Int} {R u k : Nat} (h : OrdTo xs R R) (hu : u < R) (hk : k ≤ R) : inF xs k u = true ↔ posI xs R u < (k : Int) := by
  obtain ⟨p, hp, e1, e2⟩ := thg_place h hu
  rw [inF_iff, e2]
  exact ⟨fun ⟨j, h1, h2⟩ => by
    have := thg_inj h (i := j) (j := p) (by omega) hp (h2.trans e1.symm)
    omega, fun h1 => ⟨p, by omega, e1⟩⟩
theorem lbF_at {xs st cols : List Int} {R p : Nat} (h : OrdTo xs R R) (hp : p < R) : ∀ k, p < k → k ≤ R → lbF xs st cols k (thg xs p) = amF xs st cols p (thg xs p)
  | 0, h1, _ => absurd h1 (Nat.not_lt_zero p)
  | k + 1, h1, h2 => by
    simp only [lbF]
    by_cases e : thg xs p = thg xs k
    · have := thg_inj h hp (by omega) e
      subst this
      rw [if_pos rfl]
    · rw [if_neg e]
      exact lbF_at h hp k (by
        have : p ≠ k := fun x => e (by rw [x])
        omega) (by omega)
theorem am_ba {xs st cols : List Int} {R u p : Nat} (h : OrdTo xs R R) (hm : MayP (R : Int) (R : Int) st cols) (hu : u < R) (hp : p ≤ R) : ∀ i, i ≤ (rowL st cols u).length → amN (inF xs p) (rowL st cols u) i = baN (posI xs R) (rowL st cols u) (p : Int) i
  | 0, _ => rfl
  | i + 1, hi => by
    obtain ⟨y, e1, hy⟩ := row_at hm hu (i := i) (by omega)
    simp only [amN, baN]
    rw [am_ba h hm hu hp i (by omega), e1, show ((y : Int)).toNat = y by omega]
    have := inF_pos (k := p) h hy hp
    by_cases c : posI xs R y < (p : Int)
    · rw [if_pos c, if_pos (this.2 c)]
    · rw [if_neg c, if_neg (fun x => c (this.1 x))]
theorem amF_bk {xs st cols : List Int} {R p : Nat} (h : OrdTo xs R R) (hm : MayP (R : Int) (R : Int) st cols) (hp : p < R) : amF xs st cols p (thg xs p) = bkO xs st cols R (thg xs p) := by
  have hr := h.rng p hp
  have hu : thg xs p < R := by unfold thg; omega
  obtain ⟨q, hq, e1, e2⟩ := thg_place h hu
  have : q = p := thg_inj h hq hp e1
  subst this
  unfold amF bkO
  rw [am_ba h hm hu (by omega) _ (Nat.le_refl _), e2]
theorem lbF_bk {xs st cols : List Int} {R u : Nat} (h : OrdTo xs R R) (hm : MayP (R : Int) (R : Int) st cols) (hu : u < R) : lbF xs st cols R u = bkO xs st cols R u := by
  obtain ⟨p, hp, e1, e2⟩ := thg_place h hu
  rw [← e1, lbF_at h hp R hp (Nat.le_refl _), amF_bk h hm hp]
theorem moG_ge (C : Nat → Nat) : ∀ k i, i < k → C i ≤ moG C k
  | 0, i, h => absurd h (Nat.not_lt_zero i)
  | k + 1, i, h => by
    simp only [moG]
    by_cases e : i = k
    · subst e; split <;> omega
    · have := moG_ge C k i (by omega)
      split <;> omega
theorem moG_at (C : Nat → Nat) : ∀ k, moG C k = 0 ∨ ∃ i, i < k ∧ C i = moG C k
  | 0 => .inl rfl
  | k + 1 => by
    simp only [moG]
    by_cases e : moG C k < C k
    · rw [if_pos e]; exact .inr ⟨k, by omega, rfl⟩
    · rw [if_neg e]
      rcases moG_at C k with h | ⟨i, h1, h2⟩
      · exact .inl h
      · exact .inr ⟨i, by omega, h2⟩
/-- Both sides' greatest back. -/
theorem most_two {xs st cols : List Int} {R : Nat} {v : Int} (h : OrdTo xs R R) (hm : MayP (R : Int) (R : Int) st cols) (hv : MaxTo (0 :: (List.range R).map (fun u => (bkO xs st cols R u : Int))) (R + 1) v) : v = (moG (fun i => amF xs st cols i (thg xs i)) R : Int) := by
  have hg : ∀ u, u < R → (0 :: (List.range R).map (fun u => (bkO xs st cols R u : Int))).getD (u + 1) 0 = (bkO xs st cols R u : Int) := fun u hu => by simp [List.getD, hu]
  refine MaxTo.one hv ⟨?_, fun i hi => ?_⟩
  · rcases moG_at (fun i => amF xs st cols i (thg xs i)) R with e | ⟨p, hp, e⟩
    · exact ⟨0, by omega, by rw [e]; rfl⟩
    · have hr := h.rng p hp
      have hu : thg xs p < R := by unfold thg; omega
      refine ⟨thg xs p + 1, by omega, ?_⟩
      rw [hg _ hu, ← amF_bk h hm hp, ← e]
  · cases i with
    | zero => show (0 : Int) ≤ _; omega
    | succ u =>
      rw [hg u (by omega)]
      obtain ⟨p, hp, e1, e2⟩ := thg_place h (show u < R by omega)
      have := moG_ge (fun i => amF xs st cols i (thg xs i)) R p hp
      rw [amF_bk h hm hp, e1] at this
      omega
end Go.Proofs.Ytpmafjofkmefeaa

namespace Go.Proofs.Ytpmafjofkmefeaa
open Go.RowKit Go.Deep
set_option linter.unusedVariables false

/-- The longest of k lines. -/
structure LgT (f : Nat → Nat) (k y : Nat) : Prop where
  le : ∀ i, i < k → f i ≤ y
  at_ : y = 0 ∨ ∃ i, i < k ∧ f i = y
theorem LgT.next {f : Nat → Nat} {k y : Nat} (h : LgT f k y) : LgT f (k + 1) (max y (f k)) := by
  refine ⟨fun i hi => ?_, ?_⟩
  · by_cases e : i = k
    · subst e; omega
    · have := h.le i (by omega); omega
  · by_cases c : y ≤ f k
    · rcases Nat.eq_zero_or_pos (f k) with z | z
      · left; omega
      · right; exact ⟨k, by omega, by omega⟩
    · rcases h.at_ with e | ⟨i, hi, e⟩
      · left; omega
      · right; exact ⟨i, by omega, by omega⟩
theorem LgT.one {f : Nat → Nat} {k y z : Nat} (h : LgT f k y) (g : LgT f k z) : y = z := by
  have h1 : y ≤ z := by
    rcases h.at_ with e | ⟨i, hi, e⟩
    · omega
    · have := g.le i hi; omega
  have h2 : z ≤ y := by
    rcases g.at_ with e | ⟨i, hi, e⟩
    · omega
    · have := h.le i hi; omega
  omega
theorem rowL_len {R : Nat} {width : Int} {st cols : List Int} (hm : MayP (R : Int) width st cols) {r : Nat} (hr : r < R) : (rowL st cols r).length = (st.getD (r + 1) 0).toNat - (st.getD r 0).toNat := by
  obtain ⟨X, Y, h⟩ := hm.rowAt (k := r) (by omega)
  unfold rowL
  rw [List.length_take, List.length_drop, h.hX, h.hY]
  have := h.lt
  omega
end Go.Proofs.Ytpmafjofkmefeaa

namespace Go.Proofs.Ytpmafjofkmefeaa
open Go.RowKit Go.Deep
set_option linter.unusedVariables false

theorem RoV.sl2 {W : World} {g R : Nat} {f : Nat → Int} (h : RoV W g R (fun i => .int .i64 (f i))) (hR : R ≤ 128) : SlI W (some ⟨g, 0, none⟩) R R ((List.range R).map f) :=
  ⟨by simp, Nat.le_refl _, by unfold maxLen; omega, .inr ⟨g, 0, rfl, fun i hi => by
    have hi' : i < R := by simpa using hi
    rw [Nat.zero_add, (h i hi').1]
    simp [List.getD, hi']⟩⟩
set_option maxHeartbeats 1000000 in
/-- slopelaw11.num. -/
theorem num11_any (x : Int) (w : World) : Calls Try.prog 15 #[.int .i64 x] w fun e w' => e = .returned (.int .i64 x) ∧ w' = w := by
  go_enter Try.func15, Try.ntmps15
  go_wp2_with fail
  try go_ret
  exact ⟨rfl, rfl⟩
end Go.Proofs.Ytpmafjofkmefeaa
