/-
  RANKS AND SELECTED NUMBERS OF A SET THAT WAS MADE OF A LIST: plain.
-/
import Derived.Test.YtbendkndnojihabDoorBza
import Derived.Test.YtbendkndnojihabDoorBv1
import Derived.Test.YtbendkndnojihabDoorBth
namespace Go.Proofs.YtbendkndnojihabDoor
open Go.RowKit Go.Deep
set_option linter.unusedVariables false

/-- A fact of where a loop began. -/
def fBel (W : World) : Fact := ⟨fun w => Below W.heap.size W w, fun k h => h.trans (k.mono h.size)⟩
theorem cnt_any_le (N : Nat) : ∀ l : List Int, cntB (fun x => l.any (fun e => e == (x : Int))) N ≤ l.length
  | [] => by rw [cntB_none _ _ (fun x hx => by simp)]; simp
  | a :: l => by
    have ih := cnt_any_le N l
    have one : ∀ n, cntB (fun x => a == (x : Int)) n ≤ 1 ∧ (a < (n : Int) ∨ cntB (fun x => a == (x : Int)) n = 0) := by
      intro n
      induction n with
      | zero => simp [cntB]
      | succ n ihn =>
        simp only [cntB]
        by_cases h : a = (n : Int)
        · have : cntB (fun x => a == (x : Int)) n = 0 := by rcases ihn.2 with k | k <;> omega
          rw [this]
          simp [h]
          omega
        · simp [h]
          omega
    have h := cnt_or_and (fun x => a == (x : Int)) (fun x => l.any (fun e => e == (x : Int))) N
    have h1 := (one N).1
    simp only [List.any_cons, List.length_cons]
    omega
structure RkF (sz : Nat) (X : List Nat) (l : List Int) : Prop where
  le : countR sz X ≤ l.length
  le2 : countR sz X ≤ 4096
  all : rankR sz X sz = countR sz X
  end_ : selR sz X (countR sz X : Nat) = -1
  neg : selR sz X (-1) = -1
  at_ : ∀ k : Nat, k < countR sz X → ∃ c : Nat, c < sz ∧ selR sz X (k : Nat) = (c : Int) ∧ lastR sz X (c : Nat) = (c : Int) ∧ hasR sz X (c : Nat) = true ∧ rankR sz X (c : Nat) = k ∧ rankR sz X ((c : Int) + 1) = k + 1 ∧ selR sz X ((k : Int) - 1) < (c : Int) ∧ -1 ≤ selR sz X ((k : Int) - 1) ∧ nextR sz X (selR sz X ((k : Int) - 1) + 1) = (c : Int)
  next : nextR sz X (selR sz X (((countR sz X : Nat) : Int) - 1) + 1) = -1
  range : -1 ≤ selR sz X (((countR sz X : Nat) : Int) - 1) ∧ selR sz X (((countR sz X : Nat) : Int) - 1) ≤ 4096
  mem : ∀ e ∈ l, 0 ≤ e ∧ e < (sz : Int) ∧ hasR sz X e = true ∧ selR sz X (rankR sz X e : Nat) = e ∧ rankR sz X e ≤ 4096
  last : lastR sz X (-1) = -1
theorem rkf {sz : Nat} {X : List Nat} {l : List Int} (hsz : sz ≤ 4096) (hb : l.any (badE sz) = false) (g : Good sz X (fun x => l.any (fun e => e == (x : Int)))) : RkF sz X l := by
  have m := g.may
  have hP : ∀ x, x < sz → hasB (gW X) x = l.any (fun e => e == (x : Int)) := fun x hx => g.has x (by unfold nW; omega)
  have hc : countR sz X = cntB (hasB (gW X)) sz := by simp [countR, m]
  have hr : ∀ e, rankR sz X e = rkN (hasB (gW X)) sz e := fun e => by simp [rankR, m]
  have hs : ∀ k : Nat, selR sz X (k : Nat) = firstX (fun x => hasB (gW X) x && (cntB (hasB (gW X)) x == k)) sz := fun k => by simp [selR, m]
  have hn : selR sz X (-1) = -1 := by simp [selR]
  have hnx : ∀ e, nextR sz X e = firstX (fun x => hasB (gW X) x && decide (e ≤ (x : Int))) sz := fun e => by simp [nextR, m]
  have hla : ∀ e, lastR sz X e = lastX (fun x => hasB (gW X) x && decide ((x : Int) ≤ e)) sz := fun e => by simp [lastR, m]
  have hcl : cntB (hasB (gW X)) sz ≤ l.length := by rw [cntB_congr hP]; exact cnt_any_le sz l
  have hcl2 := cntB_le (hasB (gW X)) sz
  have hh : ∀ e : Nat, e < sz → hasR sz X (e : Nat) = hasB (gW X) e := fun e he => by simp [hasR, m, he]
  generalize hasB (gW X) = P at *
  -- the one ahead
  have ahead : ∀ k : Nat, k ≤ cntB P sz → (∀ y, y < sz → P y = true → cntB P y < k → (y : Int) ≤ selR sz X ((k : Int) - 1)) ∧ -1 ≤ selR sz X ((k : Int) - 1) ∧ selR sz X ((k : Int) - 1) < sz ∧ (∀ y, y < sz → P y = true → k ≤ cntB P y → selR sz X ((k : Int) - 1) < (y : Int)) := by
    intro k hk
    cases k with
    | zero =>
      have e : selR sz X (((0 : Nat) : Int) - 1) = -1 := hn
      rw [e]
      exact ⟨fun y h1 h2 h3 => by omega, by omega, by omega, fun y h1 h2 h3 => by omega⟩
    | succ k =>
      obtain ⟨x, h1, h2, h3⟩ := cntB_find P k sz (by omega)
      have e : selR sz X (((k + 1 : Nat) : Int) - 1) = (x : Int) := by
        rw [show ((k + 1 : Nat) : Int) - 1 = (k : Int) from by omega, hs, sel_at P h1 h2 h3]
      rw [e]
      refine ⟨fun y a1 a2 a3 => ?_, by omega, by omega, fun y a1 a2 a3 => ?_⟩
      · rcases Nat.lt_or_ge x y with c | c
        · have := cntB_lt P c h2; omega
        · omega
      · rcases Nat.lt_or_ge x y with c | c
        · omega
        · rcases Nat.lt_or_ge y x with d | d
          · have := cntB_lt P d a2; omega
          · have : y = x := by omega
            rw [this] at a3; omega
  refine ⟨by rw [hc]; exact hcl, by rw [hc]; omega, ?_, ?_, hn, ?_, ?_, ?_, ?_, ?_⟩
  · rw [hr, hc]; simp [rkN]
  · rw [hc, hs, sel_none P (Nat.le_refl _)]
  · intro k hk
    rw [hc] at hk
    obtain ⟨x, h1, h2, h3⟩ := cntB_find P k sz hk
    obtain ⟨q1, q2, q3, q4⟩ := ahead k (by omega)
    refine ⟨x, h1, by rw [hs, sel_at P h1 h2 h3], ?_, ?_, ?_, ?_, q4 x h1 h2 (by omega), q2, ?_⟩
    · rw [hla]
      exact lastX_at (by simp [h2]) h1 (fun y a1 a2 => by rw [decide_eq_false (by omega), Bool.and_false])
    · rw [hh x h1]; exact h2
    · rw [hr, rkN, Int.toNat_natCast, Nat.min_eq_left (by omega)]; exact h3
    · rw [hr, rkN, show ((x : Int) + 1).toNat = x + 1 from by omega, Nat.min_eq_left (by omega)]
      simp [cntB, h2, h3]
    · rw [hnx]
      have := q4 x h1 h2 (by omega)
      refine firstX_at (by simp [h2]; omega) (fun y hy => ?_) h1
      cases hp : P y
      · rfl
      · have a := cntB_lt P hy hp
        have b := q1 y (by omega) hp (by omega)
        rw [decide_eq_false (by omega)]
        rfl
  · rw [hc, hnx]
    obtain ⟨q1, q2, q3, q4⟩ := ahead (cntB P sz) (Nat.le_refl _)
    refine firstX_none (fun y hy => ?_)
    cases hp : P y
    · rfl
    · have b := q1 y hy hp (cntB_lt P hy hp)
      rw [decide_eq_false (by omega)]
      rfl
  · rw [hc]
    obtain ⟨q1, q2, q3, q4⟩ := ahead (cntB P sz) (Nat.le_refl _)
    omega
  · intro e he
    have hbe : badE sz e = false := by
      cases hv : badE sz e
      · rfl
      · rw [List.any_eq_true.2 ⟨e, he, hv⟩] at hb; cases hb
    simp [badE] at hbe
    obtain ⟨k, rfl⟩ : ∃ k : Nat, e = (k : Int) := ⟨e.toNat, by omega⟩
    have hk : k < sz := by omega
    have hp : P k = true := by
      rw [hP k hk]
      exact List.any_eq_true.2 ⟨_, he, by simp⟩
    have h1 : rankR sz X (k : Nat) = cntB P k := by rw [hr, rkN, Int.toNat_natCast, Nat.min_eq_left (by omega)]
    refine ⟨by omega, by omega, by rw [hh k hk]; exact hp, ?_, ?_⟩
    · rw [h1, hs, sel_at P hk hp rfl]
    · rw [h1]
      have := cntB_le P k
      omega
  · rw [hla]
    exact lastX_none (fun y hy => by rw [decide_eq_false (by omega), Bool.and_false])
end Go.Proofs.YtbendkndnojihabDoor
