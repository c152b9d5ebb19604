/-
  THE NUMBERS OF A SET IN A ROW; ranks, plain.
-/
import Derived.Test.YtbendkndnojihaaDoorBz1
import Derived.Test.YtbendkndnojihaaDoorBk5
namespace Go.Proofs.YtbendkndnojihaaDoor
open Go.RowKit Go.Deep
set_option linter.unusedVariables false

theorem elsL_at (P : Nat → Bool) : ∀ (n i : Nat), i < cntB P n → ∃ x : Nat, x < n ∧ P x = true ∧ cntB P x = i ∧ (elsL P n).getD i 0 = (x : Int)
  | 0, i, h => by simp [cntB] at h
  | n + 1, i, h => by
    by_cases k : i < cntB P n
    · obtain ⟨x, h1, h2, h3, h4⟩ := elsL_at P n i k
      refine ⟨x, by omega, h2, h3, ?_⟩
      have hl : i < (elsL P n).length := by rw [elsL_len]; exact k
      rw [← h4]
      simp only [elsL]
      simp only [List.getD]
      rw [List.getElem?_append_left hl]
    · simp only [cntB] at h
      have hp : P n = true := by
        cases hp : P n
        · rw [hp] at h; simp at h; omega
        · rfl
      rw [hp] at h
      simp at h
      have e : i = cntB P n := by omega
      refine ⟨n, by omega, hp, e.symm, ?_⟩
      simp only [elsL, hp, if_true, List.getD]
      rw [List.getElem?_append_right (by rw [elsL_len]; omega), elsL_len, e]
      simp
/-- How many of the first n are below e. -/
def rkN (P : Nat → Bool) (n : Nat) (e : Int) : Nat := cntB P (min e.toNat n)
theorem rkN_le (P : Nat → Bool) (n : Nat) (e : Int) : rkN P n e ≤ cntB P n := cntB_mup2 P (Nat.min_le_right _ _)
theorem rkN_lt (P : Nat → Bool) {n x : Nat} {e : Int} (hx : x < n) (hp : P x = true) : cntB P x < rkN P n e ↔ (x : Int) < e := by
  unfold rkN
  constructor
  · intro h
    rcases (show (x : Int) < e ∨ e ≤ (x : Int) by omega) with k | k
    · exact k
    · have := cntB_mup2 P (show min e.toNat n ≤ x by omega)
      omega
  · intro h
    exact cntB_lt P (by omega) hp
theorem rk_at (P : Nat → Bool) {n i : Nat} {e : Int} (h : i < cntB P n) : ((elsL P n).getD i 0 < e) ↔ i < rkN P n e := by
  obtain ⟨x, h1, h2, h3, h4⟩ := elsL_at P n i h
  rw [h4, ← rkN_lt P h1 h2, h3]
def rankR (s : Int) (xs : List Nat) (e : Int) : Nat := if MayS s xs then rkN (hasB (gW xs)) s.toNat e else 0
def selR (s : Int) (xs : List Nat) (k : Int) : Int := if MayS s xs && decide (0 ≤ k) then firstX (fun x => hasB (gW xs) x && (cntB (hasB (gW xs)) x == k.toNat)) s.toNat else -1
def nextR (s : Int) (xs : List Nat) (e : Int) : Int := if MayS s xs then firstX (fun x => hasB (gW xs) x && decide (e ≤ (x : Int))) s.toNat else -1
def lastR (s : Int) (xs : List Nat) (e : Int) : Int := if MayS s xs then lastX (fun x => hasB (gW xs) x && decide ((x : Int) ≤ e)) s.toNat else -1
def hasR (s : Int) (xs : List Nat) (e : Int) : Bool := MayS s xs && decide (0 ≤ e) && decide (e < s) && hasB (gW xs) e.toNat

theorem sel_at (P : Nat → Bool) {n k x : Nat} (hx : x < n) (hp : P x = true) (hc : cntB P x = k) : firstX (fun x => P x && (cntB P x == k)) n = (x : Int) := by
  refine firstX_at (by simp [hp, hc]) (fun y hy => ?_) hx
  cases h : P y
  · rfl
  · have := cntB_lt P hy h
    simp
    omega
theorem sel_none (P : Nat → Bool) {n k : Nat} (h : cntB P n ≤ k) : firstX (fun x => P x && (cntB P x == k)) n = -1 := by
  refine firstX_none (fun x hx => ?_)
  cases hp : P x
  · rfl
  · have := cntB_lt P hx hp
    simp
    omega
theorem sel_els (P : Nat → Bool) {n k : Nat} (h : k < cntB P n) : firstX (fun x => P x && (cntB P x == k)) n = (elsL P n).getD k 0 := by
  obtain ⟨x, h1, h2, h3, h4⟩ := elsL_at P n k h
  rw [h4, sel_at P h1 h2 h3]
theorem next_els (P : Nat → Bool) {n : Nat} {e : Int} : firstX (fun x => P x && decide (e ≤ (x : Int))) n = if rkN P n e < cntB P n then (elsL P n).getD (rkN P n e) 0 else -1 := by
  split
  · rename_i h
    obtain ⟨x, h1, h2, h3, h4⟩ := elsL_at P n _ h
    rw [h4]
    have hge : e ≤ (x : Int) := by
      have := (rkN_lt P (e := e) h1 h2)
      rw [h3] at this
      omega
    refine firstX_at (by simp [h2, hge]) (fun y hy => ?_) h1
    cases hp : P y
    · rfl
    · have a := cntB_lt P hy hp
      have b := (rkN_lt P (e := e) (show y < n by omega) hp).1 (by omega)
      simp
      omega
  · rename_i h
    refine firstX_none (fun x hx => ?_)
    cases hp : P x
    · rfl
    · have a := cntB_lt P hx hp
      have b := (rkN_lt P (e := e) hx hp).1 (by have := rkN_le P n e; omega)
      simp
      omega
theorem last_els (P : Nat → Bool) {n : Nat} {e : Int} : lastX (fun x => P x && decide ((x : Int) ≤ e)) n = if 0 < rkN P n (e + 1) then (elsL P n).getD (rkN P n (e + 1) - 1) 0 else -1 := by
  have hle := rkN_le P n (e + 1)
  split
  · rename_i h
    obtain ⟨x, h1, h2, h3, h4⟩ := elsL_at P n (rkN P n (e + 1) - 1) (by omega)
    rw [h4]
    have hlt := (rkN_lt P (e := e + 1) h1 h2).1 (by omega)
    refine lastX_at (by simp [h2]; omega) h1 (fun y hy hyn => ?_)
    cases hp : P y
    · rfl
    · have a := cntB_lt P hy h2
      have b := (rkN_lt P (e := e + 1) hyn hp)
      simp
      omega
  · rename_i h
    refine lastX_none (fun x hx => ?_)
    cases hp : P x
    · rfl
    · have b := (rkN_lt P (e := e + 1) hx hp)
      simp
      omega
end Go.Proofs.YtbendkndnojihaaDoor
