/-
  Texts of sets, plain: the numbers that gather takes are the text of the set that it makes.
-/
import Derived.Test.YtbendkndnojihabDoorByl
import Derived.Test.YtbendkndnojihabDoorBs2
namespace Go.Proofs.YtbendkndnojihabDoor
open Go.RowKit Go.Deep
set_option linter.unusedVariables false

/-- No two numbers in a row are a run's last; pl: the one before was, or there is none before. -/
def Alt : Bool → List Nu → Prop
  | _, [] => True
  | pl, e :: l => (pl = true → e.2.2 = false) ∧ Alt e.2.2 l
/-- The text of numbers. -/
def txN : Bool → List Nu → List UInt8
  | _, [] => []
  | first, e :: l => (if e.2.2 then [45] else if first then [] else [44]) ++ Lib.decDigits e.1 ++ txN false l
/-- A step of gather. -/
theorem gaR_cons {sz : Nat} {v at_ : Nat} {lst : Bool} {l : List Nu} {b : Int} {P0 P : Nat → Bool} (h : gaR sz ((v, at_, lst) :: l) b P0 = .inl P) : v < sz ∧ (if lst then b + 1 ≤ (v : Int) else b + 1 < (v : Int)) ∧ gaR sz l v (fun x => P0 x || (decide ((if lst then b + 1 else (v : Int)) ≤ (x : Int)) && decide (x ≤ v))) = .inl P := by
  unfold gaR at h
  cases lst
  · simp only [Bool.false_eq_true, if_false] at h ⊢
    by_cases h1 : sz ≤ v
    · rw [if_pos h1] at h; cases h
    · rw [if_neg h1] at h
      by_cases h2 : (v : Int) ≤ b + 1
      · rw [if_pos h2] at h; cases h
      · rw [if_neg h2] at h
        exact ⟨by omega, by omega, h⟩
  · simp only [if_true] at h ⊢
    by_cases h1 : sz ≤ v
    · rw [if_pos h1] at h; cases h
    · rw [if_neg h1] at h
      by_cases h2 : (v : Int) < b + 1
      · rw [if_pos h2] at h; cases h
      · rw [if_neg h2] at h
        exact ⟨by omega, by omega, h⟩
theorem gaR_keep (sz : Nat) : ∀ (l : List Nu) (b : Int) (P0 P : Nat → Bool), gaR sz l b P0 = .inl P → (∀ x : Nat, (x : Int) ≤ b → P x = P0 x) ∧ (Alt true l → ∀ x : Nat, (x : Int) ≤ b + 1 → P x = P0 x)
  | [], b, P0, P, h => by
    unfold gaR at h
    cases h
    exact ⟨fun _ _ => rfl, fun _ _ _ => rfl⟩
  | (v, at_, lst) :: l, b, P0, P, h => by
    obtain ⟨h1, h2, h3⟩ := gaR_cons h
    have ih := (gaR_keep sz l v _ P h3).1
    cases lst
    · simp only [Bool.false_eq_true, if_false] at h2 ih
      refine ⟨fun x hx => ?_, fun _ x hx => ?_⟩
      · rw [ih x (by omega), show decide ((v : Int) ≤ (x : Int)) = false from by simp; omega]; simp
      · rw [ih x (by omega), show decide ((v : Int) ≤ (x : Int)) = false from by simp; omega]; simp
    · simp only [if_true] at h2 ih
      refine ⟨fun x hx => ?_, fun ha => ?_⟩
      · rw [ih x (by omega), show decide (b + 1 ≤ (x : Int)) = false from by simp; omega]; simp
      · have := ha.1 rfl
        cases this
theorem rnT_gap (P : Nat → Bool) (N a : Nat) : ∀ k, (∀ x, a ≤ x → x < a + k → pcT P N x = []) → rnT P N (a + k) = rnT P N a
  | 0, h => rfl
  | k + 1, h => by
    show rnT P N (a + k) ++ pcT P N (a + k) = _
    rw [h (a + k) (by omega) (by omega), rnT_gap P N a k (fun x h1 h2 => h x h1 (by omega)), List.append_nil]
theorem rnT_gap2 (P : Nat → Bool) (N : Nat) {a c : Nat} (hac : a ≤ c) (h : ∀ x, a ≤ x → x < c → pcT P N x = []) : rnT P N c = rnT P N a := by
  obtain ⟨k, rfl⟩ : ∃ k, c = a + k := ⟨c - a, by omega⟩
  exact rnT_gap P N a k h
theorem pcT_none {P : Nat → Bool} {N x : Nat} (h : P x = false) : pcT P N x = [] := by simp [pcT, h]
/-- What gather makes has the text that it took. -/
theorem gaR_text (sz : Nat) : ∀ (l : List Nu) (b : Int) (P0 P : Nat → Bool) (pl : Bool), gaR sz l b P0 = .inl P → Alt pl l → (b = -2 ∧ pl = true ∨ 0 ≤ b) → b < sz → (∀ x : Nat, b < (x : Int) → P0 x = false) → (∀ x : Nat, (x : Int) = b → P0 x = true) → rnT P sz sz = rnT P sz (b + 1).toNat ++ txN (decide (b < 0)) l
  | [], b, P0, P, pl, h, ha, hb, hs, h0, h1 => by
    unfold gaR at h
    cases h
    simp only [txN, List.append_nil]
    exact rnT_gap2 P0 sz (by omega) (fun x hx _ => pcT_none (h0 x (by omega)))
  | (v, at_, lst) :: l, b, P0, P, pl, h, ha, hb, hs, h0, h1 => by
    obtain ⟨k1, k2, k3⟩ := gaR_cons h
    have hk := gaR_keep sz l v _ P k3
    cases lst
    · simp only [Bool.false_eq_true, if_false] at k2 k3 hk
      have ih := gaR_text sz l v _ P false k3 ha.2 (.inr (by omega)) (by omega) (fun x hx => by
        rw [h0 x (by omega), show decide (x ≤ v) = false from by simp; omega]; simp) (fun x hx => by
        have e : x = v := by omega
        subst e; simp)
      have hP : ∀ x : Nat, b < (x : Int) → x < v → P x = false := fun x hx hv => by
        rw [hk.1 x (by omega), h0 x hx, show decide ((v : Int) ≤ (x : Int)) = false from by simp; omega]; rfl
      have hPv : P v = true := by rw [hk.1 v (by omega)]; simp
      rw [ih, show ((v : Int) + 1).toNat = v + 1 from by omega, show decide ((v : Int) < 0) = false from by simp]
      have hg : rnT P sz v = rnT P sz (b + 1).toNat := rnT_gap2 P sz (by omega) (fun x hx hv => pcT_none (hP x (by omega) hv))
      have hbg : bgB P v = true := by
        unfold bgB
        by_cases hv1 : 1 ≤ v
        · rw [hP (v - 1) (by omega) (by omega)]; simp
        · simp [hv1]
      show rnT P sz v ++ pcT P sz v ++ _ = _
      have hc : (cntB P v = 0) ↔ b < 0 := by
        constructor
        · intro hc
          rcases hb with c | c
          · omega
          · exfalso
            have := cntB_nil0 P hc b.toNat (by omega)
            rw [hk.1 b.toNat (by omega), h1 b.toNat (by omega)] at this
            simp at this
        · intro hc
          exact cntB_none P v (fun x hx => hP x (by omega) hx)
      have hpc : pcT P sz v = (if decide (b < 0) then [] else [44]) ++ Lib.decDigits v := by
        unfold pcT
        rw [hPv, hbg]
        simp only [if_true]
        by_cases hc2 : b < 0
        · rw [if_pos (hc.2 hc2)]; simp [hc2]
        · rw [if_neg (fun e => hc2 (hc.1 e))]; simp [hc2]
      rw [hg, hpc]
      simp [txN]
    · simp only [if_true] at k2 k3 hk
      have hpl : 0 ≤ b := by
        rcases hb with ⟨_, c⟩ | c
        · have := ha.1 c; cases this
        · exact c
      have ih := gaR_text sz l v _ P true k3 ha.2 (.inr (by omega)) (by omega) (fun x hx => by
        rw [h0 x (by omega), show decide (x ≤ v) = false from by simp; omega]; simp) (fun x hx => by
        have e : x = v := by omega
        subst e
        rw [show decide (b + 1 ≤ (x : Int)) = true from by simp; omega]; simp)
      have hP : ∀ x : Nat, b ≤ (x : Int) → x ≤ v → P x = true := fun x hx hv => by
        rw [hk.1 x (by omega)]
        by_cases e : (x : Int) = b
        · rw [h1 x e]; rfl
        · rw [show decide (b + 1 ≤ (x : Int)) = true from by simp; omega]; simp [hv]
      have hn : P (v + 1) = false := by
        rw [hk.2 ha.2 (v + 1) (by omega), h0 (v + 1) (by omega)]; simp
      rw [ih, show ((v : Int) + 1).toNat = v + 1 from by omega, show decide ((v : Int) < 0) = false from by simp]
      have hbg : ∀ x : Nat, b < (x : Int) → x ≤ v → bgB P x = false := fun x hx hv => by
        unfold bgB
        rw [hP (x - 1) (by omega) (by omega)]
        simp
        omega
      have hg : rnT P sz v = rnT P sz (b + 1).toNat := rnT_gap2 P sz (by omega) (fun x hx hv => by
        unfold pcT
        rw [hP x (by omega) (by omega), hbg x (by omega) (by omega)]
        have : enB P sz x = false := by
          unfold enB
          rw [hP (x + 1) (by omega) (by omega)]
          simp
          omega
        simp [this])
      show rnT P sz v ++ pcT P sz v ++ _ = _
      have hpc : pcT P sz v = 45 :: Lib.decDigits v := by
        unfold pcT
        rw [hP v (by omega) (by omega), hbg v (by omega) (by omega)]
        have : enB P sz v = true := by unfold enB; rw [hn]; simp
        simp [this]
      rw [hg, hpc]
      simp [txN]
end Go.Proofs.YtbendkndnojihabDoor
