/-
  natural.compare, Cmp; sloperef1.May, Cmp: contracts.
-/
import Derived.Test.YtokgcpnnbajlkaaDoorFrom
namespace Go.Proofs.YtokgcpnnbajlkaaDoor
open Go.RowKit Go.Deep
set_option linter.unusedVariables false

theorem cmp_len {xs ys : List Nat} (ox : Ok xs) (oy : Ok ys) (nx : Norm xs) (ny : Norm ys) (h : xs.length ≠ ys.length) :
    (if (xs.length:Int) < (ys.length:Int) then -1 else 1 : Int) = cmpN (val xs) (val ys) := by
  by_cases hl : xs.length < ys.length
  · rw [if_pos (by omega), cmpN_lt (len_lt_val ox ny hl)]
  · rw [if_neg (by omega), cmpN_gt (len_lt_val oy nx (by omega))]

/-- What Cmp answers. -/
def cmpL (xs ys : List Nat) : Int := if MayL xs && MayL ys then cmpN (val xs) (val ys) else 0

set_option maxHeartbeats 400000 in
theorem rmay_nil (a : Option Addr) (cap : Nat) (w : World) :
    Calls Tryd.prog 8 #[.slice a 0 cap] w fun e w' => e = .returned (.bool true) ∧ w' = w := by
  go_enter Tryd.func8, Tryd.ntmps8
  go_wp2
  go_ret
  exact ⟨rfl, rfl⟩
set_option maxHeartbeats 400000 in
theorem rmay_long (a : Option Addr) (len cap : Nat) (w : World) (h : 2048 < len) (hm : len ≤ maxLen) :
    Calls Tryd.prog 8 #[.slice a len cap] w fun e w' => e = .returned (.bool false) ∧ w' = w := by
  unfold maxLen at hm
  go_enter Tryd.func8, Tryd.ntmps8
  go_wp2
  go_ret
  exact ⟨rfl, rfl⟩
set_option maxHeartbeats 400000 in
theorem rmay_some (b off : Nat) (n cap : Nat) (x : Int) (w : World) (h : (n:Int) ≤ 2048) (h0 : 0 < n) (hc : w.cell? ⟨b, off + (n-1), none⟩ = some (.int .u32 x)) :
    Calls Tryd.prog 8 #[.slice (some ⟨b, off, none⟩) n cap] w fun e w' => e = .returned (.bool (x != 0)) ∧ w' = w := by
  have h1 : ((n:Int) == 0) = false := by simp; omega
  have h2 : ((n:Int) - 1).toNat = n - 1 := by omega
  go_enter Tryd.func8, Tryd.ntmps8
  go_wp2
  go_ret
  exact ⟨rfl, rfl⟩

/-- sloperef1.May. -/
theorem rmay_any (a : Option Addr) (n c : Nat) (xs : List Nat) (w : World) (h : Sl w a n c xs) :
    Calls Tryd.prog 8 #[.slice a n c] w fun e w' => e = .returned (.bool (MayL xs)) ∧ w' = w := by
  have hl := h.len
  by_cases hlong : 2048 < n
  · refine (rmay_long a n c w hlong (Nat.le_trans h.le h.cap)).mono ?_
    rintro e w' ⟨rfl, rfl⟩
    have : MayL xs = false := by simp [MayL]; omega
    rw [this]; exact ⟨rfl, rfl⟩
  · rcases h.cells with h0 | ⟨b, off, rfl, hc⟩
    · subst h0
      simp at hl
      subst hl
      refine (rmay_nil a c w).mono ?_
      rintro e w' ⟨rfl, rfl⟩
      exact ⟨rfl, rfl⟩
    · by_cases hz : n = 0
      · subst hz
        have : xs = [] := List.eq_nil_of_length_eq_zero hl
        subst this
        refine (rmay_nil _ c w).mono ?_
        rintro e w' ⟨rfl, rfl⟩
        exact ⟨rfl, rfl⟩
      · have := hc (n - 1) (by omega)
        refine (rmay_some b off n c _ w (by omega) (by omega) this).mono ?_
        rintro e w' ⟨rfl, rfl⟩
        refine ⟨?_, rfl⟩
        have e1 : xs.isEmpty = false := by cases xs with | nil => simp at hl; omega | cons => rfl
        have e2 : MayL xs = (((xs.getD (n - 1) 0 : Nat) : Int) != 0) := by
          simp only [MayL, hl, e1, Bool.false_or]
          rw [show decide (n ≤ 2048) = true from by simp; omega]
          simp only [Bool.true_and]
          rw [Bool.eq_iff_iff, bne_iff_ne, bne_iff_ne]
          omega
        rw [e2]


end Go.Proofs.YtokgcpnnbajlkaaDoor
