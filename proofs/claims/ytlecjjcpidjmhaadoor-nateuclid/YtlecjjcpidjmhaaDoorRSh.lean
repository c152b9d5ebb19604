/-
  sloperef1.Shl, Shr at every argument.
-/
import Derived.Test.YtlecjjcpidjmhaaDoorShr
namespace Go.Proofs.YtlecjjcpidjmhaaDoor
open Go.RowKit Go.Deep
set_option linter.unusedVariables false

set_option maxHeartbeats 1000000 in
/-- sloperef1.Shr. -/
theorem rshr_any (a : Option Addr) (n c : Nat) (xs : List Nat) (w : World) (k : Int) (h : Sl w a n c xs) (ox : Ok xs) :
    Calls Tryd.prog 50 #[.slice a n c, .int .i64 k] w fun e w' => Res2 w w' (shrL xs k) e := by
  have K1 := rmay_any a n c xs w h
  by_cases m1 : MayL xs = true
  · rw [m1] at K1
    have K1' := hide K1
    by_cases hlo : k < 0
    · have HC := hide (show shrL xs k = ([], 1) from by unfold shrL; rw [m1]; simp; omega)
      clear K1 m1 h ox
      go_enter Tryd.func50, Tryd.ntmps50
      go_wp2_with fail
      refine (unhide K1').mono ?_
      rintro e w' ⟨rfl, hw⟩
      obtain rfl := hw.symm
      go_wp2
      go_ret2
      rw [unhide HC]
      exact ⟨none, 0, 0, rfl, sl_nil _, newAt_nil _, Below.refl _ _⟩
    · by_cases hhi : 65536 < k
      · have HC := hide (show shrL xs k = ([], 1) from by unfold shrL; rw [m1]; simp; omega)
        clear K1 m1 h ox
        go_enter Tryd.func50, Tryd.ntmps50
        go_wp2_with fail
        refine (unhide K1').mono ?_
        rintro e w' ⟨rfl, hw⟩
        obtain rfl := hw.symm
        go_wp2
        go_ret2
        rw [unhide HC]
        exact ⟨none, 0, 0, rfl, sl_nil _, newAt_nil _, Below.refl _ _⟩
      · obtain ⟨k, rfl⟩ := Int.eq_ofNat_of_zero_le (show 0 ≤ k by omega)
        have hn : n ≤ 2048 := by have := h.len; have := MayL.len m1; omega
        rw [show shrL xs k = (limbs (val xs / 2 ^ k), 0) from by unfold shrL; rw [m1]; simp; omega]
        exact rshr_core a n c xs w k (k / 32) (k % 32) h ox (by omega) (by omega) (by omega) (by omega) hn K1'
  · have m1' : MayL xs = false := by simpa using m1
    rw [m1'] at K1
    have K1' := hide K1
    have HC := hide (show shrL xs k = ([], 20) from by unfold shrL; rw [m1']; simp)
    clear K1 m1 m1' h ox
    go_enter Tryd.func50, Tryd.ntmps50
    go_wp2_with fail
    refine (unhide K1').mono ?_
    rintro e w' ⟨rfl, hw⟩
    obtain rfl := hw.symm
    go_wp2
    go_ret2
    rw [unhide HC]
    exact ⟨none, 0, 0, rfl, sl_nil _, newAt_nil _, Below.refl _ _⟩
end Go.Proofs.YtlecjjcpidjmhaaDoor
