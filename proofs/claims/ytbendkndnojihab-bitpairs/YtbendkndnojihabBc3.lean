/-
  cmp.Compare, bitset.Compare: contracts.
-/
import Derived.Test.YtbendkndnojihabBc1
import Derived.Test.YtbendkndnojihabBc2
import Derived.Test.YtbendkndnojihabBta
import Derived.Test.YtbendkndnojihabBth
namespace Go.Proofs.Ytbendkndnojihab
open Go.RowKit Go.Deep Go.Shelf
set_option linter.unusedVariables false
attribute [local go_sem] Oper.semAt_some

def cmpI (x y : Int) : Int := if x < y then -1 else if y < x then 1 else 0

set_option maxHeartbeats 400000 in
theorem nan_int (x : Int) (w : World) : Calls Try.prog 69 #[.int .i64 x] w fun e w' => e = .returned (.bool false) ∧ w' = w := by
  have h : (x != x) = false := by simp
  go_enter Try.func69, Try.ntmps69
  go_wp2
  go_ret
  exact ⟨by simp, rfl⟩
set_option maxHeartbeats 400000 in
theorem nan_u64 (x : Int) (w : World) : Calls Try.prog 71 #[.int .u64 x] w fun e w' => e = .returned (.bool false) ∧ w' = w := by
  have h : (x != x) = false := by simp
  go_enter Try.func71, Try.ntmps71
  go_wp2
  go_ret
  exact ⟨by simp, rfl⟩
set_option maxHeartbeats 800000 in
/-- cmp.Compare of two ints. -/
theorem cmp_int (x y : Int) (w : World) : Calls Try.prog 57 #[.int .i64 x, .int .i64 y] w fun e w' => e = .returned (.int .i64 (cmpI x y)) ∧ w' = w := by
  have key : ∀ z, cmpI x y = z → Calls Try.prog 57 #[.int .i64 x, .int .i64 y] w (fun e w' => e = .returned (.int .i64 z) ∧ w' = w) → Calls Try.prog 57 #[.int .i64 x, .int .i64 y] w (fun e w' => e = .returned (.int .i64 (cmpI x y)) ∧ w' = w) := fun z h k => by rw [h]; exact k
  by_cases h1 : x < y
  · refine key (-1) (by simp [cmpI, h1]) ?_
    clear key
    go_enter Try.func57, Try.ntmps57
    go_wp2_with fail
    refine (nan_int x w).mono ?_
    rintro _ w1 ⟨rfl, rfl⟩
    go_wp2_with fail
    refine (nan_int y w1).mono ?_
    rintro _ w2 ⟨rfl, rfl⟩
    go_wp2_with fail
    go_ret
    exact ⟨rfl, rfl⟩
  · by_cases h2 : y < x
    · refine key 1 (by simp [cmpI, h1, h2]) ?_
      clear key
      go_enter Try.func57, Try.ntmps57
      go_wp2_with fail
      refine (nan_int x w).mono ?_
      rintro _ w1 ⟨rfl, rfl⟩
      go_wp2_with fail
      refine (nan_int y w1).mono ?_
      rintro _ w2 ⟨rfl, rfl⟩
      go_wp2_with fail
      go_ret
      exact ⟨rfl, rfl⟩
    · refine key 0 (by simp [cmpI, h1, h2]) ?_
      clear key
      go_enter Try.func57, Try.ntmps57
      go_wp2_with fail
      refine (nan_int x w).mono ?_
      rintro _ w1 ⟨rfl, rfl⟩
      go_wp2_with fail
      refine (nan_int y w1).mono ?_
      rintro _ w2 ⟨rfl, rfl⟩
      go_wp2_with fail
      go_ret
      exact ⟨rfl, rfl⟩
set_option maxHeartbeats 800000 in
/-- cmp.Compare of two words. -/
theorem cmp_u64 (x y : Int) (w : World) : Calls Try.prog 59 #[.int .u64 x, .int .u64 y] w fun e w' => e = .returned (.int .i64 (cmpI x y)) ∧ w' = w := by
  have key : ∀ z, cmpI x y = z → Calls Try.prog 59 #[.int .u64 x, .int .u64 y] w (fun e w' => e = .returned (.int .i64 z) ∧ w' = w) → Calls Try.prog 59 #[.int .u64 x, .int .u64 y] w (fun e w' => e = .returned (.int .i64 (cmpI x y)) ∧ w' = w) := fun z h k => by rw [h]; exact k
  by_cases h1 : x < y
  · refine key (-1) (by simp [cmpI, h1]) ?_
    clear key
    go_enter Try.func59, Try.ntmps59
    go_wp2_with fail
    refine (nan_u64 x w).mono ?_
    rintro _ w1 ⟨rfl, rfl⟩
    go_wp2_with fail
    refine (nan_u64 y w1).mono ?_
    rintro _ w2 ⟨rfl, rfl⟩
    go_wp2_with fail
    go_ret
    exact ⟨rfl, rfl⟩
  · by_cases h2 : y < x
    · refine key 1 (by simp [cmpI, h1, h2]) ?_
      clear key
      go_enter Try.func59, Try.ntmps59
      go_wp2_with fail
      refine (nan_u64 x w).mono ?_
      rintro _ w1 ⟨rfl, rfl⟩
      go_wp2_with fail
      refine (nan_u64 y w1).mono ?_
      rintro _ w2 ⟨rfl, rfl⟩
      go_wp2_with fail
      go_ret
      exact ⟨rfl, rfl⟩
    · refine key 0 (by simp [cmpI, h1, h2]) ?_
      clear key
      go_enter Try.func59, Try.ntmps59
      go_wp2_with fail
      refine (nan_u64 x w).mono ?_
      rintro _ w1 ⟨rfl, rfl⟩
      go_wp2_with fail
      refine (nan_u64 y w1).mono ?_
      rintro _ w2 ⟨rfl, rfl⟩
      go_wp2_with fail
      go_ret
      exact ⟨rfl, rfl⟩
end Go.Proofs.Ytbendkndnojihab
