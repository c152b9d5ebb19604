/-
  Digits.
-/
import Derived.Test.YtlecjjcpidjmhaaRMul
import Derived.Test.YtlecjjcpidjmhaaGiv
namespace Go.Proofs.Ytlecjjcpidjmhaa
open Go.RowKit Go.Deep
set_option linter.unusedVariables false

/-- What a byte is worth as a digit. -/
def digitN (c : Nat) : Nat := if 48 ≤ c ∧ c ≤ 57 then c - 48 else if 97 ≤ c ∧ c ≤ 122 then c - 97 + 10 else if 65 ≤ c ∧ c ≤ 90 then c - 65 + 10 else 36
theorem digitN_le (c : Nat) : digitN c ≤ 36 := by
  unfold digitN
  split
  · omega
  · split
    · omega
    · split <;> omega
theorem digit_ways (c : Nat) : (c < 48 ∧ digitN c = 36) ∨ (48 ≤ c ∧ c ≤ 57 ∧ (digitN c : Int) = c - 48) ∨ (57 < c ∧ c < 65 ∧ digitN c = 36) ∨ (65 ≤ c ∧ c ≤ 90 ∧ (digitN c : Int) = c - 65 + 10) ∨ (90 < c ∧ c < 97 ∧ digitN c = 36) ∨ (97 ≤ c ∧ c ≤ 122 ∧ (digitN c : Int) = c - 97 + 10) ∨ (122 < c ∧ digitN c = 36) := by
  unfold digitN
  split
  · right; left; omega
  · split
    · right; right; right; right; right; left; omega
    · split
      · right; right; right; left; omega
      · omega

set_option maxHeartbeats 4000000 in
theorem ndigit_any (c : Nat) (hc : c < 256) (w : World) :
    Calls Try.prog 56 #[.int .u8 (c : Nat)] w fun e w' => e = .returned (.int .i64 (digitN c : Nat)) ∧ w' = w := by
  have HW := digit_ways c
  generalize digitN c = D at HW ⊢
  rcases HW with ⟨h1, rfl⟩ | ⟨h1, h2, h3⟩ | ⟨h1, h2, rfl⟩ | ⟨h1, h2, h3⟩ | ⟨h1, h2, rfl⟩ | ⟨h1, h2, h3⟩ | ⟨h1, rfl⟩
  · have a1 : (c:Int) < 48 := by omega
    clear h1
    go_enter Try.func56, Try.ntmps56
    go_wp2_with fail
    go_ret
    exact ⟨rfl, rfl⟩
  · have a1 : 48 ≤ (c:Int) := by omega
    have a2 : (c:Int) ≤ 57 := by omega
    have H3 := hide h3
    clear h1 h2 h3
    go_enter Try.func56, Try.ntmps56
    go_wp2_with fail
    go_ret
    exact ⟨by rw [unhide H3]; rfl, rfl⟩
  · have a1 : 57 < (c:Int) := by omega
    have a2 : (c:Int) < 65 := by omega
    clear h1 h2
    go_enter Try.func56, Try.ntmps56
    go_wp2_with fail
    go_ret
    exact ⟨rfl, rfl⟩
  · have a1 : 65 ≤ (c:Int) := by omega
    have a2 : (c:Int) ≤ 90 := by omega
    have H3 := hide h3
    clear h1 h2 h3
    go_enter Try.func56, Try.ntmps56
    go_wp2_with fail
    go_ret
    exact ⟨by rw [unhide H3]; rfl, rfl⟩
  · have a1 : 90 < (c:Int) := by omega
    have a2 : (c:Int) < 97 := by omega
    clear h1 h2
    go_enter Try.func56, Try.ntmps56
    go_wp2_with fail
    go_ret
    exact ⟨rfl, rfl⟩
  · have a1 : 97 ≤ (c:Int) := by omega
    have a2 : (c:Int) ≤ 122 := by omega
    have H3 := hide h3
    clear h1 h2 h3
    go_enter Try.func56, Try.ntmps56
    go_wp2_with fail
    go_ret
    exact ⟨by rw [unhide H3]; rfl, rfl⟩
  · have a1 : 122 < (c:Int) := by omega
    clear h1
    go_enter Try.func56, Try.ntmps56
    go_wp2_with fail
    go_ret
    exact ⟨rfl, rfl⟩

set_option maxHeartbeats 4000000 in
theorem rdigit_any (c : Nat) (hc : c < 256) (w : World) :
    Calls Try.prog 30 #[.int .u8 (c : Nat)] w fun e w' => e = .returned (.int .i64 (digitN c : Nat)) ∧ w' = w := by
  have HW := digit_ways c
  generalize digitN c = D at HW ⊢
  rcases HW with ⟨h1, rfl⟩ | ⟨h1, h2, h3⟩ | ⟨h1, h2, rfl⟩ | ⟨h1, h2, h3⟩ | ⟨h1, h2, rfl⟩ | ⟨h1, h2, h3⟩ | ⟨h1, rfl⟩
  · have a1 : (c:Int) < 48 := by omega
    clear h1
    go_enter Try.func30, Try.ntmps30
    go_wp2_with fail
    go_ret
    exact ⟨rfl, rfl⟩
  · have a1 : 48 ≤ (c:Int) := by omega
    have a2 : (c:Int) ≤ 57 := by omega
    have H3 := hide h3
    clear h1 h2 h3
    go_enter Try.func30, Try.ntmps30
    go_wp2_with fail
    go_ret
    exact ⟨by rw [unhide H3]; rfl, rfl⟩
  · have a1 : 57 < (c:Int) := by omega
    have a2 : (c:Int) < 65 := by omega
    clear h1 h2
    go_enter Try.func30, Try.ntmps30
    go_wp2_with fail
    go_ret
    exact ⟨rfl, rfl⟩
  · have a1 : 65 ≤ (c:Int) := by omega
    have a2 : (c:Int) ≤ 90 := by omega
    have H3 := hide h3
    clear h1 h2 h3
    go_enter Try.func30, Try.ntmps30
    go_wp2_with fail
    go_ret
    exact ⟨by rw [unhide H3]; rfl, rfl⟩
  · have a1 : 90 < (c:Int) := by omega
    have a2 : (c:Int) < 97 := by omega
    clear h1 h2
    go_enter Try.func30, Try.ntmps30
    go_wp2_with fail
    go_ret
    exact ⟨rfl, rfl⟩
  · have a1 : 97 ≤ (c:Int) := by omega
    have a2 : (c:Int) ≤ 122 := by omega
    have H3 := hide h3
    clear h1 h2 h3
    go_enter Try.func30, Try.ntmps30
    go_wp2_with fail
    go_ret
    exact ⟨by rw [unhide H3]; rfl, rfl⟩
  · have a1 : 122 < (c:Int) := by omega
    clear h1
    go_enter Try.func30, Try.ntmps30
    go_wp2_with fail
    go_ret
    exact ⟨rfl, rfl⟩

end Go.Proofs.Ytlecjjcpidjmhaa
