/-
  natural.chunk: contract.
-/
import Derived.Test.YtlecjjcpidjmhaaRMul
import Derived.Test.YtlecjjcpidjmhaaGiv
namespace Go.Proofs.Ytlecjjcpidjmhaa
open Go.RowKit Go.Deep
set_option linter.unusedVariables false

/-- What a byte is worth as a digit. -/
def digitN (c : Nat) : Nat := if 48 ≤ c ∧ c ≤ 57 then c - 48 else if 97 ≤ c ∧ c ≤ 122 then c - 97 + 10 else if 65 ≤ c ∧ c ≤ 90 then c - 65 + 10 else 36
theorem digitN_le (c : Nat) : digitN c ≤ 36 := by
  unfold digitN
  split
  · omega
  · split
    · omega
    · split <;> omega
theorem digit_ways (c : Nat) : (c < 48 ∧ digitN c = 36) ∨ (48 ≤ c ∧ c ≤ 57 ∧ (digitN c : Int) = c - 48) ∨ (57 < c ∧ c < 65 ∧ digitN c = 36) ∨ (65 ≤ c ∧ c ≤ 90 ∧ (digitN c : Int) = c - 65 + 10) ∨ (90 < c ∧ c < 97 ∧ digitN c = 36) ∨ (97 ≤ c ∧ c ≤ 122 ∧ (digitN c : Int) = c - 97 + 10) ∨ (122 < c ∧ digitN c = 36) := by
  unfold digitN
  split
  · right; left; omega
  · split
    · right; right; right; right; right; left; omega
    · split
      · right; right; right; left; omega
      · omega

set_option maxHeartbeats 4000000 in
theorem ndigit_any (c : Nat) (hc : c < 256) (w : World) :
    Calls Try.prog 56 #[.int .u8 (c : Nat)] w fun e w' => e = .returned (.int .i64 (digitN c : Nat)) ∧ w' = w := by
  have HW := digit_ways c
  generalize digitN c = D at HW ⊢
  rcases HW with ⟨h1, rfl⟩ | ⟨h1, h2, h3⟩ | ⟨h1, h2, rfl⟩ | ⟨h1, h2, h3⟩ | ⟨h1, h2, rfl⟩ | ⟨h1, h2, h3⟩ | ⟨h1, rfl⟩
  · have a1 : (c:Int) < 48 := by omega
    clear h1
    go_enter Try.func56, Try.ntmps56
    go_wp2_with fail
    go_ret
    exact ⟨rfl, rfl⟩
  · have a1 : 48 ≤ (c:Int) := by omega
    have a2 : (c:Int) ≤ 57 := by omega
    have H3 := hide h3
    clear h1 h2 h3
    go_enter Try.func56, Try.ntmps56
    go_wp2_with fail
    go_ret
    exact ⟨by rw [unhide H3]; rfl, rfl⟩
  · have a1 : 57 < (c:Int) := by omega
    have a2 : (c:Int) < 65 := by omega
    clear h1 h2
    go_enter Try.func56, Try.ntmps56
    go_wp2_with fail
    go_ret
    exact ⟨rfl, rfl⟩
  · have a1 : 65 ≤ (c:Int) := by omega
    have a2 : (c:Int) ≤ 90 := by omega
    have H3 := hide h3
    clear h1 h2 h3
    go_enter Try.func56, Try.ntmps56
    go_wp2_with fail
    go_ret
    exact ⟨by rw [unhide H3]; rfl, rfl⟩
  · have a1 : 90 < (c:Int) := by omega
    have a2 : (c:Int) < 97 := by omega
    clear h1 h2
    go_enter Try.func56, Try.ntmps56
    go_wp2_with fail
    go_ret
    exact ⟨rfl, rfl⟩
  · have a1 : 97 ≤ (c:Int) := by omega
    have a2 : (c:Int) ≤ 122 := by omega
    have H3 := hide h3
    clear h1 h2 h3
    go_enter Try.func56, Try.ntmps56
    go_wp2_with fail
    go_ret
    exact ⟨by rw [unhide H3]; rfl, rfl⟩
  · have a1 : 122 < (c:Int) := by omega
    clear h1
    go_enter Try.func56, Try.ntmps56
    go_wp2_with fail
    go_ret
    exact ⟨rfl, rfl⟩

set_option maxHeartbeats 4000000 in
theorem rdigit_any (c : Nat) (hc : c < 256) (w : World) :
    Calls Try.prog 30 #[.int .u8 (c : Nat)] w fun e w' => e = .returned (.int .i64 (digitN c : Nat)) ∧ w' = w := by
  have HW := digit_ways c
  generalize digitN c = D at HW ⊢
  rcases HW with ⟨h1, rfl⟩ | ⟨h1, h2, h3⟩ | ⟨h1, h2, rfl⟩ | ⟨h1, h2, h3⟩ | ⟨h1, h2, rfl⟩ | ⟨h1, h2, h3⟩ | ⟨h1, rfl⟩
  · have a1 : (c:Int) < 48 := by omega
    clear h1
    go_enter Try.func30, Try.ntmps30
    go_wp2_with fail
    go_ret
    exact ⟨rfl, rfl⟩
  · have a1 : 48 ≤ (c:Int) := by omega
    have a2 : (c:Int) ≤ 57 := by omega
    have H3 := hide h3
    clear h1 h2 h3
    go_enter Try.func30, Try.ntmps30
    go_wp2_with fail
    go_ret
    exact ⟨by rw [unhide H3]; rfl, rfl⟩
  · have a1 : 57 < (c:Int) := by omega
    have a2 : (c:Int) < 65 := by omega
    clear h1 h2
    go_enter Try.func30, Try.ntmps30
    go_wp2_with fail
    go_ret
    exact ⟨rfl, rfl⟩
  · have a1 : 65 ≤ (c:Int) := by omega
    have a2 : (c:Int) ≤ 90 := by omega
    have H3 := hide h3
    clear h1 h2 h3
    go_enter Try.func30, Try.ntmps30
    go_wp2_with fail
    go_ret
    exact ⟨by rw [unhide H3]; rfl, rfl⟩
  · have a1 : 90 < (c:Int) := by omega
    have a2 : (c:Int) < 97 := by omega
    clear h1 h2
    go_enter Try.func30, Try.ntmps30
    go_wp2_with fail
    go_ret
    exact ⟨rfl, rfl⟩
  · have a1 : 97 ≤ (c:Int) := by omega
    have a2 : (c:Int) ≤ 122 := by omega
    have H3 := hide h3
    clear h1 h2 h3
    go_enter Try.func30, Try.ntmps30
    go_wp2_with fail
    go_ret
    exact ⟨by rw [unhide H3]; rfl, rfl⟩
  · have a1 : 122 < (c:Int) := by omega
    clear h1
    go_enter Try.func30, Try.ntmps30
    go_wp2_with fail
    go_ret
    exact ⟨rfl, rfl⟩

open Go.RowKit Go.Deep
set_option linter.unusedVariables false

/-- How many digits fit a limb. -/
structure Chunk (b c : Nat) : Prop where
  pos : 1 ≤ c
  le : c ≤ 31
  lt : b ^ c < 4294967296
  ge : 4294967296 ≤ b ^ c * b

def ChPost (b : Nat) (w : World) (e : Ending) (w' : World) : Prop :=
  ∃ c, Chunk b c ∧ e = .returned (.tuple #[.int .i64 (c : Nat), .int .u32 (b ^ c : Nat)]) ∧ w' = w

theorem chunk_le {b c : Nat} (hb : 2 ≤ b) (h : b ^ c < 4294967296) : c ≤ 31 := by
  have h1 : 2 ^ c ≤ b ^ c := Nat.pow_le_pow_left hb c
  have h2 : 2 ^ c < 2 ^ 32 := Nat.lt_of_le_of_lt h1 h
  have := (Nat.pow_lt_pow_iff_right (by decide : 1 < 2)).1 h2
  omega

set_option maxHeartbeats 4000000 in
theorem chunk_any (b : Nat) (hb : 2 ≤ b) (hb2 : b ≤ 36) (w : World) :
    Calls Try.prog 57 #[.int .i64 (b : Nat)] w fun e w' => ChPost b w e w' := by
  go_enter Try.func57, Try.ntmps57
  go_wp2_with fail
  go_loop [4, 5] (fun cv wv => ∃ c : Nat, 1 ≤ c ∧ b ^ c < 4294967296 ∧ cv = .int .i64 (c : Nat) ∧ wv = .int .u64 (b ^ c : Nat)) (fun cv _ => 32 - (intOf cv).toNat)
  case atStart => exact ⟨1, Nat.le_refl _, by simp; omega, rfl, by simp⟩
  case round =>
    obtain ⟨c, hc, hlt, rfl, rfl⟩ := hrel
    have hc31 := chunk_le hb hlt
    have hb36 : b ^ c * b ≤ b ^ c * 36 := Nat.mul_le_mul_left _ hb2
    obtain ⟨p, hp⟩ : ∃ p, b ^ c * b = p := ⟨_, rfl⟩
    have hp1 : b ^ (c + 1) = p := by rw [Nat.pow_succ, hp]
    obtain ⟨W, hW⟩ : ∃ W, b ^ c = W := ⟨_, rfl⟩
    rw [hW] at hb36 hlt hp
    have e1 : (W:Int) * (b:Int) = (p:Int) := by rw [← hp, Int.natCast_mul]
    rw [hp] at hb36
    have hp64 : p < 18446744073709551616 := by omega
    have HW := hide hW
    have HP := hide hp1
    have HQ := hide hp
    by_cases hs : p < 4294967296
    · have q1 : (p:Int) / 4294967296 = 0 := by omega
      rw [hW]
      clear hW hp1 hp
      go_wp2_with fail
      exact ⟨⟨c + 1, by omega, by rw [unhide HP]; exact hs, by go_num, by rw [unhide HP]⟩, by simp [intOf]; omega⟩
    · obtain ⟨q, hq⟩ : ∃ q, p / 4294967296 = q := ⟨_, rfl⟩
      have q1 : (p:Int) / 4294967296 = (q:Int) := by omega
      have q2 : ((q:Int) == 0) = false := by simp; omega
      have q3 : ¬ (q:Int) = 0 := by omega
      rw [hW]
      clear hW hp1 hp hq
      go_wp2_with fail
      go_ret2
      have HR : b ^ c * b = p := by rw [unhide HW]; exact unhide HQ
      refine ⟨c, ⟨hc, hc31, by rw [unhide HW]; exact hlt, by rw [HR]; omega⟩, by rw [unhide HW]; rfl, rfl⟩

set_option maxHeartbeats 4000000 in
theorem isBase_any (b : Int) (w : World) :
    Calls Try.prog 27 #[.int .i64 b] w fun e w' => e = .returned (.bool (decide (2 ≤ b ∧ b ≤ 36))) ∧ w' = w := by
  by_cases h1 : 2 ≤ b
  · by_cases h2 : b ≤ 36
    · go_enter Try.func27, Try.ntmps27
      go_wp2_with fail
      go_ret
      simp [h1, h2]
    · go_enter Try.func27, Try.ntmps27
      go_wp2_with fail
      go_ret
      simp; omega
  · go_enter Try.func27, Try.ntmps27
    go_wp2_with fail
    go_ret
    simp; omega
end Go.Proofs.Ytlecjjcpidjmhaa
