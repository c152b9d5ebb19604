/-
  natural.chunk: contract.
-/
import Derived.Test.YtlecjjcpidjmhaaPa1
namespace Go.Proofs.Ytlecjjcpidjmhaa
open Go.RowKit Go.Deep
set_option linter.unusedVariables false

/-- How many digits fit a limb. -/
structure Chunk (b c : Nat) : Prop where
  pos : 1 ≤ c
  le : c ≤ 31
  lt : b ^ c < 4294967296
  ge : 4294967296 ≤ b ^ c * b

def ChPost (b : Nat) (w : World) (e : Ending) (w' : World) : Prop :=
  ∃ c, Chunk b c ∧ e = .returned (.tuple #[.int .i64 (c : Nat), .int .u32 (b ^ c : Nat)]) ∧ w' = w

theorem chunk_le {b c : Nat} (hb : 2 ≤ b) (h : b ^ c < 4294967296) : c ≤ 31 := by
  have h1 : 2 ^ c ≤ b ^ c := Nat.pow_le_pow_left hb c
  have h2 : 2 ^ c < 2 ^ 32 := Nat.lt_of_le_of_lt h1 h
  have := (Nat.pow_lt_pow_iff_right (by decide : 1 < 2)).1 h2
  omega

set_option maxHeartbeats 4000000 in
theorem chunk_any (b : Nat) (hb : 2 ≤ b) (hb2 : b ≤ 36) (w : World) :
    Calls Try.prog 57 #[.int .i64 (b : Nat)] w fun e w' => ChPost b w e w' := by
  go_enter Try.func57, Try.ntmps57
  go_wp2_with fail
  go_loop [4, 5] (fun cv wv => ∃ c : Nat, 1 ≤ c ∧ b ^ c < 4294967296 ∧ cv = .int .i64 (c : Nat) ∧ wv = .int .u64 (b ^ c : Nat)) (fun cv _ => 32 - (intOf cv).toNat)
  case atStart => exact ⟨1, Nat.le_refl _, by simp; omega, rfl, by simp⟩
  case round =>
    obtain ⟨c, hc, hlt, rfl, rfl⟩ := hrel
    have hc31 := chunk_le hb hlt
    have hb36 : b ^ c * b ≤ b ^ c * 36 := Nat.mul_le_mul_left _ hb2
    obtain ⟨p, hp⟩ : ∃ p, b ^ c * b = p := ⟨_, rfl⟩
    have hp1 : b ^ (c + 1) = p := by rw [Nat.pow_succ, hp]
    obtain ⟨W, hW⟩ : ∃ W, b ^ c = W := ⟨_, rfl⟩
    rw [hW] at hb36 hlt hp
    have e1 : (W:Int) * (b:Int) = (p:Int) := by rw [← hp, Int.natCast_mul]
    rw [hp] at hb36
    have hp64 : p < 18446744073709551616 := by omega
    have HW := hide hW
    have HP := hide hp1
    have HQ := hide hp
    by_cases hs : p < 4294967296
    · have q1 : (p:Int) / 4294967296 = 0 := by omega
      rw [hW]
      clear hW hp1 hp
      go_wp2_with fail
      exact ⟨⟨c + 1, by omega, by rw [unhide HP]; exact hs, by go_num, by rw [unhide HP]⟩, by simp [intOf]; omega⟩
    · obtain ⟨q, hq⟩ : ∃ q, p / 4294967296 = q := ⟨_, rfl⟩
      have q1 : (p:Int) / 4294967296 = (q:Int) := by omega
      have q2 : ((q:Int) == 0) = false := by simp; omega
      have q3 : ¬ (q:Int) = 0 := by omega
      rw [hW]
      clear hW hp1 hp hq
      go_wp2_with fail
      go_ret2
      have HR : b ^ c * b = p := by rw [unhide HW]; exact unhide HQ
      refine ⟨c, ⟨hc, hc31, by rw [unhide HW]; exact hlt, by rw [HR]; omega⟩, by rw [unhide HW]; rfl, rfl⟩
end Go.Proofs.Ytlecjjcpidjmhaa
