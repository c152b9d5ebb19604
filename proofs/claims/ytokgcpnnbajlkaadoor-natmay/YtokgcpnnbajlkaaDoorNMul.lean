/-
  natural.Mul, out of multiply's contract; slopelaw1.alive.
-/
import Derived.Test.YtokgcpnnbajlkaaDoorMulS
namespace Go.Proofs.YtokgcpnnbajlkaaDoor
open Go.RowKit Go.Deep
set_option linter.unusedVariables false

theorem bl_pos : ∀ (x : Nat), x ≠ 0 → x < 18446744073709551616 → 1 ≤ Lib.bitLen x := by
  intro x h0 hx
  rw [Lib.bitLen_half x h0 hx]
  omega

theorem bl_ge : ∀ (n x : Nat), x ≤ n → x ≠ 0 → x < 18446744073709551616 → 2 ^ (Lib.bitLen x - 1) ≤ x
  | 0, x, h, h0, _ => by omega
  | n + 1, x, h, h0, hx => by
    by_cases h1 : x / 2 = 0
    · have e : x = 1 := by omega
      subst e
      decide +kernel
    · have ih := bl_ge n (x / 2) (by omega) h1 (by omega)
      have hp := bl_pos (x / 2) h1 (by omega)
      rw [Lib.bitLen_half x h0 hx]
      have e : 1 + Lib.bitLen (x / 2) - 1 = (Lib.bitLen (x / 2) - 1) + 1 := by omega
      rw [e, Nat.pow_succ]
      omega

theorem pow_limb (k : Nat) : (4294967296 : Nat) ^ k = 2 ^ (32 * k) := by
  rw [Nat.pow_mul]

theorem val_ge_bits {xs : List Nat} (ox : Ok xs) (nx : Norm xs) (h0 : xs ≠ []) : 1 ≤ bitsL xs ∧ 2 ^ (bitsL xs - 1) ≤ val xs := by
  have hp : 0 < xs.length := List.length_pos_iff.2 h0
  have ht : xs.getD (xs.length - 1) 0 ≠ 0 := nx.resolve_left h0
  have hb := ox.getD (xs.length - 1)
  have h1 := bl_pos _ ht (by omega)
  have h2 := bl_ge _ _ (Nat.le_refl _) ht (by omega)
  refine ⟨by unfold bitsL; omega, ?_⟩
  rw [val_split xs (xs.length - 1) (by omega), drop_cons (by omega)]
  simp only [val]
  unfold bitsL
  have e : (xs.length - 1) * 32 + Lib.bitLen (xs.getD (xs.length - 1) 0) - 1 = 32 * (xs.length - 1) + (Lib.bitLen (xs.getD (xs.length - 1) 0) - 1) := by omega
  rw [e, Nat.pow_add, ← pow_limb]
  have : 4294967296 ^ (xs.length - 1) * 2 ^ (Lib.bitLen (xs.getD (xs.length - 1) 0) - 1) ≤ 4294967296 ^ (xs.length - 1) * (xs.getD (xs.length - 1) 0 + 4294967296 * val (xs.drop (xs.length - 1 + 1))) := Nat.mul_le_mul_left _ (by omega)
  exact Nat.le_trans this (Nat.le_add_left _ _)

theorem big_of_bits {xs ys : List Nat} (ox : Ok xs) (oy : Ok ys) (nx : Norm xs) (ny : Norm ys) (h1 : xs ≠ []) (h2 : ys ≠ []) (hb : 65536 < bitsL xs + bitsL ys - 1) : 2048 < (limbs (val xs * val ys)).length := by
  obtain ⟨p1, g1⟩ := val_ge_bits ox nx h1
  obtain ⟨p2, g2⟩ := val_ge_bits oy ny h2
  rcases Nat.lt_or_ge 2048 (limbs (val xs * val ys)).length with h | h
  · exact h
  · exfalso
    have hr := limbs_rep (val xs * val ys)
    have hlt := val_lt hr.ok
    rw [hr.val, pow_limb] at hlt
    have h3 : 2 ^ (bitsL xs - 1) * 2 ^ (bitsL ys - 1) ≤ val xs * val ys := Nat.mul_le_mul g1 g2
    rw [← Nat.pow_add] at h3
    have h4 : 2 ^ (32 * (limbs (val xs * val ys)).length) ≤ 2 ^ (bitsL xs - 1 + (bitsL ys - 1)) := Nat.pow_le_pow_right (by decide) (by omega)
    exact absurd (Nat.lt_of_lt_of_le hlt (Nat.le_trans h4 h3)) (Nat.lt_irrefl _)

theorem bitsL_le {xs : List Nat} (ox : Ok xs) (h : xs.length ≤ 2048) : bitsL xs ≤ 100000 := by
  have hb := ox.getD (xs.length - 1)
  have : Lib.bitLen (xs.getD (xs.length - 1) 0) ≤ 64 := Lib.bitLen_le _ 64 (by omega) (by omega)
  unfold bitsL
  omega

def mulL (xs ys : List Nat) : List Nat × Int := if MayL xs && MayL ys then fitL (val xs * val ys) else ([], 20)

end Go.Proofs.YtokgcpnnbajlkaaDoor
