/-
  natural.Bits: its contract.
-/
import Derived.Test.YtlecjjcpidjmhaaNMul
namespace Go.Proofs.Ytlecjjcpidjmhaa
open Go.RowKit Go.Deep
set_option linter.unusedVariables false

theorem bl_lt : ∀ (n x : Nat), x ≤ n → x < 18446744073709551616 → x < 2 ^ Lib.bitLen x
  | 0, x, h, hx => by
    have e : x = 0 := by omega
    subst e
    decide +kernel
  | n + 1, x, h, hx => by
    by_cases h0 : x = 0
    · subst h0; decide +kernel
    · have ih := bl_lt n (x / 2) (by omega) (by omega)
      rw [Lib.bitLen_half x h0 hx, Nat.add_comm 1, Nat.pow_succ]
      omega

theorem take_lt_pow {xs : List Nat} (ox : Ok xs) (t : Nat) (h : t ≤ xs.length) : val (xs.take t) < 4294967296 ^ t := by
  have := val_lt (ox.take t)
  rwa [List.length_take, Nat.min_eq_left h] at this

/-- The binary digits of a number's limbs. -/
def bitsN (xs : List Nat) : Nat := if xs = [] then 0 else bitsL xs

theorem val_lt_bits {xs : List Nat} (ox : Ok xs) : val xs < 2 ^ bitsN xs := by
  unfold bitsN
  by_cases h0 : xs = []
  · subst h0; simp [val]
  · rw [if_neg h0]
    have hp : 0 < xs.length := List.length_pos_iff.2 h0
    have hb := ox.getD (xs.length - 1)
    have h2 := bl_lt _ _ (Nat.le_refl (xs.getD (xs.length - 1) 0)) (by omega)
    rw [val_split xs (xs.length - 1) (by omega), drop_cons (by omega)]
    have e : xs.drop (xs.length - 1 + 1) = [] := List.drop_eq_nil_of_le (by omega)
    rw [e]
    simp only [val]
    unfold bitsL
    rw [Nat.pow_add, Nat.mul_comm _ 32, ← pow_limb, Nat.mul_zero, Nat.add_zero]
    have h1 := take_lt_pow ox (xs.length - 1) (by omega)
    have h3 : 4294967296 ^ (xs.length - 1) * (xs.getD (xs.length - 1) 0 + 1) ≤ 4294967296 ^ (xs.length - 1) * 2 ^ Lib.bitLen (xs.getD (xs.length - 1) 0) := Nat.mul_le_mul_left _ h2
    rw [Nat.mul_add, Nat.mul_one] at h3
    omega

theorem bitsN_le {xs : List Nat} (ox : Ok xs) (h : xs.length ≤ 2048) : bitsN xs ≤ 100000 := by
  unfold bitsN
  split
  · omega
  · exact bitsL_le ox h

theorem bitsN_mono {xs ys : List Nat} (ox : Ok xs) (oy : Ok ys) (nx : Norm xs) (h : val xs ≤ val ys) : bitsN xs ≤ bitsN ys := by
  have h2 := val_lt_bits oy
  by_cases h0 : xs = []
  · simp [bitsN, h0]
  · have h1 := val_ge_bits ox nx h0
    have h3 : 2 ^ (bitsL xs - 1) < 2 ^ bitsN ys := by omega
    have h4 : bitsL xs - 1 < bitsN ys := (Nat.pow_lt_pow_iff_right (by decide)).1 h3
    have e : bitsN xs = bitsL xs := by simp [bitsN, h0]
    omega

set_option maxHeartbeats 800000 in
theorem bitLen_nil (a : Option Addr) (c : Nat) (w : World) :
    Calls Try.prog 49 #[.slice a 0 c] w fun e w' => e = .returned (.int .i64 0) ∧ w' = w := by
  go_enter Try.func49, Try.ntmps49
  go_wp2
  go_ret
  exact ⟨rfl, rfl⟩

/-- natural.bitLen. -/
theorem bitLen_all (a : Option Addr) (n c : Nat) (xs : List Nat) (w : World) (h : Sl w a n c xs) (ok : Ok xs) (hn : n ≤ 1000000000000) :
    Calls Try.prog 49 #[.slice a n c] w fun e w' => e = .returned (.int .i64 (bitsN xs : Nat)) ∧ w' = w := by
  by_cases h0 : xs = []
  · have hl := h.len
    subst h0
    simp at hl
    subst hl
    have : (bitsN [] : Nat) = 0 := by simp [bitsN]
    rw [this]
    exact bitLen_nil a c w
  · have e : bitsN xs = bitsL xs := by simp [bitsN, h0]
    rw [e]
    exact bitLen_any a n c xs w h ok h0 hn

set_option maxHeartbeats 800000 in
/-- natural.Bits. -/
theorem nbits_any (a : Option Addr) (n c : Nat) (xs : List Nat) (w : World) (h : Sl w a n c xs) (ok : Ok xs) (m : MayL xs = true) :
    Calls Try.prog 20 #[.slice a n c] w fun e w' => e = .returned (.int .i64 (bitsN xs : Nat)) ∧ w' = w := by
  have K1 := may_any a n c xs w h
  rw [m] at K1
  have K1' := hide K1
  have K2 := hide (bitLen_all a n c xs w h ok (by have := MayL.len m; have := h.len; omega))
  generalize bitsN xs = u at *
  clear K1 h ok m
  go_enter Try.func20, Try.ntmps20
  go_wp2_with fail
  refine (unhide K1').mono ?_
  rintro e w' ⟨rfl, hw⟩
  obtain rfl := hw.symm
  go_wp2_with fail
  refine (unhide K2).mono ?_
  rintro e w' ⟨rfl, hw⟩
  obtain rfl := hw.symm
  go_wp2
  go_ret
  exact ⟨rfl, rfl⟩
end Go.Proofs.Ytlecjjcpidjmhaa
