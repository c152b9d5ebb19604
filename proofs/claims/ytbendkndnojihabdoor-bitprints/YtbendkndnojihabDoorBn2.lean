/-
  math/bits.OnesCount64; bitset.count, Count: contracts.
-/
import Derived.Test.YtbendkndnojihabDoorBn1
import Derived.Test.YtbendkndnojihabDoorBta
import Derived.Test.YtbendkndnojihabDoorBl0
namespace Go.Proofs.YtbendkndnojihabDoor
open Go.RowKit Go.Deep
set_option linter.unusedVariables false

theorem i64_and127 (n : Nat) (h : n < 9223372036854775808) : bits .and .i64 (n : Int) 127 = ((n % 128 : Nat) : Int) := by
  have h63 : (BitVec.ofInt 64 127).toNat = 2 ^ 7 - 1 := by decide
  have key : (BitVec.ofInt 64 (n : Int) &&& BitVec.ofInt 64 127).toNat = ((n : Int) % ((2 ^ 64 : Nat) : Int)).toNat % 2 ^ 7 := by
    rw [BitVec.toNat_and, BitVec.toNat_ofInt, h63, Nat.and_two_pow_sub_one_eq_mod]
  show IntKind.i64.wrap ((BitVec.ofInt 64 (n : Int) &&& BitVec.ofInt 64 127).toNat : Nat) = _
  rw [key, wrap_i64]
  omega

def pc64 (x : Nat) : Nat := cntB (fun j => x.testBit j) 64
theorem pc64_le (x : Nat) : pc64 x ≤ 64 := cntB_le _ _
/-- One sum within a word. -/
theorem wsum (a b : Nat) (h : a + b < 18446744073709551616) : IntKind.u64.wrap ((a : Int) + (b : Int)) = ((a + b : Nat) : Int) := by
  rw [show (a : Int) + (b : Int) = ((a + b : Nat) : Int) from by omega]
  exact u64_nat h
theorem wdiv (a k : Nat) : (a : Int) / (k : Int) = ((a / k : Nat) : Int) := by simp

/-- How many numbers words have. -/
theorem cnt_words (xs : List Nat) (n : Nat) : cntB (hasB (gW xs)) (64 * (n + 1)) = cntB (hasB (gW xs)) (64 * n) + pc64 (gW xs n) := by
  rw [show 64 * (n + 1) = 64 * n + 64 from by omega, cntB_add]
  congr 1
  unfold pc64
  apply cntB_congr
  intro x hx
  unfold hasB
  rw [show (64 * n + x) / 64 = n from by omega, show (64 * n + x) % 64 = x from by omega]

def countR (s : Int) (xs : List Nat) : Nat := if MayS s xs then cntB (hasB (gW xs)) s.toNat else 0
theorem countR_words {s : Int} {xs : List Nat} (h : MayS s xs = true) : countR s xs = cntB (hasB (gW xs)) (64 * xs.length) := by
  have hn : s.toNat ≤ 64 * nW s.toNat := by unfold nW; omega
  rw [countR, if_pos h, MayS.len h]
  obtain ⟨m, hm⟩ : ∃ m, 64 * nW s.toNat = s.toNat + m := ⟨64 * nW s.toNat - s.toNat, by omega⟩
  rw [hm, cntB_add]
  have z : ∀ k, k ≤ m → cntB (fun x => hasB (gW xs) (s.toNat + x)) k = 0 := by
    intro k
    induction k with
    | zero => intro _; rfl
    | succ k ih =>
      intro hk
      simp only [cntB]
      have hz : hasB (gW xs) (s.toNat + k) = false := MayS.zero h (s.toNat + k) (by omega) (by rw [MayS.len h]; omega)
      rw [ih (by omega)]
      simp [hz]
  rw [z m (Nat.le_refl _)]
  rfl
theorem countR_le {s : Int} {xs : List Nat} : countR s xs ≤ 4096 := by
  unfold countR
  split
  · rename_i h
    have := cntB_le (hasB (gW xs)) s.toNat
    have hf := MayS.fits h
    simp [fitsI] at hf
    omega
  · omega

end Go.Proofs.YtbendkndnojihabDoor
