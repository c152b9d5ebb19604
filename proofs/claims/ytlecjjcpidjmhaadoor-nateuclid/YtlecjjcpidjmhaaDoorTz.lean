/-
  math/bits.TrailingZeros32: its contract; what its table must hold.
-/
import Derived.Test.YtlecjjcpidjmhaaDoorOnes
namespace Go.Proofs.YtlecjjcpidjmhaaDoor
open Go.RowKit Go.Deep
set_option linter.unusedVariables false

theorem tz_and : ∀ (f x : Nat), 0 < x → x < 2 ^ f → x &&& (2 ^ f - x) = 2 ^ Lib.ntzAux f x
  | 0, x, h0, h => by simp at h; omega
  | f + 1, x, h0, h => by
    have hp : 2 ^ (f + 1) = 2 * 2 ^ f := by rw [Nat.pow_succ, Nat.mul_comm]
    have hq := Nat.two_pow_pos f
    rw [hp] at h ⊢
    have hd := Nat.div_add_mod (x &&& (2 * 2 ^ f - x)) 2
    have hm := and_m2 x (2 * 2 ^ f - x)
    rw [Nat.and_div_two] at hd
    simp only [Lib.ntzAux]
    rcases Nat.mod_two_eq_zero_or_one x with e | e
    · rw [if_neg (by omega)]
      have e1 : (2 * 2 ^ f - x) / 2 = 2 ^ f - x / 2 := by omega
      rw [e1, tz_and f (x / 2) (by omega) (by omega)] at hd
      rw [e, Nat.zero_mul] at hm
      rw [show 1 + Lib.ntzAux f (x / 2) = Lib.ntzAux f (x / 2) + 1 from by omega, Nat.pow_succ]
      omega
    · rw [if_pos e]
      have e1 : (2 * 2 ^ f - x) / 2 = 2 ^ f - 1 - x / 2 := by omega
      have e2 : (2 * 2 ^ f - x) % 2 = 1 := by omega
      have e3 := and_not_add f (x / 2) (x / 2) (by omega) (by omega)
      rw [Nat.and_self] at e3
      rw [e1] at hd
      rw [e, e2] at hm
      simp only [Nat.pow_zero]
      omega

theorem tz_lt : ∀ (f x : Nat), 0 < x → x < 2 ^ f → Lib.ntzAux f x < f
  | 0, x, h0, h => by simp at h; omega
  | f + 1, x, h0, h => by
    rw [Nat.pow_succ] at h
    simp only [Lib.ntzAux]
    split
    · omega
    · have := tz_lt f (x / 2) (by omega) (by omega)
      omega

theorem tz_bit : ∀ (f x : Nat), 0 < x → x < 2 ^ f → x / 2 ^ Lib.ntzAux f x % 2 = 1 ∧ ∀ s, s < Lib.ntzAux f x → x / 2 ^ s % 2 = 0
  | 0, x, h0, h => by simp at h; omega
  | f + 1, x, h0, h => by
    rw [Nat.pow_succ] at h
    simp only [Lib.ntzAux]
    split
    · rename_i e
      exact ⟨by simpa using e, fun s hs => by omega⟩
    · rename_i e
      have := tz_bit f (x / 2) (by omega) (by omega)
      refine ⟨?_, ?_⟩
      · rw [show 1 + Lib.ntzAux f (x / 2) = Lib.ntzAux f (x / 2) + 1 from by omega, Nat.pow_succ, Nat.mul_comm, ← Nat.div_div_eq_div_mul]
        exact this.1
      · intro s hs
        cases s with
        | zero => simp; omega
        | succ s =>
          rw [Nat.pow_succ, Nat.mul_comm, ← Nat.div_div_eq_div_mul]
          exact this.2 s (by omega)

def tab32 : List Int := [0, 1, 28, 2, 29, 14, 24, 3, 30, 22, 20, 15, 25, 17, 4, 8, 31, 27, 13, 23, 21, 19, 16, 7, 26, 12, 18, 6, 11, 5, 10, 9]
theorem tz_index : ∀ k : Fin 32, tab32.getD (2 ^ k.val * 125613361 % 4294967296 / 134217728) 0 = (k.val : Int) ∧ 2 ^ k.val * 125613361 % 4294967296 / 134217728 < 32 := by decide +kernel

def tzN (x : Nat) : Nat := if x = 0 then 32 else Lib.ntzAux 32 x

theorem p32 : (2:Nat) ^ 32 = 4294967296 := by decide
theorem neg_nat {x : Nat} (h0 : 0 < x) (hx : x < 4294967296) : ∃ nx : Nat, nx < 4294967296 ∧ x + nx = 4294967296 ∧ (-(x:Int)) % 4294967296 = (nx : Int) := ⟨4294967296 - x, by omega, by omega, by omega⟩
theorem tz_facts {x : Nat} (h0 : 0 < x) (hx : x < 4294967296) : ∃ nx P ix : Nat, (-(x:Int)) % 4294967296 = (nx : Int) ∧ nx < 4294967296 ∧ P < 4294967296 ∧ bits .and .u32 (x : Int) (nx : Int) = (P : Int) ∧ ix < 32 ∧ (P : Int) * 125613361 % 4294967296 / 134217728 = (ix : Int) ∧ tab32.getD ix 0 = ((tzN x : Nat) : Int) ∧ tzN x < 32 := by
  have ht : tzN x = Lib.ntzAux 32 x := by unfold tzN; rw [if_neg (Nat.ne_of_gt h0)]
  obtain ⟨nx, n1, n2, n3⟩ := neg_nat h0 hx
  have hx' : x < 2 ^ 32 := by rw [p32]; exact hx
  have hl := tz_lt 32 x h0 hx'
  have ha := tz_and 32 x h0 hx'
  have e : 2 ^ 32 - x = nx := by rw [p32]; omega
  rw [e] at ha
  rw [← ht] at hl ha
  have e1 := u32_and_nat x nx hx n1
  rw [ha] at e1
  have hi := tz_index ⟨tzN x, hl⟩
  have hPb : 2 ^ tzN x < 2 ^ 32 := Nat.pow_lt_pow_right (by decide) hl
  rw [p32] at hPb
  refine ⟨nx, 2 ^ tzN x, _, n3, n1, hPb, e1, hi.2, ?_, hi.1, hl⟩
  simp only [Int.natCast_ediv, Int.natCast_emod, Int.natCast_mul]
  rfl

end Go.Proofs.YtlecjjcpidjmhaaDoor
