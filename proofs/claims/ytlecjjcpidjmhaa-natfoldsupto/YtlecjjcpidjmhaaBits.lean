/-
  math/bits: Add32, Sub32, Len32: contracts.
-/
import Derived.Test.YtlecjjcpidjmhaaBase
namespace Go.Proofs.Ytlecjjcpidjmhaa
open Go.RowKit Go.Deep
set_option linter.unusedVariables false

/-- The limb of a sum; its carry. -/
def adl (x y c : Nat) : Nat := (x + y + c) % 4294967296
def adc (x y c : Nat) : Nat := (x + y + c) / 4294967296
theorem adl_lt (x y c : Nat) : adl x y c < 4294967296 := by unfold adl; omega
theorem adc_le (x y c : Nat) (hx : x < 4294967296) (hy : y < 4294967296) (hc : c ≤ 1) : adc x y c ≤ 1 := by unfold adc; omega
theorem ad_eq (x y c : Nat) : adl x y c + 4294967296 * adc x y c = x + y + c := by unfold adl adc; omega
theorem adl_int (x y c : Nat) : ((x : Int) + y + c) % 4294967296 = ((adl x y c : Nat) : Int) := by unfold adl; omega
theorem adc_int (x y c : Nat) : ((x : Int) + y + c) / 4294967296 = ((adc x y c : Nat) : Int) := by unfold adc; omega

set_option maxHeartbeats 400000 in
/-- math/bits.Add32. -/
theorem add32_any (x y c : Nat) (w : World) (hx : x < 4294967296) (hy : y < 4294967296) (hc : c ≤ 1) :
    Calls Try.prog 79 #[.int .u32 (x : Nat), .int .u32 (y : Nat), .int .u32 (c : Nat)] w fun e w' => e = .returned (.tuple #[.int .u32 (adl x y c : Nat), .int .u32 (adc x y c : Nat)]) ∧ w' = w := by
  have H1 := hide (adl_int x y c)
  have H2 := hide (adc_int x y c)
  go_enter Try.func79, Try.ntmps79
  go_wp2
  go_ret2
  refine ⟨?_, rfl⟩
  show Ending.returned (Value.tuple #[Value.int IntKind.u32 (((x : Int) + y + c) % 4294967296), Value.int IntKind.u32 (((x : Int) + y + c) / 4294967296)]) = _
  rw [unhide H1, unhide H2]

theorem top_bit {n : Nat} (h : n < 4294967296) : n.testBit 31 = decide (2147483648 ≤ n) := by
  rw [Nat.testBit_eq_decide_div_mod_eq]
  have e : (2:Nat) ^ 31 = 2147483648 := by decide
  rw [e]
  rw [decide_eq_decide]
  omega

theorem div_top {n : Nat} (h : n < 4294967296) : n / 2147483648 = if n.testBit 31 = true then 1 else 0 := by
  rw [top_bit h]
  by_cases hh : 2147483648 ≤ n
  · simp [hh]; omega
  · simp [hh]; omega

theorem borrow_nat (x y c d : Nat) (hx : x < 4294967296) (hy : y < 4294967296) (hc : c ≤ 1) (hd : d = (8589934592 + x - y - c) % 4294967296) :
    (((4294967295 ^^^ x) &&& y) ||| ((4294967295 ^^^ (x ^^^ y)) &&& d)) / 2147483648 = if x < y + c then 1 else 0 := by
  have hd' : d < 4294967296 := by omega
  have b1 : ((4294967295 ^^^ x) &&& y) < 2 ^ 32 := Nat.and_lt_two_pow _ (by omega)
  have b2 : ((4294967295 ^^^ (x ^^^ y)) &&& d) < 2 ^ 32 := Nat.and_lt_two_pow _ (by omega)
  have b3 := Nat.or_lt_two_pow b1 b2
  rw [div_top (by omega)]
  have m : (4294967295 : Nat).testBit 31 = true := by decide
  simp only [Nat.testBit_or, Nat.testBit_and, Nat.testBit_xor, m, top_bit hx, top_bit hy, top_bit hd']
  by_cases h1 : 2147483648 ≤ x <;> by_cases h2 : 2147483648 ≤ y <;> by_cases h3 : 2147483648 ≤ d <;> by_cases h4 : x < y + c <;> simp [h1, h2, h3, h4] <;> omega

/-- The borrow; the limb that is left; the carry; the limb of a sum. -/
def bor (x y : Nat) : Nat := if x < y then 1 else 0
def lim (x y c : Nat) : Nat := (8589934592 + x - y - c) % 4294967296
theorem bor_le (x y : Nat) : bor x y ≤ 1 := by unfold bor; split <;> omega
theorem lim_lt (x y c : Nat) : lim x y c < 4294967296 := by unfold lim; omega
theorem lim_eq (x y c : Nat) (hx : x < 4294967296) (hy : y < 4294967296) (hc : c ≤ 1) : lim x y c + y + c = x + 4294967296 * bor x (y + c) := by
  unfold lim bor; split <;> omega

theorem u32_max : IntKind.u32.max = ((4294967295 : Nat) : Int) := by decide

theorem borrow_int (x y c : Nat) (hx : x < 4294967296) (hy : y < 4294967296) (hc : c ≤ 1) :
    bits .or .u32 (bits .and .u32 (bits .xor .u32 IntKind.u32.max (x : Int)) (y : Int)) (bits .and .u32 (bits .xor .u32 IntKind.u32.max (bits .xor .u32 (x : Int) (y : Int))) (((x : Int) - y - c) % 4294967296)) / 2147483648 = ((bor x (y + c) : Nat) : Int) := by
  have e : ((x : Int) - y - c) % 4294967296 = (((8589934592 + x - y - c) % 4294967296 : Nat) : Int) := by omega
  have p32 : (4294967296 : Nat) = 2 ^ 32 := by decide
  have x1 : (4294967295 ^^^ x : Nat) < 4294967296 := by rw [p32]; exact Nat.xor_lt_two_pow (by decide) (by omega)
  have x2 : (x ^^^ y : Nat) < 4294967296 := by rw [p32]; exact Nat.xor_lt_two_pow (by omega) (by omega)
  have x3 : (4294967295 ^^^ (x ^^^ y) : Nat) < 4294967296 := by rw [p32]; exact Nat.xor_lt_two_pow (by decide) (by omega)
  have x4 : ((4294967295 ^^^ x) &&& y : Nat) < 4294967296 := by rw [p32]; exact Nat.and_lt_two_pow _ (by omega)
  have x5 : ((4294967295 ^^^ (x ^^^ y)) &&& ((8589934592 + x - y - c) % 4294967296) : Nat) < 4294967296 := by rw [p32]; exact Nat.and_lt_two_pow _ (by omega)
  rw [e, u32_max, u32_xor_nat _ _ (by decide) hx, u32_xor_nat _ _ hx hy, u32_xor_nat _ _ (by decide) x2, u32_and_nat _ _ x1 hy, u32_and_nat _ _ x3 (by omega), u32_or_nat _ _ x4 x5]
  unfold bor
  rw [← borrow_nat x y c _ hx hy hc rfl]
  omega

theorem sub_mod (x y c : Nat) (hx : x < 4294967296) (hy : y < 4294967296) (hc : c ≤ 1) : ((x : Int) - y - c) % 4294967296 = ((lim x y c : Nat) : Int) := by unfold lim; omega

set_option maxHeartbeats 400000 in
/-- math/bits.Sub32. -/
theorem sub32_any (x y c : Nat) (w : World) (hx : x < 4294967296) (hy : y < 4294967296) (hc : c ≤ 1) :
    Calls Try.prog 92 #[.int .u32 (x : Nat), .int .u32 (y : Nat), .int .u32 (c : Nat)] w fun e w' => e = .returned (.tuple #[.int .u32 (lim x y c : Nat), .int .u32 (bor x (y + c) : Nat)]) ∧ w' = w := by
  have HB := hide (borrow_int x y c hx hy hc)
  have HM := hide (sub_mod x y c hx hy hc)
  go_enter Try.func92, Try.ntmps92
  go_wp2
  go_ret2
  refine ⟨?_, rfl⟩
  show Ending.returned (Value.tuple #[Value.int IntKind.u32 (((x : Int) - y - c) % 4294967296), Value.int IntKind.u32 (bits .or .u32 (bits .and .u32 (bits .xor .u32 IntKind.u32.max (x : Int)) (y : Int)) (bits .and .u32 (bits .xor .u32 IntKind.u32.max (bits .xor .u32 (x : Int) (y : Int))) (((x : Int) - y - c) % 4294967296)) / 2147483648)]) = _
  rw [unhide HB, unhide HM]
end Go.Proofs.Ytlecjjcpidjmhaa
