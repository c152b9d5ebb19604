/-
  math/bits.Len32: its contract.
-/
import Derived.Test.YtlecjjcpidjmhaaBase
import Derived.Lib.BitFns
namespace Go.Proofs.Ytlecjjcpidjmhaa
open Go.RowKit Go.Deep
set_option linter.unusedVariables false

theorem tab_size : Lib.len8tab.size = 256 := by decide +kernel
theorem tab_all : ∀ n : Fin 256, (Lib.len8tab[n.val]'(by rw [tab_size]; exact n.isLt)).toNat = Lib.bitLen n.val := by decide +kernel
theorem tab_at (n : Nat) (h : n < Lib.len8tab.size) : (Lib.len8tab[n]'h).toNat = Lib.bitLen n := tab_all ⟨n, by rw [tab_size] at h; exact h⟩
theorem bl8 (n : Nat) (h : n < 256) : Lib.bitLen n ≤ 8 := Lib.bitLen_le8 ⟨n, h⟩
theorem wr_small (n : Int) (h0 : 0 ≤ n) (h1 : n ≤ 100) : wrap64 n = n := by unfold wrap64; omega

set_option maxHeartbeats 4000000 in
set_option maxRecDepth 100000 in
theorem len32_a (x : Int) (w : World) (h0 : 0 ≤ x) (h1 : x < 256) :
    Calls Try.prog 71 #[.int .u32 x] w fun e w' => e = .returned (.int .i64 (Lib.bitLen x.toNat)) ∧ w' = w := by
  have hs := tab_size
  have ha : ¬ (65536:Int) ≤ x := by omega
  have hb : ¬ (256:Int) ≤ x := by omega
  go_enter Try.func71, Try.ntmps71
  go_wp2
  go_ret
  refine ⟨congrArg Ending.returned (congrArg (Value.int IntKind.i64) ?_), rfl⟩
  rw [tab_at]
  have l := bl8 x.toNat (by omega)
  rw [wr_small ((Lib.bitLen x.toNat : Nat) : Int) (by omega) (by omega)]
  rw [wr_small ((Lib.bitLen x.toNat : Nat) : Int) (by omega) (by omega)]

set_option maxHeartbeats 4000000 in
set_option maxRecDepth 100000 in
theorem len32_b (x : Int) (w : World) (h0 : 256 ≤ x) (h1 : x < 65536) :
    Calls Try.prog 71 #[.int .u32 x] w fun e w' => e = .returned (.int .i64 (Lib.bitLen x.toNat)) ∧ w' = w := by
  have hs := tab_size
  have ha : ¬ (65536:Int) ≤ x := by omega
  have hb : (256:Int) ≤ x := by omega
  go_enter Try.func71, Try.ntmps71
  go_wp2
  go_ret
  refine ⟨congrArg Ending.returned (congrArg (Value.int IntKind.i64) ?_), rfl⟩
  have e : (x / 256).toNat = x.toNat / 256 := by omega
  have l := bl8 (x.toNat / 256) (by omega)
  have s := Lib.bitLen_shift8 x.toNat (by omega) (by omega)
  rw [tab_at, e]
  rw [wr_small ((Lib.bitLen (x.toNat / 256) : Nat) : Int) (by omega) (by omega)]
  rw [wr_small _ (by omega) (by omega)]
  omega

set_option maxHeartbeats 4000000 in
set_option maxRecDepth 100000 in
theorem len32_c (x : Int) (w : World) (h0 : 65536 ≤ x) (h1 : x < 16777216) :
    Calls Try.prog 71 #[.int .u32 x] w fun e w' => e = .returned (.int .i64 (Lib.bitLen x.toNat)) ∧ w' = w := by
  have hs := tab_size
  have ha : (65536:Int) ≤ x := by omega
  have hb : ¬ (256:Int) ≤ x / 65536 := by omega
  go_enter Try.func71, Try.ntmps71
  go_wp2
  go_ret
  refine ⟨congrArg Ending.returned (congrArg (Value.int IntKind.i64) ?_), rfl⟩
  have e : (x / 65536).toNat = x.toNat / 65536 := by omega
  have l := bl8 (x.toNat / 65536) (by omega)
  have s := Lib.bitLen_shift16 x.toNat (by omega) (by omega)
  rw [tab_at, e]
  rw [wr_small ((Lib.bitLen (x.toNat / 65536) : Nat) : Int) (by omega) (by omega)]
  rw [wr_small _ (by omega) (by omega)]
  omega

set_option maxHeartbeats 4000000 in
set_option maxRecDepth 100000 in
theorem len32_d (x : Int) (w : World) (h0 : 16777216 ≤ x) (h1 : x ≤ 4294967295) :
    Calls Try.prog 71 #[.int .u32 x] w fun e w' => e = .returned (.int .i64 (Lib.bitLen x.toNat)) ∧ w' = w := by
  have hs := tab_size
  have ha : (65536:Int) ≤ x := by omega
  have hb : (256:Int) ≤ x / 65536 := by omega
  go_enter Try.func71, Try.ntmps71
  go_wp2
  go_ret
  refine ⟨congrArg Ending.returned (congrArg (Value.int IntKind.i64) ?_), rfl⟩
  have e : (x / 65536 / 256).toNat = x.toNat / 16777216 := by omega
  have l := bl8 (x.toNat / 16777216) (by omega)
  have s := Lib.bitLen_shift24 x.toNat (by omega) (by omega)
  rw [tab_at, e]
  rw [wr_small ((Lib.bitLen (x.toNat / 16777216) : Nat) : Int) (by omega) (by omega)]
  rw [wr_small _ (by omega) (by omega)]
  omega

/-- math/bits.Len32. -/
theorem len32_any (x : Nat) (w : World) (h1 : x < 4294967296) :
    Calls Try.prog 71 #[.int .u32 (x : Nat)] w fun e w' => e = .returned (.int .i64 (Lib.bitLen x : Nat)) ∧ w' = w := by
  by_cases ha : x < 256
  · exact len32_a x w (by omega) (by omega)
  · by_cases hb : x < 65536
    · exact len32_b x w (by omega) (by omega)
    · by_cases hc : x < 16777216
      · exact len32_c x w (by omega) (by omega)
      · exact len32_d x w (by omega) (by omega)
end Go.Proofs.Ytlecjjcpidjmhaa
