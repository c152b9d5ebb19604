/-
  math/bits.TrailingZeros64, Len64: contracts.
-/
import Derived.Test.YtbendkndnojihabDoorBz1
import Derived.Test.YtbendkndnojihabDoorBn2
import Derived.Lib.BitFns
namespace Go.Proofs.YtbendkndnojihabDoor
open Go.RowKit Go.Deep
set_option linter.unusedVariables false

def tab64 : List Int := [0, 1, 56, 2, 57, 49, 28, 3, 61, 58, 42, 50, 38, 29, 17, 4, 62, 47, 59, 36, 45, 43, 51, 22, 53, 39, 33, 30, 24, 18, 12, 5, 63, 55, 48, 27, 60, 41, 37, 16, 46, 35, 44, 21, 52, 32, 23, 11, 54, 26, 40, 15, 34, 20, 31, 10, 25, 14, 19, 9, 13, 8, 7, 6]
/-- The table of math/bits lies as its initialiser lays it. -/
def Tab64 (w : World) : Prop := ∀ i : Nat, i < 64 → w.cell? ⟨0, i, none⟩ = some (.int .u8 (tab64.getD i 0))
theorem Tab64.below {w w' : World} (h : Tab64 w) (k : Below w.heap.size w w') : Tab64 w' := by
  intro i hi
  have h1 := h i hi
  rw [k.cell (World.block_lt_of_cell? _ _ h1)]
  exact h1
theorem tz_index64 : ∀ k : Fin 64, tab64.getD (2 ^ k.val * 285870213051353865 % 18446744073709551616 / 288230376151711744) 0 = (k.val : Int) ∧ 2 ^ k.val * 285870213051353865 % 18446744073709551616 / 288230376151711744 < 64 := by decide +kernel
theorem neg_nat64 {x : Nat} (h0 : 0 < x) (hx : x < 18446744073709551616) : ∃ nx : Nat, nx < 18446744073709551616 ∧ x + nx = 18446744073709551616 ∧ (-(x:Int)) % 18446744073709551616 = (nx : Int) := ⟨18446744073709551616 - x, by omega, by omega, by omega⟩
theorem tz_facts64 {x : Nat} (h0 : 0 < x) (hx : x < 18446744073709551616) : ∃ nx P ix : Nat, (-(x:Int)) % 18446744073709551616 = (nx : Int) ∧ nx < 18446744073709551616 ∧ P < 18446744073709551616 ∧ bits .and .u64 (x : Int) (nx : Int) = (P : Int) ∧ ix < 64 ∧ (P : Int) * 285870213051353865 % 18446744073709551616 / 288230376151711744 = (ix : Int) ∧ tab64.getD ix 0 = ((tz64 x : Nat) : Int) ∧ tz64 x < 64 := by
  obtain ⟨nx, n1, n2, n3⟩ := neg_nat64 h0 hx
  have hx' : x < 2 ^ 64 := by rw [p64]; exact hx
  have hl := tz_lt 64 x h0 hx'
  have ha := tz_and 64 x h0 hx'
  have e : 2 ^ 64 - x = nx := by rw [p64]; omega
  rw [e] at ha
  have e1 := u64_and_nat x nx hx n1
  rw [ha] at e1
  have hi := tz_index64 ⟨tzA 64 x, hl⟩
  have hPb : 2 ^ tzA 64 x < 2 ^ 64 := Nat.pow_lt_pow_right (by decide) hl
  rw [p64] at hPb
  refine ⟨nx, 2 ^ tzA 64 x, _, n3, n1, hPb, e1, hi.2, ?_, hi.1, hl⟩
  simp only [Int.natCast_ediv, Int.natCast_emod, Int.natCast_mul]
  rfl

set_option maxHeartbeats 4000000 in
theorem tz64_any (x : Nat) (w : World) (h0 : 0 < x) (hx : x < 18446744073709551616) (hT : Tab64 w) :
    Calls Tryd.prog 73 #[.int .u64 (x : Nat)] w fun e w' => e = .returned (.int .i64 (tz64 x : Nat)) ∧ w' = w := by
  obtain ⟨nx, P, ix, e0, hnx, hPb, e1, hi2, e2, e3, hl⟩ := tz_facts64 h0 hx
  have c1 := hT ix hi2
  rw [e3] at c1
  clear e3 hT
  have t1 : ((x:Int) == 0) = false := by simp; omega
  have t2 : ¬ (x:Int) = 0 := by omega
  generalize tz64 x = t at *
  have w0 : IntKind.u64.wrap (-(x:Int)) = (nx:Int) := by rw [IntKind.wrap_u64]; exact e0
  have w1 : IntKind.u64.wrap ((P:Int) * 285870213051353865) / 288230376151711744 = (ix:Int) := by rw [IntKind.wrap_u64]; exact e2
  have w2 : IntKind.u64.wrap ((P:Int) * 285870213051353865) = (P:Int) * 285870213051353865 % 18446744073709551616 := IntKind.wrap_u64 _
  clear e0 w1
  generalize hy : (P:Int) * 285870213051353865 % 18446744073709551616 = yy at *
  go_enter Tryd.func73, Tryd.ntmps73
  go_wp2
  go_ret
  exact ⟨rfl, rfl⟩

theorem tab_size : Lib.len8tab.size = 256 := by decide +kernel
theorem tab_all : ∀ n : Fin 256, (Lib.len8tab[n.val]'(by rw [tab_size]; exact n.isLt)).toNat = Lib.bitLen n.val := by decide +kernel
theorem tab_at (n : Nat) (h : n < Lib.len8tab.size) : (Lib.len8tab[n]'h).toNat = Lib.bitLen n := tab_all ⟨n, by rw [tab_size] at h; exact h⟩
theorem bl8 (n : Nat) (h : n < 256) : Lib.bitLen n ≤ 8 := Lib.bitLen_le8 ⟨n, h⟩
theorem wr_small (n : Int) (h0 : 0 ≤ n) (h1 : n ≤ 100) : wrap64 n = n := by unfold wrap64; omega

set_option maxHeartbeats 4000000 in
set_option maxRecDepth 100000 in
theorem len64_0 (x : Int) (w : World) (h0 : 0 ≤ x) (h1 : x < 256) :
    Calls Tryd.prog 90 #[.int .u64 x] w fun e w' => e = .returned (.int .i64 (Lib.bitLen x.toNat)) ∧ w' = w := by
  have hs := tab_size
  have hc : ¬ (4294967296:Int) ≤ x := by omega
  have ha : ¬ (65536:Int) ≤ x := by omega
  have hb : ¬ (256:Int) ≤ x := by omega
  go_enter Tryd.func90, Tryd.ntmps90
  go_wp2
  go_ret
  refine ⟨congrArg Ending.returned (congrArg (Value.int IntKind.i64) ?_), rfl⟩
  rw [tab_at]
  have l := bl8 x.toNat (by omega)
  rw [wr_small ((Lib.bitLen x.toNat : Nat) : Int) (by omega) (by omega)]
  rw [wr_small ((Lib.bitLen x.toNat : Nat) : Int) (by omega) (by omega)]

set_option maxHeartbeats 4000000 in
set_option maxRecDepth 100000 in
theorem len64_1 (x : Int) (w : World) (h0 : 256 ≤ x) (h1 : x < 65536) :
    Calls Tryd.prog 90 #[.int .u64 x] w fun e w' => e = .returned (.int .i64 (Lib.bitLen x.toNat)) ∧ w' = w := by
  have hs := tab_size
  have hc : ¬ (4294967296:Int) ≤ x := by omega
  have ha : ¬ (65536:Int) ≤ x := by omega
  have hb : (256:Int) ≤ x := by omega
  go_enter Tryd.func90, Tryd.ntmps90
  go_wp2
  go_ret
  refine ⟨congrArg Ending.returned (congrArg (Value.int IntKind.i64) ?_), rfl⟩
  have e : (x / 256).toNat = x.toNat / 256 := by omega
  have l := bl8 (x.toNat / 256) (by omega)
  have s := Lib.bitLen_shift8 x.toNat (by omega) (by omega)
  rw [tab_at, e]
  rw [wr_small ((Lib.bitLen (x.toNat / 256) : Nat) : Int) (by omega) (by omega)]
  rw [wr_small _ (by omega) (by omega)]
  omega

set_option maxHeartbeats 4000000 in
set_option maxRecDepth 100000 in
theorem len64_2 (x : Int) (w : World) (h0 : 65536 ≤ x) (h1 : x < 16777216) :
    Calls Tryd.prog 90 #[.int .u64 x] w fun e w' => e = .returned (.int .i64 (Lib.bitLen x.toNat)) ∧ w' = w := by
  have hs := tab_size
  have hc : ¬ (4294967296:Int) ≤ x := by omega
  have ha : (65536:Int) ≤ x := by omega
  have hb : ¬ (256:Int) ≤ x / 65536 := by omega
  go_enter Tryd.func90, Tryd.ntmps90
  go_wp2
  go_ret
  refine ⟨congrArg Ending.returned (congrArg (Value.int IntKind.i64) ?_), rfl⟩
  have e : (x / 65536).toNat = x.toNat / 65536 := by omega
  have l := bl8 (x.toNat / 65536) (by omega)
  have s := Lib.bitLen_shift16 x.toNat (by omega) (by omega)
  rw [tab_at, e]
  rw [wr_small ((Lib.bitLen (x.toNat / 65536) : Nat) : Int) (by omega) (by omega)]
  rw [wr_small _ (by omega) (by omega)]
  omega

set_option maxHeartbeats 4000000 in
set_option maxRecDepth 100000 in
theorem len64_3 (x : Int) (w : World) (h0 : 16777216 ≤ x) (h1 : x < 4294967296) :
    Calls Tryd.prog 90 #[.int .u64 x] w fun e w' => e = .returned (.int .i64 (Lib.bitLen x.toNat)) ∧ w' = w := by
  have hs := tab_size
  have hc : ¬ (4294967296:Int) ≤ x := by omega
  have ha : (65536:Int) ≤ x := by omega
  have hb : (256:Int) ≤ x / 65536 := by omega
  go_enter Tryd.func90, Tryd.ntmps90
  go_wp2
  go_ret
  refine ⟨congrArg Ending.returned (congrArg (Value.int IntKind.i64) ?_), rfl⟩
  have e : (x / 65536 / 256).toNat = x.toNat / 16777216 := by omega
  have l := bl8 (x.toNat / 16777216) (by omega)
  have s := Lib.bitLen_shift24 x.toNat (by omega) (by omega)
  rw [tab_at, e]
  rw [wr_small ((Lib.bitLen (x.toNat / 16777216) : Nat) : Int) (by omega) (by omega)]
  rw [wr_small _ (by omega) (by omega)]
  omega

set_option maxHeartbeats 4000000 in
set_option maxRecDepth 100000 in
theorem len64_4 (x : Int) (w : World) (h0 : 4294967296 ≤ x) (h1 : x < 1099511627776) :
    Calls Tryd.prog 90 #[.int .u64 x] w fun e w' => e = .returned (.int .i64 (Lib.bitLen x.toNat)) ∧ w' = w := by
  have hs := tab_size
  have hc : (4294967296:Int) ≤ x := by omega
  have ha : ¬ (65536:Int) ≤ x / 4294967296 := by omega
  have hb : ¬ (256:Int) ≤ x / 4294967296 := by omega
  go_enter Tryd.func90, Tryd.ntmps90
  go_wp2
  go_ret
  refine ⟨congrArg Ending.returned (congrArg (Value.int IntKind.i64) ?_), rfl⟩
  have e : (x / 4294967296).toNat = x.toNat / 4294967296 := by omega
  have l := bl8 (x.toNat / 4294967296) (by omega)
  have s := Lib.bitLen_shift32 x.toNat (by omega) (by omega)
  rw [tab_at, e]
  rw [wr_small ((Lib.bitLen (x.toNat / 4294967296) : Nat) : Int) (by omega) (by omega)]
  rw [wr_small _ (by omega) (by omega)]
  omega

set_option maxHeartbeats 4000000 in
set_option maxRecDepth 100000 in
theorem len64_5 (x : Int) (w : World) (h0 : 1099511627776 ≤ x) (h1 : x < 281474976710656) :
    Calls Tryd.prog 90 #[.int .u64 x] w fun e w' => e = .returned (.int .i64 (Lib.bitLen x.toNat)) ∧ w' = w := by
  have hs := tab_size
  have hc : (4294967296:Int) ≤ x := by omega
  have ha : ¬ (65536:Int) ≤ x / 4294967296 := by omega
  have hb : (256:Int) ≤ x / 4294967296 := by omega
  go_enter Tryd.func90, Tryd.ntmps90
  go_wp2
  go_ret
  refine ⟨congrArg Ending.returned (congrArg (Value.int IntKind.i64) ?_), rfl⟩
  have e : (x / 4294967296 / 256).toNat = x.toNat / 1099511627776 := by omega
  have l := bl8 (x.toNat / 1099511627776) (by omega)
  have s := Lib.bitLen_shift40 x.toNat (by omega) (by omega)
  rw [tab_at, e]
  rw [wr_small ((Lib.bitLen (x.toNat / 1099511627776) : Nat) : Int) (by omega) (by omega)]
  rw [wr_small _ (by omega) (by omega)]
  omega

set_option maxHeartbeats 4000000 in
set_option maxRecDepth 100000 in
theorem len64_6 (x : Int) (w : World) (h0 : 281474976710656 ≤ x) (h1 : x < 72057594037927936) :
    Calls Tryd.prog 90 #[.int .u64 x] w fun e w' => e = .returned (.int .i64 (Lib.bitLen x.toNat)) ∧ w' = w := by
  have hs := tab_size
  have hc : (4294967296:Int) ≤ x := by omega
  have ha : (65536:Int) ≤ x / 4294967296 := by omega
  have hb : ¬ (256:Int) ≤ x / 4294967296 / 65536 := by omega
  go_enter Tryd.func90, Tryd.ntmps90
  go_wp2
  go_ret
  refine ⟨congrArg Ending.returned (congrArg (Value.int IntKind.i64) ?_), rfl⟩
  have e : (x / 4294967296 / 65536).toNat = x.toNat / 281474976710656 := by omega
  have l := bl8 (x.toNat / 281474976710656) (by omega)
  have s := Lib.bitLen_shift48 x.toNat (by omega) (by omega)
  rw [tab_at, e]
  rw [wr_small ((Lib.bitLen (x.toNat / 281474976710656) : Nat) : Int) (by omega) (by omega)]
  rw [wr_small _ (by omega) (by omega)]
  omega

set_option maxHeartbeats 4000000 in
set_option maxRecDepth 100000 in
theorem len64_7 (x : Int) (w : World) (h0 : 72057594037927936 ≤ x) (h1 : x < 18446744073709551616) :
    Calls Tryd.prog 90 #[.int .u64 x] w fun e w' => e = .returned (.int .i64 (Lib.bitLen x.toNat)) ∧ w' = w := by
  have hs := tab_size
  have hc : (4294967296:Int) ≤ x := by omega
  have ha : (65536:Int) ≤ x / 4294967296 := by omega
  have hb : (256:Int) ≤ x / 4294967296 / 65536 := by omega
  go_enter Tryd.func90, Tryd.ntmps90
  go_wp2
  go_ret
  refine ⟨congrArg Ending.returned (congrArg (Value.int IntKind.i64) ?_), rfl⟩
  have e : (x / 4294967296 / 65536 / 256).toNat = x.toNat / 72057594037927936 := by omega
  have l := bl8 (x.toNat / 72057594037927936) (by omega)
  have s := Lib.bitLen_shift56 x.toNat (by omega) (by omega)
  rw [tab_at, e]
  rw [wr_small ((Lib.bitLen (x.toNat / 72057594037927936) : Nat) : Int) (by omega) (by omega)]
  rw [wr_small _ (by omega) (by omega)]
  omega

/-- math/bits.Len64. -/
theorem len64_any (x : Nat) (w : World) (h : x < 18446744073709551616) :
    Calls Tryd.prog 90 #[.int .u64 (x : Nat)] w fun e w' => e = .returned (.int .i64 (Lib.bitLen x : Nat)) ∧ w' = w := by
  by_cases h0 : x < 256
  · exact len64_0 (x : Int) w (by omega) (by omega)
  by_cases h1 : x < 65536
  · exact len64_1 (x : Int) w (by omega) (by omega)
  by_cases h2 : x < 16777216
  · exact len64_2 (x : Int) w (by omega) (by omega)
  by_cases h3 : x < 4294967296
  · exact len64_3 (x : Int) w (by omega) (by omega)
  by_cases h4 : x < 1099511627776
  · exact len64_4 (x : Int) w (by omega) (by omega)
  by_cases h5 : x < 281474976710656
  · exact len64_5 (x : Int) w (by omega) (by omega)
  by_cases h6 : x < 72057594037927936
  · exact len64_6 (x : Int) w (by omega) (by omega)
  exact len64_7 (x : Int) w (by omega) (by omega)

theorem bl_bounds : ∀ (n x : Nat), x ≤ n → 0 < x → x < 18446744073709551616 → 1 ≤ Lib.bitLen x ∧ 2 ^ (Lib.bitLen x - 1) ≤ x ∧ x < 2 ^ Lib.bitLen x
  | 0, x, h, h0, hx => by omega
  | n + 1, x, h, h0, hx => by
    by_cases h1 : x = 1
    · subst h1; decide +kernel
    · have ih := bl_bounds n (x / 2) (by omega) (by omega) (by omega)
      rw [Lib.bitLen_half x (by omega) hx, Nat.add_comm 1]
      obtain ⟨a, b, c⟩ := ih
      refine ⟨by omega, ?_, ?_⟩
      · rw [Nat.add_sub_cancel]
        obtain ⟨m, hm⟩ : ∃ m, Lib.bitLen (x / 2) = m + 1 := ⟨Lib.bitLen (x / 2) - 1, by omega⟩
        rw [hm] at b ⊢
        rw [Nat.add_sub_cancel] at b
        rw [Nat.pow_succ]
        omega
      · rw [Nat.pow_succ]; omega
/-- The highest bit's place. -/
def top64 (x : Nat) : Nat := Lib.bitLen x - 1
theorem top64_len {x : Nat} (h0 : 0 < x) (hx : x < 18446744073709551616) : Lib.bitLen x = top64 x + 1 ∧ top64 x < 64 := by
  have h := bl_bounds x x (Nat.le_refl _) h0 hx
  have l : Lib.bitLen x ≤ 64 := Lib.bitLen_le x 64 (Nat.le_refl _) (by rw [p64]; exact hx)
  unfold top64
  omega
theorem top64_tb {x : Nat} (h0 : 0 < x) (hx : x < 18446744073709551616) : x.testBit (top64 x) = true ∧ ∀ j, top64 x < j → x.testBit j = false := by
  obtain ⟨h1, h2, h3⟩ := bl_bounds x x (Nat.le_refl _) h0 hx
  have hl := (top64_len h0 hx).1
  rw [hl] at h2 h3
  rw [Nat.add_sub_cancel] at h2
  generalize top64 x = t at *
  constructor
  · obtain ⟨y, rfl⟩ : ∃ y, x = 2 ^ t + y := ⟨x - 2 ^ t, by omega⟩
    rw [Nat.testBit_two_pow_add_eq, Nat.testBit_lt_two_pow (by rw [Nat.pow_succ] at h3; omega)]
    rfl
  · intro j hj
    exact Nat.testBit_lt_two_pow (Nat.lt_of_lt_of_le h3 (Nat.pow_le_pow_right (by decide) hj))
end Go.Proofs.YtbendkndnojihabDoor
