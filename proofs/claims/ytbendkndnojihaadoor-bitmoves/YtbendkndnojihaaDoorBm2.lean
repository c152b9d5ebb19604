/-
  bitset.wordAt, window: contracts.
-/
import Derived.Test.YtbendkndnojihaaDoorBm1
import Derived.Test.YtbendkndnojihaaDoorBza
namespace Go.Proofs.YtbendkndnojihaaDoor
open Go.RowKit Go.Deep
set_option linter.unusedVariables false

/-- Word i; beyond both ends 0. -/
def wAt (xs : List Nat) (i : Int) : Nat := if 0 ≤ i then gW xs i.toNat else 0
theorem wAt_lt {xs : List Nat} (h : OkW xs) (i : Int) : wAt xs i < 18446744073709551616 := by
  unfold wAt
  split
  · exact gW_ok h _
  · decide
theorem wordAt_any (a : Option Addr) (n c : Nat) (xs : List Nat) (i : Int) (w : World) (h : SlW w a n c xs) (hi : -1000000 ≤ i) (hi2 : i ≤ 1000000) :
    Calls Tryd.prog 70 #[.slice a n c, .int .i64 i] w fun r w' => r = .returned (.int .u64 (wAt xs i : Nat)) ∧ w' = w := by
  have hle := h.le
  have hcap := h.cap
  unfold maxLen at hcap
  have hl := h.len
  by_cases h0 : i < 0
  · have e0 : wAt xs i = 0 := by unfold wAt; rw [if_neg (by omega)]
    rw [e0]
    clear h
    go_enter Tryd.func70, Tryd.ntmps70
    go_wp2_with fail
    go_ret
    exact ⟨rfl, rfl⟩
  · obtain ⟨k, rfl⟩ : ∃ k : Nat, i = (k : Int) := ⟨i.toNat, by omega⟩
    by_cases h1 : k < n
    · have h1' : (k : Int) < (n : Int) := by omega
      have h2' : ¬ (n : Int) ≤ (k : Int) := by omega
      have e0 : wAt xs (k : Int) = gW xs k := by unfold wAt; rw [if_pos (by omega), Int.toNat_natCast]
      rw [e0]
      obtain ⟨b, off, rfl, hc⟩ := h.at (by omega)
      have g : w.cell? ⟨b, off + k, none⟩ = some (vU (gW xs k)) := hc k h1
      unfold vU at g
      generalize gW xs k = x at *
      clear h hc
      go_enter Tryd.func70, Tryd.ntmps70
      go_wp2_with fail
      go_ret
      exact ⟨rfl, rfl⟩
    · have h2' : (n : Int) ≤ (k : Int) := by omega
      have e0 : wAt xs (k : Int) = 0 := by
        unfold wAt
        rw [if_pos (by omega), Int.toNat_natCast]
        unfold gW
        simp [List.getD, show ¬ k < xs.length from by omega]
      rw [e0]
      clear h
      go_enter Tryd.func70, Tryd.ntmps70
      go_wp2_with fail
      go_ret
      exact ⟨rfl, rfl⟩
/-- The bits from p on; below 0 and beyond the end there are none. -/
def pZ (xs : List Nat) (p : Int) : Bool := decide (0 ≤ p) && hasB (gW xs) p.toNat
theorem win_bits {xs : List Nat} (hok : OkW xs) (q : Int) (r : Nat) (hr : r < 64) : ∃ y : Nat, y < 18446744073709551616 ∧ (∀ j, j < 64 → y.testBit j = pZ xs (64 * q + r + j)) ∧
    y = (wAt xs q / 2 ^ r) ||| (wAt xs (q + 1) * 2 ^ (64 - r) % 18446744073709551616) := by
  refine ⟨_, ?_, ?_, rfl⟩
  · exact or_lt64 (Nat.lt_of_le_of_lt (Nat.div_le_self _ _) (wAt_lt hok q)) (Nat.mod_lt _ (by decide))
  · intro j hj
    have e64 : (18446744073709551616 : Nat) = 2 ^ 64 := by decide
    rw [Nat.testBit_or, Nat.testBit_div_two_pow, e64, Nat.testBit_mod_two_pow, Nat.testBit_mul_two_pow]
    have key : ∀ (i : Int) (k : Nat), k < 64 → (wAt xs i).testBit k = pZ xs (64 * i + k) := by
      intro i k hk
      unfold wAt pZ
      by_cases h0 : 0 ≤ i
      · obtain ⟨m, rfl⟩ : ∃ m : Nat, i = (m : Int) := ⟨i.toNat, by omega⟩
        rw [if_pos h0, decide_eq_true (by omega), Int.toNat_natCast, show (64 * (m : Int) + (k : Int)).toNat = 64 * m + k from by omega, hasB_word _ _ _ hk, Bool.true_and]
      · rw [if_neg h0, decide_eq_false (by omega)]
        simp
    by_cases c : r + j < 64
    · rw [show j + r = r + j from by omega, key q (r + j) c, show decide (j ≥ 64 - r) = false from by simp; omega]
      simp only [Bool.false_and, Bool.and_false, Bool.or_false]
      rw [show 64 * q + ((r + j : Nat) : Int) = 64 * q + r + j from by omega]
    · rw [tb_big (wAt_lt hok q) (by omega), show decide (j ≥ 64 - r) = true from by simp; omega, key (q + 1) (j - (64 - r)) (by omega)]
      simp only [hj, decide_true, Bool.true_and, Bool.false_or]
      rw [show 64 * (q + 1) + ((j - (64 - r) : Nat) : Int) = 64 * q + r + j from by omega]
def WinP (xs : List Nat) (p : Int) (w : World) (e : Ending) (w' : World) : Prop := ∃ y : Nat, e = .returned (.int .u64 (y : Nat)) ∧ y < 18446744073709551616 ∧ (∀ j, j < 64 → y.testBit j = pZ xs (p + j)) ∧ ∃ d, w' = w.drewN d
set_option maxHeartbeats 4000000 in
/-- bitset.window. -/
theorem window_any (a : Option Addr) (n c : Nat) (xs : List Nat) (p : Int) (w : World) (h : SlW w a n c xs) (hok : OkW xs) (hp : -100000 ≤ p) (hp2 : p ≤ 100000) :
    Calls Tryd.prog 55 #[.slice a n c, .int .i64 p] w fun e w' => WinP xs p w e w' := by
  obtain ⟨r, hr⟩ : ∃ r : Nat, p % 64 = (r : Int) := ⟨(p % 64).toNat, by omega⟩
  obtain ⟨q, hq⟩ : ∃ q : Int, p / 64 = q := ⟨_, rfl⟩
  have hr64 : r < 64 := by omega
  have hpq : 64 * q + r = p := by omega
  obtain ⟨y, hy1, hy2, hy3⟩ := win_bits hok q r hr64
  have ha := i64_and63 p
  rw [hr] at ha
  have l1 := wAt_lt hok q
  have l2 := wAt_lt hok (q + 1)
  have HK := hide (fun (d : Nat) (i : Int) (h1 : -1000000 ≤ i) (h2 : i ≤ 1000000) => wordAt_any a n c xs i (w.drewN d) (h.drewN d) h1 h2)
  have HE := hide (And.intro hy1 (show ∀ j : Nat, j < 64 → y.testBit j = pZ xs (p + j) by rw [← hpq]; exact hy2))
  have hq1 : -1000000 ≤ q := by omega
  have hq2 : q ≤ 100000 := by omega
  have HK1 := hide (fun d => unhide HK d q (by omega) (by omega))
  have HK2 := hide (fun d => unhide HK d (q + 1) (by omega) (by omega))
  have hy0 := u64_or_nat (wAt xs q / 2 ^ r) (wAt xs (q + 1) * 2 ^ (64 - r) % 18446744073709551616) (Nat.lt_of_le_of_lt (Nat.div_le_self _ _) l1) (Nat.mod_lt _ (by decide))
  rw [← hy3] at hy0
  obtain ⟨t, ht⟩ : ∃ t, 64 - r = t := ⟨_, rfl⟩
  have hsub : (64 : Int) - (r : Int) = (t : Int) := by omega
  have ht64 : t ≤ 64 := by omega
  have ht0 : 0 < t := by omega
  rw [ht] at hy0
  obtain ⟨q1, hqq⟩ : ∃ q1, q + 1 = q1 := ⟨_, rfl⟩
  rw [hqq] at l2 HK2 hy0
  generalize wAt xs q = u at *
  generalize wAt xs q1 = v at *
  have HY0 := hide hy0
  clear h hr hpq hy1 hy2 hy3 HK ht hy0
  go_enter Tryd.func55, Tryd.ntmps55
  go_wp2_with fail
  go_quiet ((first | (go_at_call_of 70 (Value.int .i64 q1); exact Calls.quiet_of_same (unhide HK2 _)) | (go_at_call 70; exact Calls.quiet_of_same (unhide HK1 _))))
  go_wp2_with fail
  go_ret
  refine ⟨y, ?_, (unhide HE).1, (unhide HE).2, _, rfl⟩
  show Ending.returned (Value.int IntKind.u64 (bits BinOp.or IntKind.u64 ((u : Int) / 2 ^ r) (IntKind.u64.wrap ((v : Int) * 2 ^ t)))) = _
  rw [← unhide HY0, IntKind.wrap_u64]
  simp only [Int.natCast_ediv, Int.natCast_emod, Int.natCast_mul, Int.natCast_pow]
  rfl
end Go.Proofs.YtbendkndnojihaaDoor
