/-
  natural.Mul, out of multiply's contract; slopelaw1.alive.
-/
import Derived.Test.YtlecjjcpidjmhaaMulS
namespace Go.Proofs.Ytlecjjcpidjmhaa
open Go.RowKit Go.Deep
set_option linter.unusedVariables false

theorem bl_pos : ∀ (x : Nat), x ≠ 0 → x < 18446744073709551616 → 1 ≤ Lib.bitLen x := by
  intro x h0 hx
  rw [Lib.bitLen_half x h0 hx]
  omega

theorem bl_ge : ∀ (n x : Nat), x ≤ n → x ≠ 0 → x < 18446744073709551616 → 2 ^ (Lib.bitLen x - 1) ≤ x
  | 0, x, h, h0, _ => by omega
  | n + 1, x, h, h0, hx => by
    by_cases h1 : x / 2 = 0
    · have e : x = 1 := by omega
      subst e
      decide +kernel
    · have ih := bl_ge n (x / 2) (by omega) h1 (by omega)
      have hp := bl_pos (x / 2) h1 (by omega)
      rw [Lib.bitLen_half x h0 hx]
      have e : 1 + Lib.bitLen (x / 2) - 1 = (Lib.bitLen (x / 2) - 1) + 1 := by omega
      rw [e, Nat.pow_succ]
      omega

theorem pow_limb (k : Nat) : (4294967296 : Nat) ^ k = 2 ^ (32 * k) := by
  rw [Nat.pow_mul]

theorem val_ge_bits {xs : List Nat} (ox : Ok xs) (nx : Norm xs) (h0 : xs ≠ []) : 1 ≤ bitsL xs ∧ 2 ^ (bitsL xs - 1) ≤ val xs := by
  have hp : 0 < xs.length := List.length_pos_iff.2 h0
  have ht : xs.getD (xs.length - 1) 0 ≠ 0 := nx.resolve_left h0
  have hb := ox.getD (xs.length - 1)
  have h1 := bl_pos _ ht (by omega)
  have h2 := bl_ge _ _ (Nat.le_refl _) ht (by omega)
  refine ⟨by unfold bitsL; omega, ?_⟩
  rw [val_split xs (xs.length - 1) (by omega), drop_cons (by omega)]
  simp only [val]
  unfold bitsL
  have e : (xs.length - 1) * 32 + Lib.bitLen (xs.getD (xs.length - 1) 0) - 1 = 32 * (xs.length - 1) + (Lib.bitLen (xs.getD (xs.length - 1) 0) - 1) := by omega
  rw [e, Nat.pow_add, ← pow_limb]
  have : 4294967296 ^ (xs.length - 1) * 2 ^ (Lib.bitLen (xs.getD (xs.length - 1) 0) - 1) ≤ 4294967296 ^ (xs.length - 1) * (xs.getD (xs.length - 1) 0 + 4294967296 * val (xs.drop (xs.length - 1 + 1))) := Nat.mul_le_mul_left _ (by omega)
  exact Nat.le_trans this (Nat.le_add_left _ _)

theorem big_of_bits {xs ys : List Nat} (ox : Ok xs) (oy : Ok ys) (nx : Norm xs) (ny : Norm ys) (h1 : xs ≠ []) (h2 : ys ≠ []) (hb : 65536 < bitsL xs + bitsL ys - 1) : 2048 < (limbs (val xs * val ys)).length := by
  obtain ⟨p1, g1⟩ := val_ge_bits ox nx h1
  obtain ⟨p2, g2⟩ := val_ge_bits oy ny h2
  rcases Nat.lt_or_ge 2048 (limbs (val xs * val ys)).length with h | h
  · exact h
  · exfalso
    have hr := limbs_rep (val xs * val ys)
    have hlt := val_lt hr.ok
    rw [hr.val, pow_limb] at hlt
    have h3 : 2 ^ (bitsL xs - 1) * 2 ^ (bitsL ys - 1) ≤ val xs * val ys := Nat.mul_le_mul g1 g2
    rw [← Nat.pow_add] at h3
    have h4 : 2 ^ (32 * (limbs (val xs * val ys)).length) ≤ 2 ^ (bitsL xs - 1 + (bitsL ys - 1)) := Nat.pow_le_pow_right (by decide) (by omega)
    exact absurd (Nat.lt_of_lt_of_le hlt (Nat.le_trans h4 h3)) (Nat.lt_irrefl _)

theorem bitsL_le {xs : List Nat} (ox : Ok xs) (h : xs.length ≤ 2048) : bitsL xs ≤ 100000 := by
  have hb := ox.getD (xs.length - 1)
  have : Lib.bitLen (xs.getD (xs.length - 1) 0) ≤ 64 := Lib.bitLen_le _ 64 (by omega) (by omega)
  unfold bitsL
  omega

def mulL (xs ys : List Nat) : List Nat × Int := if MayL xs && MayL ys then fitL (val xs * val ys) else ([], 20)

set_option maxHeartbeats 4000000 in
/-- natural.Mul, out of multiply. -/
theorem nmul_of (a1 a2 : Option Addr) (n1 c1 n2 c2 : Nat) (xs ys : List Nat) (w : World) (h1 : Sl w a1 n1 c1 xs) (h2 : Sl w a2 n2 c2 ys) (ox : Ok xs) (oy : Ok ys)
    (KMul : MayL xs = true → MayL ys = true → Calls Try.prog 61 #[.slice a1 n1 c1, .slice a2 n2 c2] w fun e w' => NewRep w w' (val xs * val ys) e) :
    Calls Try.prog 48 #[.slice a1 n1 c1, .slice a2 n2 c2] w fun e w' => Res2 w w' (mulL xs ys) e := by
  have K1 := may_any a1 n1 c1 xs w h1
  have K2 := may_any a2 n2 c2 ys w h2
  by_cases m1 : MayL xs = true
  · by_cases m2 : MayL ys = true
    · rw [m1] at K1; rw [m2] at K2
      have K1' := hide K1
      have K2' := hide K2
      have nx := MayL.norm m1
      have ny := MayL.norm m2
      have hl1 : n1 ≤ 2048 := by have := h1.len; have := MayL.len m1; omega
      have hl2 : n2 ≤ 2048 := by have := h2.len; have := MayL.len m2; omega
      have HC := hide (show mulL xs ys = fitL (val xs * val ys) from by simp [mulL, m1, m2])
      have KX := hide (KMul m1 m2)
      by_cases z1 : n1 = 0
      · have t1 : ¬ (0:Int) < (n1:Int) := by omega
        clear K1 K2 m1 m2 h1 h2 ox oy nx ny KMul z1
        go_enter Try.func48, Try.ntmps48
        go_wp2_with fail
        refine (unhide K1').mono ?_
        rintro e w' ⟨rfl, hw⟩
        obtain rfl := hw.symm
        go_wp2_with fail
        refine (unhide K2').mono ?_
        rintro e w' ⟨rfl, hw⟩
        obtain rfl := hw.symm
        go_wp2_with fail
        refine (unhide KX).mono ?_
        rintro e w1 ⟨a', m, zs, rfl, hs, hr, ha, hb⟩
        have K4 := hide (fit_any a' m m _ zs w1 hs hr)
        have HA := hide ha
        have HB := hide hb
        clear hs hr ha hb KX
        go_wp2_with fail
        refine (unhide K4).mono ?_
        rintro e w2 ⟨a2', m2, c2', rfl, hs2, ha2, rfl⟩
        go_wp2
        go_ret2
        rw [unhide HC]
        refine ⟨a2', m2, c2', rfl, hs2, ?_, unhide HB⟩
        rcases ha2 with rfl | rfl
        · exact unhide HA
        · exact newAt_nil _
      · have t1 : (0:Int) < (n1:Int) := by omega
        by_cases z2 : n2 = 0
        · have t2 : ¬ (0:Int) < (n2:Int) := by omega
          clear K1 K2 m1 m2 h1 h2 ox oy nx ny KMul z1 z2
          go_enter Try.func48, Try.ntmps48
          go_wp2_with fail
          refine (unhide K1').mono ?_
          rintro e w' ⟨rfl, hw⟩
          obtain rfl := hw.symm
          go_wp2_with fail
          refine (unhide K2').mono ?_
          rintro e w' ⟨rfl, hw⟩
          obtain rfl := hw.symm
          go_wp2_with fail
          refine (unhide KX).mono ?_
          rintro e w1 ⟨a', m, zs, rfl, hs, hr, ha, hb⟩
          have K4 := hide (fit_any a' m m _ zs w1 hs hr)
          have HA := hide ha
          have HB := hide hb
          clear hs hr ha hb KX
          go_wp2_with fail
          refine (unhide K4).mono ?_
          rintro e w2 ⟨a2', m2, c2', rfl, hs2, ha2, rfl⟩
          go_wp2
          go_ret2
          rw [unhide HC]
          refine ⟨a2', m2, c2', rfl, hs2, ?_, unhide HB⟩
          rcases ha2 with rfl | rfl
          · exact unhide HA
          · exact newAt_nil _
        · have t2 : (0:Int) < (n2:Int) := by omega
          have e1 : xs ≠ [] := by intro e; have := h1.len; rw [e] at this; simp at this; omega
          have e2 : ys ≠ [] := by intro e; have := h2.len; rw [e] at this; simp at this; omega
          have KB1 := hide (bitLen_any a1 n1 c1 xs w h1 ox e1 (by omega))
          have KB2 := hide (bitLen_any a2 n2 c2 ys w h2 oy e2 (by omega))
          have hg1 : bitsL xs ≤ 100000 := bitsL_le ox (by rw [h1.len]; omega)
          have hg2 : bitsL ys ≤ 100000 := bitsL_le oy (by rw [h2.len]; omega)
          by_cases big : 65536 < bitsL xs + bitsL ys - 1
          · have hbig := fitL_big (big_of_bits ox oy nx ny e1 e2 big)
            rw [hbig] at HC
            have t3 : (65536:Int) < ((bitsL xs : Nat) : Int) + ((bitsL ys : Nat) : Int) - 1 := by omega
            generalize bitsL xs = u1 at *
            generalize bitsL ys = u2 at *
            clear K1 K2 m1 m2 h1 h2 ox oy nx ny KMul z1 z2 e1 e2 hbig big
            go_enter Try.func48, Try.ntmps48
            go_wp2_with fail
            refine (unhide K1').mono ?_
            rintro e w' ⟨rfl, hw⟩
            obtain rfl := hw.symm
            go_wp2_with fail
            refine (unhide K2').mono ?_
            rintro e w' ⟨rfl, hw⟩
            obtain rfl := hw.symm
            go_wp2_with fail
            refine (unhide KB1).mono ?_
            rintro e w' ⟨rfl, hw⟩
            obtain rfl := hw.symm
            go_wp2_with fail
            refine (unhide KB2).mono ?_
            rintro e w' ⟨rfl, hw⟩
            obtain rfl := hw.symm
            go_wp2
            go_ret2
            rw [unhide HC]
            exact ⟨none, 0, 0, rfl, sl_nil _, newAt_nil _, Below.refl _ _⟩
          · have t3 : ¬ (65536:Int) < ((bitsL xs : Nat) : Int) + ((bitsL ys : Nat) : Int) - 1 := by omega
            generalize bitsL xs = u1 at *
            generalize bitsL ys = u2 at *
            clear K1 K2 m1 m2 h1 h2 ox oy nx ny KMul z1 z2 e1 e2 big
            go_enter Try.func48, Try.ntmps48
            go_wp2_with fail
            refine (unhide K1').mono ?_
            rintro e w' ⟨rfl, hw⟩
            obtain rfl := hw.symm
            go_wp2_with fail
            refine (unhide K2').mono ?_
            rintro e w' ⟨rfl, hw⟩
            obtain rfl := hw.symm
            go_wp2_with fail
            refine (unhide KB1).mono ?_
            rintro e w' ⟨rfl, hw⟩
            obtain rfl := hw.symm
            go_wp2_with fail
            refine (unhide KB2).mono ?_
            rintro e w' ⟨rfl, hw⟩
            obtain rfl := hw.symm
            go_wp2_with fail
            refine (unhide KX).mono ?_
            rintro e w1 ⟨a', m, zs, rfl, hs, hr, ha, hb⟩
            have K4 := hide (fit_any a' m m _ zs w1 hs hr)
            have HA := hide ha
            have HB := hide hb
            clear hs hr ha hb KX
            go_wp2_with fail
            refine (unhide K4).mono ?_
            rintro e w2 ⟨a2', m2, c2', rfl, hs2, ha2, rfl⟩
            go_wp2
            go_ret2
            rw [unhide HC]
            refine ⟨a2', m2, c2', rfl, hs2, ?_, unhide HB⟩
            rcases ha2 with rfl | rfl
            · exact unhide HA
            · exact newAt_nil _
    · have m2' : MayL ys = false := by simpa using m2
      rw [m1] at K1; rw [m2'] at K2
      have K1' := hide K1
      have K2' := hide K2
      have HC := hide (show mulL xs ys = ([], 20) from by simp [mulL, m2'])
      clear K1 K2 m1 m2 m2' h1 h2 ox oy
      go_enter Try.func48, Try.ntmps48
      go_wp2_with fail
      refine (unhide K1').mono ?_
      rintro e w' ⟨rfl, hw⟩
      obtain rfl := hw.symm
      go_wp2_with fail
      refine (unhide K2').mono ?_
      rintro e w' ⟨rfl, hw⟩
      obtain rfl := hw.symm
      go_wp2
      go_ret2
      rw [unhide HC]
      exact ⟨none, 0, 0, rfl, sl_nil _, newAt_nil _, Below.refl _ _⟩
  · have m1' : MayL xs = false := by simpa using m1
    rw [m1'] at K1
    have K1' := hide K1
    have HC := hide (show mulL xs ys = ([], 20) from by simp [mulL, m1'])
    clear K1 K2 m1 m1' h1 h2 ox oy
    go_enter Try.func48, Try.ntmps48
    go_wp2_with fail
    refine (unhide K1').mono ?_
    rintro e w' ⟨rfl, hw⟩
    obtain rfl := hw.symm
    go_wp2
    go_ret2
    rw [unhide HC]
    exact ⟨none, 0, 0, rfl, sl_nil _, newAt_nil _, Below.refl _ _⟩

theorem nmul_small (a1 a2 : Option Addr) (n1 c1 n2 c2 : Nat) (xs ys : List Nat) (w : World) (h1 : Sl w a1 n1 c1 xs) (h2 : Sl w a2 n2 c2 ys) (ox : Ok xs) (oy : Ok ys) (hs : n1 < 48 ∨ n2 < 48) (hb : n1 + n2 ≤ 70368744177000) :
    Calls Try.prog 48 #[.slice a1 n1 c1, .slice a2 n2 c2] w fun e w' => Res2 w w' (mulL xs ys) e :=
  nmul_of a1 a2 n1 c1 n2 c2 xs ys w h1 h2 ox oy (fun _ _ => multiply_of a1 a2 n1 c1 n2 c2 xs ys w h1 h2 ox oy hb (fun w bz oz nz cz h => into_small h hs))
end Go.Proofs.Ytlecjjcpidjmhaa
