/-
  natural.Pow, sloperef1.Pow: contracts.
-/
import Derived.Test.YtpnhmaenmmelnaaDoorPw1
import Derived.Test.YtpnhmaenmmelnaaDoorRMul
import Derived.Test.YtpnhmaenmmelnaaDoorFrom
namespace Go.Proofs.YtpnhmaenmmelnaaDoor
open Go.RowKit Go.Deep
set_option linter.unusedVariables false

def powL (xs : List Nat) (k : Int) : List Nat × Int := if MayL xs then (if k < 0 ∨ 1024 < k then ([], 1) else fitL (val xs ^ k.toNat)) else ([], 20)

theorem big_len {v E : Nat} (hE : 65536 ≤ E) (h : 2 ^ E ≤ v) : 2048 < (limbs v).length := by
  rcases Nat.lt_or_ge 2048 (limbs v).length with k | k
  · exact k
  · exfalso
    have h1 := val_lt (limbs_rep v).ok
    rw [(limbs_rep v).val, pow_limb] at h1
    have := (Nat.pow_lt_pow_iff_right (by decide : 1 < 2)).1 (Nat.lt_of_le_of_lt h h1)
    omega

theorem limbs_len_le {v u : Nat} (h : v ≤ u) : (limbs v).length ≤ (limbs u).length := by
  refine rep_len_le (limbs_rep v) ?_
  have h1 := val_lt (limbs_rep u).ok
  rw [(limbs_rep u).val] at h1
  omega

theorem pow_big {xs : List Nat} {k : Nat} (ox : Ok xs) (nx : Norm xs) (h : 65536 ≤ ((bitsN xs : Int) - 1) * (k : Int)) : 2048 < (limbs (val xs ^ k)).length := by
  have h0 : xs ≠ [] := by
    intro e
    subst e
    simp only [bitsN, if_true] at h
    have : (((0:Nat):Int) - 1) * (k:Int) = -(k:Int) := by rw [show ((0:Nat):Int) - 1 = -1 from rfl, Int.neg_mul, Int.one_mul]
    omega
  have hb := val_ge_bits ox nx h0
  have e : bitsN xs = bitsL xs := by unfold bitsN; rw [if_neg h0]
  rw [e] at h
  have h1 : (2 ^ (bitsL xs - 1)) ^ k ≤ val xs ^ k := Nat.pow_le_pow_left hb.2 k
  rw [← Nat.pow_mul] at h1
  refine big_len ?_ h1
  have h2 : (((bitsL xs - 1) * k : Nat) : Int) = ((bitsL xs : Int) - 1) * (k : Int) := by
    rw [Int.natCast_mul, Int.natCast_sub hb.1]; rfl
  omega

theorem pow_prod {u k : Nat} (hu : u ≤ 100000) (hk : k ≤ 1024) : -1024 ≤ ((u : Int) - 1) * (k : Int) ∧ ((u : Int) - 1) * (k : Int) ≤ 102400000 := by
  rcases u with _ | u
  · have : (((0:Nat):Int) - 1) * (k:Int) = -(k:Int) := by rw [show ((0:Nat):Int) - 1 = -1 from rfl, Int.neg_mul, Int.one_mul]
    omega
  · have e : (((u + 1 : Nat) : Int) - 1) * (k : Int) = ((u * k : Nat) : Int) := by rw [Int.natCast_mul]; congr 1; omega
    have : u * k ≤ 100000 * 1024 := Nat.mul_le_mul (by omega) hk
    rw [e]
    omega

set_option maxHeartbeats 2000000 in
/-- natural.Pow. -/
theorem npow_any (a : Option Addr) (n c : Nat) (xs : List Nat) (k : Int) (w : World) (h : Sl w a n c xs) (ox : Ok xs) :
    Calls Tryd.prog 22 #[.slice a n c, .int .i64 k] w fun e w' => Res2 w w' (powL xs k) e := by
  have K1 := may_any a n c xs w h
  by_cases m1 : MayL xs = true
  · rw [m1] at K1
    have K1' := hide K1
    by_cases hk : k < 0
    · have HC := hide (show powL xs k = ([], 1) from by simp [powL, m1, hk])
      clear K1 m1 h ox
      go_enter Tryd.func22, Tryd.ntmps22
      go_wp2_with fail
      refine (unhide K1').mono ?_
      rintro e w' ⟨rfl, hw⟩
      obtain rfl := hw.symm
      go_wp2
      go_ret2
      rw [unhide HC]
      exact ⟨none, 0, 0, rfl, sl_nil _, newAt_nil _, Below.refl _ _⟩
    · by_cases hk2 : 1024 < k
      · have HC := hide (show powL xs k = ([], 1) from by simp [powL, m1, hk2])
        clear K1 m1 h ox
        go_enter Tryd.func22, Tryd.ntmps22
        go_wp2_with fail
        refine (unhide K1').mono ?_
        rintro e w' ⟨rfl, hw⟩
        obtain rfl := hw.symm
        go_wp2
        go_ret2
        rw [unhide HC]
        exact ⟨none, 0, 0, rfl, sl_nil _, newAt_nil _, Below.refl _ _⟩
      · obtain ⟨j, rfl⟩ : ∃ j : Nat, k = (j : Int) := ⟨k.toNat, by omega⟩
        have HC := hide (show powL xs (j : Int) = fitL (val xs ^ j) from by simp [powL, m1, hk, hk2])
        have nx := MayL.norm m1
        have hl : n ≤ 2048 := by have := h.len; have := MayL.len m1; omega
        have KB := hide (bitLen_all a n c xs w h ox (by omega))
        have KP := hide (power_any a n c xs j w h ox (by omega) (by omega))
        have HBig := hide (pow_big (k := j) ox nx)
        have hpb := pow_prod (k := j) (bitsN_le ox (MayL.len m1)) (by omega)
        have hub := bitsN_le ox (MayL.len m1)
        generalize bitsN xs = u at *
        generalize hp : ((u : Int) - 1) * (j : Int) = p at *
        clear K1 m1 h ox nx
        by_cases hbig : 65536 ≤ p
        · have HF := hide (fitL_big (unhide HBig hbig))
          clear KP
          go_enter Tryd.func22, Tryd.ntmps22
          go_wp2_with fail
          refine (unhide K1').mono ?_
          rintro e w' ⟨rfl, hw⟩
          obtain rfl := hw.symm
          go_wp2_with fail
          refine (unhide KB).mono ?_
          rintro e w' ⟨rfl, hw⟩
          obtain rfl := hw.symm
          go_wp2
          go_ret2
          rw [unhide HC, unhide HF]
          exact ⟨none, 0, 0, rfl, sl_nil _, newAt_nil _, Below.refl _ _⟩
        · go_enter Tryd.func22, Tryd.ntmps22
          go_wp2_with fail
          refine (unhide K1').mono ?_
          rintro e w' ⟨rfl, hw⟩
          obtain rfl := hw.symm
          go_wp2_with fail
          refine (unhide KB).mono ?_
          rintro e w' ⟨rfl, hw⟩
          obtain rfl := hw.symm
          go_wp2_with fail
          refine (unhide KP).mono ?_
          rintro e w1 ⟨a', m, zs, rfl, hs, hr, ha, hb⟩
          have KF := hide (fit_any a' m m _ zs w1 hs hr)
          have HA := hide (And.intro ha hb)
          clear hs hr ha hb KP
          go_wp2_with fail
          refine (unhide KF).mono ?_
          rintro e w' ⟨a2, m2, c2, rfl, hs, ha2, hw⟩
          obtain rfl := hw.symm
          have HS := hide (And.intro hs ha2)
          clear hs ha2 hw
          go_wp2
          go_ret2
          rw [unhide HC]
          refine ⟨a2, m2, c2, rfl, (unhide HS).1, ?_, (unhide HA).2⟩
          rcases (unhide HS).2 with e | e
          · rw [e]; exact (unhide HA).1
          · rw [e]; exact newAt_nil _
  · have m1' : MayL xs = false := by simpa using m1
    rw [m1'] at K1
    have K1' := hide K1
    have HC := hide (show powL xs k = ([], 20) from by simp [powL, m1'])
    clear K1 m1 m1' h ox
    go_enter Tryd.func22, Tryd.ntmps22
    go_wp2_with fail
    refine (unhide K1').mono ?_
    rintro e w' ⟨rfl, hw⟩
    obtain rfl := hw.symm
    go_wp2
    go_ret2
    rw [unhide HC]
    exact ⟨none, 0, 0, rfl, sl_nil _, newAt_nil _, Below.refl _ _⟩

/-- What a round of sloperef1.Pow leaves. -/
def PoR (wr w : World) (v : Value) (t : Nat) : Prop :=
  (∃ a m c, v = .slice a m c ∧ Sl wr a m c (limbs t) ∧ NewAt w.heap.size a) ∧ ¬ 2048 < (limbs t).length ∧ Below w.heap.size w wr

theorem may_limbs {t : Nat} (h : ¬ 2048 < (limbs t).length) : MayL (limbs t) = true := MayL.mk (limbs_rep t).norm (by omega)

theorem pow_more {v k i : Nat} (h : 2048 < (limbs (v ^ i * v)).length) (hi : i < k) : 2048 < (limbs (v ^ k)).length := by
  refine Nat.lt_of_lt_of_le h (limbs_len_le ?_)
  rw [← Nat.pow_succ]
  refine Nat.pow_le_pow_right ?_ hi
  rcases Nat.eq_zero_or_pos v with e | e
  · rw [e, Nat.mul_zero] at h
    rw [show limbs 0 = [] from rfl] at h
    simp at h
  · exact e

end Go.Proofs.YtpnhmaenmmelnaaDoor
