/-
  What NatMay's calls answer of every list.
-/
import Derived.Test.YtokgcpnnbajlkaaDoorMy1
namespace Go.Proofs.YtokgcpnnbajlkaaDoor
open Go.RowKit Go.Deep
set_option linter.unusedVariables false

def uintI (xs : List Nat) : Nat × Bool := if MayL xs && decide (xs.length ≤ 2) then (xs.getD 0 0 + 4294967296 * xs.getD 1 0, true) else (0, false)
def bitsI (xs : List Nat) : Nat := if MayL xs then bitsN xs else 0
def onesI (xs : List Nat) : Nat := if MayL xs then onesN xs else 0
def bitI (xs : List Nat) (i : Int) : Nat := if MayL xs then (if i < 0 then 0 else bitN (val xs) i.toNat) else 0

set_option maxHeartbeats 1000000 in
theorem nuint_all (a : Option Addr) (n c : Nat) (xs : List Nat) (w : World) (h : Sl w a n c xs) (ox : Ok xs) :
    Calls Tryd.prog 4 #[.slice a n c] w fun e w' => e = .returned (.tuple #[.int .u64 ((uintI xs).1 : Nat), .bool (uintI xs).2]) ∧ w' = w := by
  have K1 := may_any a n c xs w h
  have hl := h.len
  by_cases m1 : MayL xs = true
  · rw [m1] at K1
    have K1' := hide K1
    have hm := MayL.len m1
    by_cases h2 : n ≤ 2
    · have HC := hide (show uintI xs = (xs.getD 0 0 + 4294967296 * xs.getD 1 0, true) from by simp [uintI, m1, hl, h2])
      have KW := hide (word_any a n c xs w h ox)
      have h2' : ¬ (2:Int) < (n:Int) := by omega
      clear K1 m1 h
      generalize xs.getD 0 0 + 4294967296 * xs.getD 1 0 = u at *
      go_enter Tryd.func4, Tryd.ntmps4
      go_wp2_with fail
      refine (unhide K1').mono ?_
      rintro e w' ⟨rfl, hw⟩
      obtain rfl := hw.symm
      go_wp2_with fail
      refine (unhide KW).mono ?_
      rintro e w' ⟨rfl, hw⟩
      obtain rfl := hw.symm
      go_wp2
      go_ret2
      rw [unhide HC]
      exact ⟨rfl, rfl⟩
    · have HC := hide (show uintI xs = (0, false) from by simp [uintI, m1, hl, h2])
      have h2' : (2:Int) < (n:Int) := by omega
      clear K1 m1 h ox
      go_enter Tryd.func4, Tryd.ntmps4
      go_wp2_with fail
      refine (unhide K1').mono ?_
      rintro e w' ⟨rfl, hw⟩
      obtain rfl := hw.symm
      go_wp2
      go_ret2
      rw [unhide HC]
      exact ⟨rfl, rfl⟩
  · have m1' : MayL xs = false := by simpa using m1
    rw [m1'] at K1
    have K1' := hide K1
    have HC := hide (show uintI xs = (0, false) from by simp [uintI, m1'])
    clear K1 m1 m1' h ox
    go_enter Tryd.func4, Tryd.ntmps4
    go_wp2_with fail
    refine (unhide K1').mono ?_
    rintro e w' ⟨rfl, hw⟩
    obtain rfl := hw.symm
    go_wp2
    go_ret2
    rw [unhide HC]
    exact ⟨rfl, rfl⟩

set_option maxHeartbeats 1000000 in
theorem ruint_all (a : Option Addr) (n c : Nat) (xs : List Nat) (w : World) (h : Sl w a n c xs) (ox : Ok xs) :
    Calls Tryd.prog 6 #[.slice a n c] w fun e w' => e = .returned (.tuple #[.int .u64 ((uintI xs).1 : Nat), .bool (uintI xs).2]) ∧ w' = w := by
  have K1 := rmay_any a n c xs w h
  have hl := h.len
  by_cases m1 : MayL xs = true
  · rw [m1] at K1
    have K1' := hide K1
    have hm := MayL.len m1
    by_cases h2 : n ≤ 2
    · have HC := hide (show uintI xs = (xs.getD 0 0 + 4294967296 * xs.getD 1 0, true) from by simp [uintI, m1, hl, h2])
      have h2' : ¬ (2:Int) < (n:Int) := by omega
      have b0 := ox.getD 0
      have b1 := ox.getD 1
      by_cases hz : xs = []
      · have hn : n = 0 := by rw [← hl, hz]; rfl
        subst hn
        rw [hz] at HC
        have HC' := HC
        simp only [List.getD_nil, Nat.mul_zero, Nat.add_zero] at HC'
        clear K1 m1 h HC b0 b1
        go_enter Tryd.func6, Tryd.ntmps6
        go_wp2_with fail
        refine (unhide K1').mono ?_
        rintro e w' ⟨rfl, hw⟩
        obtain rfl := hw.symm
        go_wp2
        go_ret2
        rw [hz, unhide HC']
        exact ⟨rfl, rfl⟩
      · obtain ⟨b, off, rfl, hc⟩ := h.cells.resolve_left hz
        have hp : 0 < n := by rw [← hl]; exact List.length_pos_iff.2 hz
        have g0 := hc 0 (by omega)
        rw [Nat.add_zero] at g0
        by_cases h1 : n = 1
        · have e1 : xs.getD 1 0 = 0 := getD_ge (by omega)
          rw [e1, Nat.mul_zero, Nat.add_zero] at HC
          subst h1
          generalize xs.getD 0 0 = u at *
          clear K1 m1 h hc hz
          go_enter Tryd.func6, Tryd.ntmps6
          go_wp2_with fail
          refine (unhide K1').mono ?_
          rintro e w' ⟨rfl, hw⟩
          obtain rfl := hw.symm
          go_wp2
          go_ret2
          rw [unhide HC]
          exact ⟨rfl, rfl⟩
        · have h12 : n = 2 := by omega
          have g1 := hc 1 (by omega)
          subst h12
          generalize xs.getD 0 0 = u at *
          generalize xs.getD 1 0 = v at *
          have ew : (v:Int) * 4294967296 + (u:Int) = ((u + 4294967296 * v : Nat) : Int) := by omega
          clear K1 m1 h hc hz
          go_enter Tryd.func6, Tryd.ntmps6
          go_wp2_with fail
          refine (unhide K1').mono ?_
          rintro e w' ⟨rfl, hw⟩
          obtain rfl := hw.symm
          go_wp2
          go_ret2
          rw [unhide HC]
          exact ⟨rfl, rfl⟩
    · have HC := hide (show uintI xs = (0, false) from by simp [uintI, m1, hl, h2])
      have h2' : (2:Int) < (n:Int) := by omega
      clear K1 m1 h ox
      go_enter Tryd.func6, Tryd.ntmps6
      go_wp2_with fail
      refine (unhide K1').mono ?_
      rintro e w' ⟨rfl, hw⟩
      obtain rfl := hw.symm
      go_wp2
      go_ret2
      rw [unhide HC]
      exact ⟨rfl, rfl⟩
  · have m1' : MayL xs = false := by simpa using m1
    rw [m1'] at K1
    have K1' := hide K1
    have HC := hide (show uintI xs = (0, false) from by simp [uintI, m1'])
    clear K1 m1 m1' h ox
    go_enter Tryd.func6, Tryd.ntmps6
    go_wp2_with fail
    refine (unhide K1').mono ?_
    rintro e w' ⟨rfl, hw⟩
    obtain rfl := hw.symm
    go_wp2
    go_ret2
    rw [unhide HC]
    exact ⟨rfl, rfl⟩

set_option maxHeartbeats 400000 in
theorem nbits_no (a : Option Addr) (n c : Nat) (xs : List Nat) (w : World) (h : Sl w a n c xs) (m : MayL xs = false) :
    Calls Tryd.prog 9 #[.slice a n c] w fun e w' => e = .returned (.int .i64 0) ∧ w' = w := by
  have K1 := may_any a n c xs w h
  rw [m] at K1
  have K1' := hide K1
  clear K1 m h
  go_enter Tryd.func9, Tryd.ntmps9
  go_wp2_with fail
  refine (unhide K1').mono ?_
  rintro e w' ⟨rfl, hw⟩
  obtain rfl := hw.symm
  go_wp2
  go_ret
  exact ⟨rfl, rfl⟩

set_option maxHeartbeats 400000 in
theorem nones_no (a : Option Addr) (n c : Nat) (xs : List Nat) (w : World) (h : Sl w a n c xs) (m : MayL xs = false) :
    Calls Tryd.prog 11 #[.slice a n c] w fun e w' => e = .returned (.int .i64 0) ∧ w' = w := by
  have K1 := may_any a n c xs w h
  rw [m] at K1
  have K1' := hide K1
  clear K1 m h
  go_enter Tryd.func11, Tryd.ntmps11
  go_wp2_with fail
  refine (unhide K1').mono ?_
  rintro e w' ⟨rfl, hw⟩
  obtain rfl := hw.symm
  go_wp2
  go_ret
  exact ⟨rfl, rfl⟩

set_option maxHeartbeats 400000 in
theorem ntail_no (a : Option Addr) (n c : Nat) (xs : List Nat) (w : World) (h : Sl w a n c xs) (m : MayL xs = false) :
    Calls Tryd.prog 13 #[.slice a n c] w fun e w' => e = .returned (.int .i64 0) ∧ w' = w := by
  have K1 := may_any a n c xs w h
  rw [m] at K1
  have K1' := hide K1
  clear K1 m h
  go_enter Tryd.func13, Tryd.ntmps13
  go_wp2_with fail
  refine (unhide K1').mono ?_
  rintro e w' ⟨rfl, hw⟩
  obtain rfl := hw.symm
  go_wp2
  go_ret
  exact ⟨rfl, rfl⟩

set_option maxHeartbeats 400000 in
theorem nbit_no (a : Option Addr) (n c : Nat) (xs : List Nat) (i : Int) (w : World) (h : Sl w a n c xs) (m : MayL xs = false) :
    Calls Tryd.prog 15 #[.slice a n c, .int .i64 i] w fun e w' => e = .returned (.int .i64 0) ∧ w' = w := by
  have K1 := may_any a n c xs w h
  rw [m] at K1
  have K1' := hide K1
  clear K1 m h
  go_enter Tryd.func15, Tryd.ntmps15
  go_wp2_with fail
  refine (unhide K1').mono ?_
  rintro e w' ⟨rfl, hw⟩
  obtain rfl := hw.symm
  go_wp2
  go_ret
  exact ⟨rfl, rfl⟩

set_option maxHeartbeats 400000 in
theorem rbits_no (a : Option Addr) (n c : Nat) (xs : List Nat) (w : World) (h : Sl w a n c xs) (m : MayL xs = false) :
    Calls Tryd.prog 10 #[.slice a n c] w fun e w' => e = .returned (.int .i64 0) ∧ w' = w := by
  have K1 := rmay_any a n c xs w h
  rw [m] at K1
  have K1' := hide K1
  clear K1 m h
  go_enter Tryd.func10, Tryd.ntmps10
  go_wp2_with fail
  refine (unhide K1').mono ?_
  rintro e w' ⟨rfl, hw⟩
  obtain rfl := hw.symm
  go_wp2
  go_ret
  exact ⟨rfl, rfl⟩

set_option maxHeartbeats 400000 in
theorem rones_no (a : Option Addr) (n c : Nat) (xs : List Nat) (w : World) (h : Sl w a n c xs) (m : MayL xs = false) :
    Calls Tryd.prog 12 #[.slice a n c] w fun e w' => e = .returned (.int .i64 0) ∧ w' = w := by
  have K1 := rmay_any a n c xs w h
  rw [m] at K1
  have K1' := hide K1
  clear K1 m h
  go_enter Tryd.func12, Tryd.ntmps12
  go_wp2_with fail
  refine (unhide K1').mono ?_
  rintro e w' ⟨rfl, hw⟩
  obtain rfl := hw.symm
  go_wp2
  go_ret
  exact ⟨rfl, rfl⟩

set_option maxHeartbeats 400000 in
theorem rtail_no (a : Option Addr) (n c : Nat) (xs : List Nat) (w : World) (h : Sl w a n c xs) (m : MayL xs = false) :
    Calls Tryd.prog 14 #[.slice a n c] w fun e w' => e = .returned (.int .i64 0) ∧ w' = w := by
  have K1 := rmay_any a n c xs w h
  rw [m] at K1
  have K1' := hide K1
  clear K1 m h
  go_enter Tryd.func14, Tryd.ntmps14
  go_wp2_with fail
  refine (unhide K1').mono ?_
  rintro e w' ⟨rfl, hw⟩
  obtain rfl := hw.symm
  go_wp2
  go_ret
  exact ⟨rfl, rfl⟩

set_option maxHeartbeats 400000 in
theorem rbit_no (a : Option Addr) (n c : Nat) (xs : List Nat) (i : Int) (w : World) (h : Sl w a n c xs) (m : MayL xs = false) :
    Calls Tryd.prog 16 #[.slice a n c, .int .i64 i] w fun e w' => e = .returned (.int .i64 0) ∧ w' = w := by
  have K1 := rmay_any a n c xs w h
  rw [m] at K1
  have K1' := hide K1
  clear K1 m h
  go_enter Tryd.func16, Tryd.ntmps16
  go_wp2_with fail
  refine (unhide K1').mono ?_
  rintro e w' ⟨rfl, hw⟩
  obtain rfl := hw.symm
  go_wp2
  go_ret
  exact ⟨rfl, rfl⟩

theorem nbits_all (a : Option Addr) (n c : Nat) (xs : List Nat) (w : World) (h : Sl w a n c xs) (ox : Ok xs) :
    Calls Tryd.prog 9 #[.slice a n c] w fun e w' => e = .returned (.int .i64 (bitsI xs : Nat)) ∧ w' = w := by
  unfold bitsI
  cases m : MayL xs
  · exact nbits_no a n c xs w h m
  · exact nbits_any a n c xs w h ox m
theorem rbits_all (a : Option Addr) (n c : Nat) (xs : List Nat) (w : World) (h : Sl w a n c xs) (ox : Ok xs) :
    Calls Tryd.prog 10 #[.slice a n c] w fun e w' => e = .returned (.int .i64 (bitsI xs : Nat)) ∧ w' = w := by
  unfold bitsI
  cases m : MayL xs
  · exact rbits_no a n c xs w h m
  · exact rbits_any a n c xs w h ox m
theorem nones_all (a : Option Addr) (n c : Nat) (xs : List Nat) (w : World) (h : Sl w a n c xs) (ox : Ok xs) :
    Calls Tryd.prog 11 #[.slice a n c] w fun e w' => e = .returned (.int .i64 (onesI xs : Nat)) ∧ ∃ k, w' = w.drewN k := by
  unfold onesI
  cases m : MayL xs
  · exact (nones_no a n c xs w h m).mono fun _ _ ⟨he, hw⟩ => ⟨he, 0, hw⟩
  · exact nones_any a n c xs w h ox m

set_option maxHeartbeats 1000000 in
theorem nbit_any (a : Option Addr) (n c : Nat) (xs : List Nat) (i : Nat) (w : World) (h : Sl w a n c xs) (ox : Ok xs) (m : MayL xs = true) (hi : i ≤ 9223372036854775807) :
    Calls Tryd.prog 15 #[.slice a n c, .int .i64 (i : Nat)] w fun e w' => e = .returned (.int .i64 (bitN (val xs) i : Nat)) ∧ w' = w := by
  have K1 := may_any a n c xs w h
  rw [m] at K1
  have K1' := hide K1
  have KL := limbAt_any a n c xs ((i / 32 : Nat) : Int) w h (by omega)
  rw [show (((i / 32 : Nat) : Int)).toNat = i / 32 from Int.toNat_natCast _] at KL
  rw [bit_limb ox (l := i / 32) (s := i % 32) rfl rfl]
  have bx := ox.getD (i / 32)
  generalize xs.getD (i / 32) 0 = x at *
  obtain ⟨l, hl⟩ : ∃ l, i / 32 = l := ⟨_, rfl⟩
  obtain ⟨s, hs⟩ : ∃ s, i % 32 = s := ⟨_, rfl⟩
  have hs32 : s < 32 := by omega
  rw [hl] at KL
  rw [hs]
  have KL' := hide KL
  have hl2 : (i:Int).tdiv 32 = (l:Int) := by rw [Int.tdiv_eq_ediv_of_nonneg (by omega)]; omega
  have hs2 : (i:Int).tmod 32 = (s:Int) := by rw [Int.tmod_eq_emod_of_nonneg (by omega)]; omega
  have hl3 : (i:Int) / 32 = (l:Int) := by omega
  have hs3 : (i:Int) % 32 = (s:Int) := by omega
  have hy := shr_lt (s := s) bx
  have e1 : (x:Int) / 2 ^ s = ((x / 2 ^ s : Nat) : Int) := by rw [Int.natCast_ediv, Int.natCast_pow]; rfl
  have e2 := and_one _ hy
  generalize x / 2 ^ s = y at *
  have hy2 : y % 2 < 2 := Nat.mod_lt _ (by decide)
  generalize y % 2 = z at *
  clear K1 KL h m
  go_enter Tryd.func15, Tryd.ntmps15
  go_wp2_with fail
  refine (unhide K1').mono ?_
  rintro e w' ⟨rfl, hw⟩
  obtain rfl := hw.symm
  go_wp2_with fail
  refine (unhide KL').mono ?_
  rintro e w' ⟨rfl, hw⟩
  obtain rfl := hw.symm
  go_wp2
  go_ret
  exact ⟨rfl, rfl⟩
set_option maxHeartbeats 400000 in
theorem nbit_neg (a : Option Addr) (n c : Nat) (xs : List Nat) (i : Int) (w : World) (h : Sl w a n c xs) (m : MayL xs = true) (hi : i < 0) :
    Calls Tryd.prog 15 #[.slice a n c, .int .i64 i] w fun e w' => e = .returned (.int .i64 0) ∧ w' = w := by
  have K1 := may_any a n c xs w h
  rw [m] at K1
  have K1' := hide K1
  clear K1 h m
  go_enter Tryd.func15, Tryd.ntmps15
  go_wp2_with fail
  refine (unhide K1').mono ?_
  rintro e w' ⟨rfl, hw⟩
  obtain rfl := hw.symm
  go_wp2
  go_ret
  exact ⟨rfl, rfl⟩
set_option maxHeartbeats 400000 in
theorem rbit_neg (a : Option Addr) (n c : Nat) (xs : List Nat) (i : Int) (w : World) (h : Sl w a n c xs) (m : MayL xs = true) (hi : i < 0) :
    Calls Tryd.prog 16 #[.slice a n c, .int .i64 i] w fun e w' => e = .returned (.int .i64 0) ∧ w' = w := by
  have K1 := rmay_any a n c xs w h
  rw [m] at K1
  have K1' := hide K1
  clear K1 h m
  go_enter Tryd.func16, Tryd.ntmps16
  go_wp2_with fail
  refine (unhide K1').mono ?_
  rintro e w' ⟨rfl, hw⟩
  obtain rfl := hw.symm
  go_wp2
  go_ret
  exact ⟨rfl, rfl⟩
theorem nbit_all (a : Option Addr) (n c : Nat) (xs : List Nat) (i : Int) (w : World) (h : Sl w a n c xs) (ox : Ok xs) (hi : i ≤ 9223372036854775807) :
    Calls Tryd.prog 15 #[.slice a n c, .int .i64 i] w fun e w' => e = .returned (.int .i64 (bitI xs i : Nat)) ∧ w' = w := by
  unfold bitI
  cases m : MayL xs
  · exact nbit_no a n c xs i w h m
  · by_cases h0 : i < 0
    · simp only [if_pos h0]
      exact nbit_neg a n c xs i w h m h0
    · simp only [if_neg h0]
      obtain ⟨j, rfl⟩ := Int.eq_ofNat_of_zero_le (show 0 ≤ i by omega)
      exact nbit_any a n c xs j w h ox m (by omega)
theorem rbit_all (a : Option Addr) (n c : Nat) (xs : List Nat) (i : Int) (w : World) (h : Sl w a n c xs) (ox : Ok xs) (hi : i ≤ 9223372036854775807) :
    Calls Tryd.prog 16 #[.slice a n c, .int .i64 i] w fun e w' => e = .returned (.int .i64 (bitI xs i : Nat)) ∧ w' = w := by
  unfold bitI
  cases m : MayL xs
  · exact rbit_no a n c xs i w h m
  · by_cases h0 : i < 0
    · simp only [if_pos h0]
      exact rbit_neg a n c xs i w h m h0
    · simp only [if_neg h0]
      obtain ⟨j, rfl⟩ := Int.eq_ofNat_of_zero_le (show 0 ≤ i by omega)
      exact rbit_any a n c xs w j h ox m (by omega)
end Go.Proofs.YtokgcpnnbajlkaaDoor
