/-
  What NatMay's calls answer of every list.
-/
import Derived.Test.YtpnhmaenmmelnaaDoorTz
import Derived.Test.YtpnhmaenmmelnaaDoorRd1
import Derived.Test.YtpnhmaenmmelnaaDoorFrom
namespace Go.Proofs.YtpnhmaenmmelnaaDoor
open Go.RowKit Go.Deep
set_option linter.unusedVariables false

/-- What Tail of a number is. -/
def IsTail (v t : Nat) : Prop := (v = 0 ∧ t = 0) ∨ (bitN v t = 1 ∧ ∀ j, j < t → bitN v j = 0)
theorem bitN_zero (j : Nat) : bitN 0 j = 0 := by unfold bitN; rw [Nat.zero_div]
theorem IsTail.unique {v t s : Nat} (h : IsTail v t) (k : IsTail v s) : t = s := by
  rcases h with ⟨h0, h1⟩ | ⟨h0, h1⟩
  · rcases k with ⟨_, k1⟩ | ⟨k0, _⟩
    · omega
    · rw [h0, bitN_zero] at k0; omega
  · rcases k with ⟨k0, _⟩ | ⟨k0, k1⟩
    · rw [k0, bitN_zero] at h0; omega
    · rcases Nat.lt_trichotomy t s with e | e | e
      · have := k1 t e; omega
      · exact e
      · have := h1 s e; omega

theorem tail_limb {xs : List Nat} (ox : Ok xs) {k : Nat} (h0 : ∀ i, i < k → xs.getD i 0 = 0) (hx : 0 < xs.getD k 0) : IsTail (val xs) (32 * k + tzN (xs.getD k 0)) := by
  have hb := ox.getD k
  have ht : tzN (xs.getD k 0) = Lib.ntzAux 32 (xs.getD k 0) := by unfold tzN; rw [if_neg (by omega)]
  have hl := tz_lt 32 _ hx hb
  have hz := tz_bit 32 _ hx hb
  rw [← ht] at hl hz
  right
  constructor
  · rw [bit_limb ox (l := k) (s := tzN (xs.getD k 0)) (by omega) (by omega)]
    exact hz.1
  · intro j hj
    rw [bit_limb ox (l := j / 32) (s := j % 32) rfl rfl]
    rcases Nat.lt_or_ge (j / 32) k with e | e
    · rw [h0 _ e, Nat.zero_div]
    · have e2 : j / 32 = k := by omega
      rw [e2]
      exact hz.2 _ (by omega)
theorem tail_none {xs : List Nat} {n : Nat} (hl : xs.length = n) (h0 : ∀ i, i < n → xs.getD i 0 = 0) : IsTail (val xs) 0 := by
  left
  refine ⟨?_, rfl⟩
  rw [← valF_list, hl, valF_congr (g := fun _ => 0) h0, valF_zero]

def TailPost (w : World) (xs : List Nat) (e : Ending) (w' : World) : Prop := ∃ t : Nat, t ≤ 65536 ∧ IsTail (val xs) t ∧ e = .returned (.int .i64 (t : Nat)) ∧ ∃ k, w' = w.drewN k

set_option maxHeartbeats 2000000 in
/-- natural.Tail. -/
theorem ntail_any (a : Option Addr) (n c : Nat) (xs : List Nat) (w : World) (h : Sl w a n c xs) (ox : Ok xs) (m : MayL xs = true) (hT : Tab32 w) :
    Calls Tryd.prog 25 #[.slice a n c] w fun e w' => TailPost w xs e w' := by
  have KM := may_any a n c xs w h
  rw [m] at KM
  have KM' := hide KM
  have HL := hide h.len
  have hn : n ≤ 2048 := by have := h.len; have := MayL.len m; omega
  have H := hide h
  have HT := hide hT
  clear KM h m hT
  go_enter Tryd.func25, Tryd.ntmps25
  go_wp2_with fail
  refine (unhide KM').mono ?_
  rintro e w' ⟨rfl, hw⟩
  obtain rfl := hw.symm
  go_wp2_with fail
  go_loop [9] (fun iv => ∃ k : Nat, k ≤ n ∧ iv = .int .i64 (k : Nat) ∧ Hid (∀ i, i < k → xs.getD i 0 = 0)) (fun iv => n - (intOf iv).toNat)
  case atStart => exact ⟨0, Nat.zero_le _, rfl, fun i hi => by omega⟩
  case round =>
    obtain ⟨k, hk, rfl, HZ⟩ := hrel
    by_cases hlt : k < n
    · have hlt' : (k:Int) < (n:Int) := by omega
      have hxne : xs ≠ [] := by intro e; have := unhide HL; rw [e] at this; simp at this; omega
      obtain ⟨b1, o1, rfl, hx⟩ := (unhide H).cells.resolve_left hxne
      have g1 := hx k (by rw [unhide HL]; exact hlt)
      have bx := ox.getD k
      by_cases h0 : xs.getD k 0 = 0
      · have HZ2 := hide (show ∀ i, i < k + 1 → xs.getD i 0 = 0 from fun i hi => by
          by_cases e : i = k
          · rw [e]; exact h0
          · exact unhide HZ i (by omega))
        rw [h0] at g1
        clear hx hxne HZ h0 bx
        go_wp2_with fail
        exact ⟨⟨k + 1, by omega, by go_num, unhide HZ2⟩, by simp [intOf]; omega⟩
      · have hp : 0 < xs.getD k 0 := by omega
        have HR := hide (tail_limb ox (unhide HZ) hp)
        have KT := hide (fun v (hv : Tab32 v) => tz32_any (xs.getD k 0) v hp bx hv)
        have hl : tzN (xs.getD k 0) < 32 := by
          obtain ⟨_, _, _, _, _, _, _, _, _, _, hl⟩ := tz_facts hp bx
          exact hl
        generalize tzN (xs.getD k 0) = t at *
        generalize xs.getD k 0 = x at *
        have t1 : ((x:Int) == 0) = false := by simp; omega
        have es : (k:Int) * 32 + (t:Int) = ((32 * k + t : Nat) : Int) := by omega
        generalize hq : 32 * k + t = q at *
        have hqb : q ≤ 65536 := by omega
        clear hq
        have t2 : ¬ (x:Int) = 0 := by omega
        clear hx hxne HZ
        go_wp2_with fail
        refine (unhide KT _ (unhide HT)).mono ?_
        rintro e w' ⟨rfl, hw⟩
        obtain rfl := hw.symm
        go_wp2
        go_ret
        exact ⟨q, hqb, unhide HR, rfl, 0, rfl⟩
    · have hkn : k = n := by omega
      subst hkn
      have hlt' : ¬ (k:Int) < (k:Int) := by omega
      have HR := hide (tail_none (unhide HL) (unhide HZ))
      clear HZ
      go_wp2
      go_ret
      exact ⟨0, by omega, unhide HR, rfl, 0, rfl⟩
open Go.RowKit Go.Deep
set_option linter.unusedVariables false

def uintI (xs : List Nat) : Nat × Bool := if MayL xs && decide (xs.length ≤ 2) then (xs.getD 0 0 + 4294967296 * xs.getD 1 0, true) else (0, false)
def bitsI (xs : List Nat) : Nat := if MayL xs then bitsN xs else 0
def onesI (xs : List Nat) : Nat := if MayL xs then onesN xs else 0
def bitI (xs : List Nat) (i : Int) : Nat := if MayL xs then (if i < 0 then 0 else bitN (val xs) i.toNat) else 0

set_option maxHeartbeats 400000 in
theorem nbits_no (a : Option Addr) (n c : Nat) (xs : List Nat) (w : World) (h : Sl w a n c xs) (m : MayL xs = false) :
    Calls Tryd.prog 23 #[.slice a n c] w fun e w' => e = .returned (.int .i64 0) ∧ w' = w := by
  have K1 := may_any a n c xs w h
  rw [m] at K1
  have K1' := hide K1
  clear K1 m h
  go_enter Tryd.func23, Tryd.ntmps23
  go_wp2_with fail
  refine (unhide K1').mono ?_
  rintro e w' ⟨rfl, hw⟩
  obtain rfl := hw.symm
  go_wp2
  go_ret
  exact ⟨rfl, rfl⟩

set_option maxHeartbeats 400000 in
theorem nones_no (a : Option Addr) (n c : Nat) (xs : List Nat) (w : World) (h : Sl w a n c xs) (m : MayL xs = false) :
    Calls Tryd.prog 24 #[.slice a n c] w fun e w' => e = .returned (.int .i64 0) ∧ w' = w := by
  have K1 := may_any a n c xs w h
  rw [m] at K1
  have K1' := hide K1
  clear K1 m h
  go_enter Tryd.func24, Tryd.ntmps24
  go_wp2_with fail
  refine (unhide K1').mono ?_
  rintro e w' ⟨rfl, hw⟩
  obtain rfl := hw.symm
  go_wp2
  go_ret
  exact ⟨rfl, rfl⟩

set_option maxHeartbeats 400000 in
theorem ntail_no (a : Option Addr) (n c : Nat) (xs : List Nat) (w : World) (h : Sl w a n c xs) (m : MayL xs = false) :
    Calls Tryd.prog 25 #[.slice a n c] w fun e w' => e = .returned (.int .i64 0) ∧ w' = w := by
  have K1 := may_any a n c xs w h
  rw [m] at K1
  have K1' := hide K1
  clear K1 m h
  go_enter Tryd.func25, Tryd.ntmps25
  go_wp2_with fail
  refine (unhide K1').mono ?_
  rintro e w' ⟨rfl, hw⟩
  obtain rfl := hw.symm
  go_wp2
  go_ret
  exact ⟨rfl, rfl⟩

set_option maxHeartbeats 400000 in
theorem rbits_no (a : Option Addr) (n c : Nat) (xs : List Nat) (w : World) (h : Sl w a n c xs) (m : MayL xs = false) :
    Calls Tryd.prog 61 #[.slice a n c] w fun e w' => e = .returned (.int .i64 0) ∧ w' = w := by
  have K1 := rmay_any a n c xs w h
  rw [m] at K1
  have K1' := hide K1
  clear K1 m h
  go_enter Tryd.func61, Tryd.ntmps61
  go_wp2_with fail
  refine (unhide K1').mono ?_
  rintro e w' ⟨rfl, hw⟩
  obtain rfl := hw.symm
  go_wp2
  go_ret
  exact ⟨rfl, rfl⟩

set_option maxHeartbeats 400000 in
theorem rbit_no (a : Option Addr) (n c : Nat) (xs : List Nat) (i : Int) (w : World) (h : Sl w a n c xs) (m : MayL xs = false) :
    Calls Tryd.prog 64 #[.slice a n c, .int .i64 i] w fun e w' => e = .returned (.int .i64 0) ∧ w' = w := by
  have K1 := rmay_any a n c xs w h
  rw [m] at K1
  have K1' := hide K1
  clear K1 m h
  go_enter Tryd.func64, Tryd.ntmps64
  go_wp2_with fail
  refine (unhide K1').mono ?_
  rintro e w' ⟨rfl, hw⟩
  obtain rfl := hw.symm
  go_wp2
  go_ret
  exact ⟨rfl, rfl⟩

theorem nbits_all (a : Option Addr) (n c : Nat) (xs : List Nat) (w : World) (h : Sl w a n c xs) (ox : Ok xs) :
    Calls Tryd.prog 23 #[.slice a n c] w fun e w' => e = .returned (.int .i64 (bitsI xs : Nat)) ∧ w' = w := by
  unfold bitsI
  cases m : MayL xs
  · exact nbits_no a n c xs w h m
  · exact nbits_any a n c xs w h ox m
theorem rbits_all (a : Option Addr) (n c : Nat) (xs : List Nat) (w : World) (h : Sl w a n c xs) (ox : Ok xs) :
    Calls Tryd.prog 61 #[.slice a n c] w fun e w' => e = .returned (.int .i64 (bitsI xs : Nat)) ∧ w' = w := by
  unfold bitsI
  cases m : MayL xs
  · exact rbits_no a n c xs w h m
  · exact rbits_any a n c xs w h ox m
theorem nones_all (a : Option Addr) (n c : Nat) (xs : List Nat) (w : World) (h : Sl w a n c xs) (ox : Ok xs) :
    Calls Tryd.prog 24 #[.slice a n c] w fun e w' => e = .returned (.int .i64 (onesI xs : Nat)) ∧ ∃ k, w' = w.drewN k := by
  unfold onesI
  cases m : MayL xs
  · exact (nones_no a n c xs w h m).mono fun _ _ ⟨he, hw⟩ => ⟨he, 0, hw⟩
  · exact nones_any a n c xs w h ox m

set_option maxHeartbeats 400000 in
theorem rbit_neg (a : Option Addr) (n c : Nat) (xs : List Nat) (i : Int) (w : World) (h : Sl w a n c xs) (m : MayL xs = true) (hi : i < 0) :
    Calls Tryd.prog 64 #[.slice a n c, .int .i64 i] w fun e w' => e = .returned (.int .i64 0) ∧ w' = w := by
  have K1 := rmay_any a n c xs w h
  rw [m] at K1
  have K1' := hide K1
  clear K1 h m
  go_enter Tryd.func64, Tryd.ntmps64
  go_wp2_with fail
  refine (unhide K1').mono ?_
  rintro e w' ⟨rfl, hw⟩
  obtain rfl := hw.symm
  go_wp2
  go_ret
  exact ⟨rfl, rfl⟩
theorem rbit_all (a : Option Addr) (n c : Nat) (xs : List Nat) (i : Int) (w : World) (h : Sl w a n c xs) (ox : Ok xs) (hi : i ≤ 9223372036854775807) :
    Calls Tryd.prog 64 #[.slice a n c, .int .i64 i] w fun e w' => e = .returned (.int .i64 (bitI xs i : Nat)) ∧ w' = w := by
  unfold bitI
  cases m : MayL xs
  · exact rbit_no a n c xs i w h m
  · by_cases h0 : i < 0
    · simp only [if_pos h0]
      exact rbit_neg a n c xs i w h m h0
    · simp only [if_neg h0]
      obtain ⟨j, rfl⟩ := Int.eq_ofNat_of_zero_le (show 0 ≤ i by omega)
      exact rbit_any a n c xs w j h ox m (by omega)
end Go.Proofs.YtpnhmaenmmelnaaDoor
