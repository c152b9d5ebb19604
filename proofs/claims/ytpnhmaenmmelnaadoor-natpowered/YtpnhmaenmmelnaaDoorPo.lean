/-
  What NatPowered needs besides.
-/
import Derived.Test.YtpnhmaenmmelnaaDoorRt5
import Derived.Test.YtpnhmaenmmelnaaDoorPw2
import Derived.Test.YtpnhmaenmmelnaaDoorMy3
import Derived.Test.YtpnhmaenmmelnaaDoorRng3
namespace Go.Proofs.YtpnhmaenmmelnaaDoor
open Go.RowKit Go.Deep
set_option linter.unusedVariables false

theorem PSt.may1 {w w0 : World} {L : List Pc} (h : PSt w w0 L) (p : Pc) (hp : p ∈ L) (e : TypeId) :
    Calls Tryd.prog 15 #[.slice (some ⟨w.heap.size, 0, none⟩) 1 1] (w.alloc (.cells #[.slice p.a p.n p.c] e)) fun e w' => e = .returned (.bool (MayL p.xs)) ∧ PSt w' w0 L := by
  have k := (Below.refl w.heap.size w).alloc (Nat.le_refl _) (.cells #[.slice p.a p.n p.c] e)
  have h' := h.keep k
  have K := mays_any w.heap.size 1 [p] (w.alloc (.cells #[.slice p.a p.n p.c] e)) rfl (by decide) (fun i hi => by
      match i, hi with
      | 0, _ => simp) (fun x hx => by
      simp at hx
      subst hx
      exact h'.all _ hp)
  refine K.mono ?_
  rintro e w' ⟨rfl, rfl⟩
  exact ⟨by simp [mayP], h'⟩

theorem powL_nat {xs : List Nat} {k : Nat} (m : MayL xs = true) (hk : k ≤ 1024) : powL xs (k : Int) = fitL (val xs ^ k) := by
  unfold powL
  rw [m]
  simp only [if_true]
  rw [if_neg (by omega)]
  rfl

theorem RSt.tookF {w w0 : World} {K : Nat} {bad wrong : Bool} {L : List Pc} {a : Option Addr} {m c v : Nat} (h : RSt w w0 K bad wrong (⟨a, m, c, fitN v⟩ :: L)) :
    Calls Tryd.prog 18 #[.pointer (some ⟨K, 0, none⟩), .slice a m c, .int .i64 (fitL v).2] w fun e w' => e = .returned (.slice a m c) ∧ RSt w' w0 K (bad || bigN v) wrong (⟨a, m, c, fitN v⟩ :: L) := by
  cases hb : bigN v
  · rw [fitL_zero hb, Bool.or_false]
    refine (took_ok K a m c _ w (h.sl ⟨a, m, c, fitN v⟩ (by simp)) (fitN_may v)).mono ?_
    rintro e w' ⟨rfl, rfl⟩
    exact ⟨rfl, h⟩
  · rw [fitL_two hb, Bool.or_true]
    refine (took_big K a m c bad w h.c0 h.f0).mono ?_
    rintro e w' ⟨rfl, rfl⟩
    exact ⟨rfl, h.setBad⟩

set_option maxHeartbeats 1000000 in
/-- slopelaw1.calls.pow. -/
theorem RSt.pow {w w0 : World} {K : Nat} {bad wrong : Bool} {L : List Pc} (h : RSt w w0 K bad wrong L) (p : Pc) (hp : p ∈ L) (m1 : MayL p.xs = true) (o1 : Ok p.xs) (k : Nat) (kI : Int) (hI : kI = (k : Int)) (hk : k ≤ 1024) :
    Calls Tryd.prog 19 #[.pointer (some ⟨K, 0, none⟩), .slice p.a p.n p.c, .int .i64 kI] w fun e w' => ∃ a m c, e = .returned (.slice a m c) ∧ RSt w' w0 K (bad || bigN (val p.xs ^ k)) wrong (⟨a, m, c, fitN (val p.xs ^ k)⟩ :: L) := by
  have KA := npow_any p.a p.n p.c p.xs kI w (h.sl p hp) o1
  rw [hI, powL_nat m1 hk] at KA
  rw [hI]
  have HS := hide h
  have KA' := hide KA
  clear KA h hI
  generalize val p.xs ^ k = v at *
  go_enter Tryd.func19, Tryd.ntmps19
  go_wp2_with fail
  refine (unhide KA').mono ?_
  rintro e w1 ⟨a, m, c, rfl, hs, hn, hbl⟩
  have HR := hide (show RSt _ _ _ _ _ (⟨a, m, c, fitN v⟩ :: _) from (unhide HS).res hbl hs hn)
  clear hs hn hbl KA'
  go_wp2_with fail
  refine ((unhide HR).tookF).mono ?_
  rintro e w2 ⟨rfl, hst⟩
  have H2 := hide hst
  clear hst
  go_wp2
  go_ret
  exact ⟨a, m, c, rfl, unhide H2⟩

theorem two_bits (k : Nat) : bitN (2 ^ k) k = 1 ∧ ∀ i, i ≠ k → bitN (2 ^ k) i = 0 := by
  unfold bitN
  refine ⟨by rw [Nat.div_self (Nat.two_pow_pos k)], ?_⟩
  intro i hi
  rcases Nat.lt_or_ge i k with h | h
  · obtain ⟨d, rfl⟩ : ∃ d, k = i + (d + 1) := ⟨k - i - 1, by omega⟩
    rw [Nat.pow_add, Nat.mul_div_cancel_left _ (Nat.two_pow_pos i), Nat.pow_succ]
    omega
  · rw [Nat.div_eq_of_lt (Nat.pow_lt_pow_right (by decide) (by omega))]
theorem two_sum (k : Nat) : ∀ (m : Nat), sumB (2 ^ k) m = if k < m then 1 else 0
  | 0 => by simp [sumB]
  | m + 1 => by
    simp only [sumB]
    rw [two_sum k m]
    by_cases e : m = k
    · subst e
      rw [(two_bits m).1]
      simp
    · rw [(two_bits k).2 m e]
      by_cases l : k < m
      · rw [if_pos l, if_pos (by omega)]
      · rw [if_neg l, if_neg (by omega)]
theorem two_len {k : Nat} (hk : k ≤ 1024) : (limbs (2 ^ k)).length ≤ 33 := by
  obtain ⟨E, hE⟩ : ∃ E : Nat, E = 33 := ⟨_, rfl⟩
  rw [← hE]
  refine rep_len_le (limbs_rep _) ?_
  rw [pow_limb]
  exact Nat.pow_lt_pow_right (by decide) (by omega)
theorem two_may {k : Nat} (hk : k ≤ 1024) : MayL (limbs (2 ^ k)) = true := MayL.mk (limbs_rep _).norm (by have := two_len hk; omega)
theorem two_bitsN (k : Nat) : bitsN (limbs (2 ^ k)) = k + 1 := by
  have h := (limbs_rep (2 ^ k)).val
  refine bits_unique (limbs_rep _).ok (limbs_rep _).norm (by rw [h]; exact Nat.le_refl _) ?_
  rw [h]
  exact Nat.pow_lt_pow_right (by decide) (by omega)
theorem two_ones (k : Nat) : onesN (limbs (2 ^ k)) = 1 := by
  have h1 := sumB_ones (limbs_rep (2 ^ k)).ok (limbs (2 ^ k)).length
  rw [(limbs_rep _).val, two_sum] at h1
  unfold onesN
  rw [← h1, if_pos]
  have h2 := val_lt (limbs_rep (2 ^ k)).ok
  rw [(limbs_rep _).val, pow_limb] at h2
  exact (Nat.pow_lt_pow_iff_right (by decide : 1 < 2)).1 h2
theorem two_tail {k t : Nat} (h : IsTail (2 ^ k) t) : t = k := h.unique (.inr ⟨(two_bits k).1, fun j hj => (two_bits k).2 j (by omega)⟩)
theorem two_fit {k : Nat} (hk : k ≤ 1024) : fitL (2 ^ k) = (limbs (2 ^ k), 0) := fitL_ok (by have := two_len hk; omega)
theorem rep_2 : Rep 2 [2] := ⟨Ok.cons (by decide) Ok.nil, .inr (by decide), by simp [val]⟩
theorem root_self {n k R : Nat} (hk : 1 ≤ k) (h : IsRoot (n ^ k) k R) : R = n := h.unique ⟨Nat.le_refl _, Nat.pow_lt_pow_left (by omega) (by omega)⟩
theorem big_pow {n j k : Nat} (h : bigN (n ^ (j + k)) = false) : bigN (n ^ j * n ^ k) = false := by rw [← Nat.pow_add]; exact h
theorem shlL_nat {xs : List Nat} {k : Nat} (m : MayL xs = true) (hk : k ≤ 1024) : shlL xs (k : Int) = fitL (val xs * 2 ^ k) := by
  unfold shlL
  rw [m]
  simp only [if_true]
  rw [if_pos (by omega)]
  rfl
theorem shrL_nat {xs : List Nat} {k : Nat} (m : MayL xs = true) (hk : k ≤ 1024) : shrL xs (k : Int) = (limbs (val xs / 2 ^ k), 0) := by
  unfold shrL
  rw [m]
  simp only [if_true]
  rw [if_pos (by omega)]
  rfl
theorem divL_two {xs : List Nat} {k : Nat} (m : MayL xs = true) (hk : k ≤ 1024) : divL xs (limbs (2 ^ k)) = (limbs (val xs / 2 ^ k), limbs (val xs % 2 ^ k), 0) := by
  have hne : limbs (2 ^ k) ≠ [] := by
    intro e
    have := (limbs_rep (2 ^ k)).val
    rw [e] at this
    have h2 := Nat.two_pow_pos k
    simp only [val] at this
    omega
  simp [divL, m, two_may hk, hne, (limbs_rep (2 ^ k)).val]
end Go.Proofs.YtpnhmaenmmelnaaDoor
