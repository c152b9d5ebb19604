/-
  natural.Root: contract.
-/
import Derived.Test.YtpnhmaenmmelnaaDoorRt4
import Derived.Test.YtpnhmaenmmelnaaDoorSub
namespace Go.Proofs.YtpnhmaenmmelnaaDoor
open Go.RowKit Go.Deep
set_option linter.unusedVariables false

set_option maxHeartbeats 4000000 in
theorem nroot_ok (a : Option Addr) (n c : Nat) (xs : List Nat) (k : Nat) (w : World) (h : Sl w a n c xs) (ox : Ok xs) (m : MayL xs = true) (hk : 1 ≤ k) (hk2 : k ≤ 1024) :
    Calls Tryd.prog 20 #[.slice a n c, .int .i64 (k : Nat)] w fun e w' => ∃ r, IsRoot (val xs) k r ∧ Res3 w w' (limbs r, decide (r ^ k = val xs), 0) e := by
  have K1 := may_any a n c xs w h
  rw [m] at K1
  have K1' := hide K1
  have nx := MayL.norm m
  have hn : n ≤ 2048 := by have := h.len; have := MayL.len m; omega
  have KR := hide (root_any a n c xs k w h ox nx hn hk hk2)
  have H := hide h
  have t1 : ¬ (k:Int) < 1 := by omega
  have t2 : ¬ (1024:Int) < (k:Int) := by omega
  clear K1 h m
  go_enter Tryd.func20, Tryd.ntmps20
  go_wp2_with fail
  refine (unhide K1').mono ?_
  rintro e w' ⟨rfl, hw⟩
  obtain rfl := hw.symm
  clear hw K1'
  go_wp2_with fail
  refine (unhide KR).mono ?_
  rintro e w1 ⟨r, hr, az, mz, zs, rfl, s1, r1, n1, b1⟩
  have hlz : mz ≤ 2048 := by
    have h1 : zs.length ≤ n := by
      refine rep_len_leS r1 ?_
      have h2 := root_le hr hk
      have h3 := val_lt ox
      rw [(unhide H).len] at h3
      omega
    have := s1.len
    omega
  have KP := power_any az mz mz zs k w1 s1 r1.ok (by omega) hk2
  rw [r1.val] at KP
  have KP' := hide KP
  have H1 := hide (And.intro hr (And.intro s1 (And.intro r1 (And.intro n1 b1))))
  clear KP hr s1 r1 n1 b1 KR
  go_wp2_with fail
  refine (unhide KP').mono ?_
  rintro e w2 ⟨a2, m2, z2, rfl, s2, r2, n2, b2⟩
  have hb1 := (unhide H1).2.2.2.2
  have hB2 := hb1.trans (b2.mono hb1.size)
  have KC := compare_any a2 a m2 m2 n c z2 xs w2 s2 ((unhide H).below hB2) r2.ok ox r2.norm nx
  rw [r2.val] at KC
  have HS := hide (And.intro ((unhide H1).2.1.below b2) hB2)
  have hcase : (r ^ k = val xs ∧ cmpN (r ^ k) (val xs) = 0) ∨ (r ^ k ≠ val xs ∧ cmpN (r ^ k) (val xs) ≠ 0) := by
    by_cases e : r ^ k = val xs
    · exact .inl ⟨e, cmpN_eq e⟩
    · right
      refine ⟨e, ?_⟩
      rcases Nat.lt_or_ge (r ^ k) (val xs) with k | k
      · rw [cmpN_lt k]; decide
      · rw [cmpN_gt (by omega)]; decide
  clear s2 r2 n2 b2 hb1 hB2 KP'
  rcases hcase with ⟨he, hc⟩ | ⟨he, hc⟩
  · rw [hc] at KC
    have KC' := hide KC
    have HE := hide he
    clear KC he hc
    go_wp2_with fail
    refine (unhide KC').mono ?_
    rintro e w3 ⟨rfl, d, hw⟩
    have H3 := hide (show Sl w3 az mz mz zs ∧ Below w.heap.size w w3 from by rw [hw]; exact ⟨(unhide HS).1.drewN d, bel_drewN (unhide HS).2 d⟩)
    clear hw KC'
    go_wp2
    go_ret3
    obtain ⟨hr, s1, r1, n1, b1⟩ := unhide H1
    have s3 := (unhide H3).1
    rw [r1.eq] at s3
    refine ⟨r, hr, ?_⟩
    rw [show decide (r ^ k = val xs) = true from decide_eq_true (unhide HE)]
    exact ⟨az, mz, mz, rfl, s3, n1, (unhide H3).2⟩
  · have hc2 : ((cmpN (r ^ k) (val xs)) == 0) = false := by simp; exact hc
    generalize cmpN (r ^ k) (val xs) = cc at *
    have KC' := hide KC
    have HE := hide he
    clear KC he
    go_wp2_with fail
    refine (unhide KC').mono ?_
    rintro e w3 ⟨rfl, d, hw⟩
    have H3 := hide (show Sl w3 az mz mz zs ∧ Below w.heap.size w w3 from by rw [hw]; exact ⟨(unhide HS).1.drewN d, bel_drewN (unhide HS).2 d⟩)
    clear hw KC'
    go_wp2
    go_ret3
    obtain ⟨hr, s1, r1, n1, b1⟩ := unhide H1
    have s3 := (unhide H3).1
    rw [r1.eq] at s3
    refine ⟨r, hr, ?_⟩
    rw [show decide (r ^ k = val xs) = false from decide_eq_false (unhide HE)]
    exact ⟨az, mz, mz, rfl, s3, n1, (unhide H3).2⟩

set_option maxHeartbeats 1000000 in
theorem nroot_no (a : Option Addr) (n c : Nat) (xs : List Nat) (k : Int) (w : World) (h : Sl w a n c xs) (m : MayL xs = false) :
    Calls Tryd.prog 20 #[.slice a n c, .int .i64 k] w fun e w' => e = .returned (.tuple #[.slice none 0 0, .bool false, .int .i64 20]) ∧ w' = w := by
  have K1 := may_any a n c xs w h
  rw [m] at K1
  have K1' := hide K1
  clear K1 h m
  go_enter Tryd.func20, Tryd.ntmps20
  go_wp2_with fail
  refine (unhide K1').mono ?_
  rintro e w' ⟨rfl, hw⟩
  obtain rfl := hw.symm
  clear hw
  go_wp2
  go_ret3
  exact ⟨rfl, rfl⟩
set_option maxHeartbeats 1000000 in
theorem nroot_arg (a : Option Addr) (n c : Nat) (xs : List Nat) (k : Int) (w : World) (h : Sl w a n c xs) (m : MayL xs = true) (hk : k < 1 ∨ 1024 < k) :
    Calls Tryd.prog 20 #[.slice a n c, .int .i64 k] w fun e w' => e = .returned (.tuple #[.slice none 0 0, .bool false, .int .i64 1]) ∧ w' = w := by
  have K1 := may_any a n c xs w h
  rw [m] at K1
  have K1' := hide K1
  clear K1 h m
  rcases hk with hk | hk
  · go_enter Tryd.func20, Tryd.ntmps20
    go_wp2_with fail
    refine (unhide K1').mono ?_
    rintro e w' ⟨rfl, hw⟩
    obtain rfl := hw.symm
    clear hw
    go_wp2
    go_ret3
    exact ⟨rfl, rfl⟩
  · have hk2 : ¬ k < 1 := by omega
    go_enter Tryd.func20, Tryd.ntmps20
    go_wp2_with fail
    refine (unhide K1').mono ?_
    rintro e w' ⟨rfl, hw⟩
    obtain rfl := hw.symm
    clear hw
    go_wp2
    go_ret3
    exact ⟨rfl, rfl⟩
end Go.Proofs.YtpnhmaenmmelnaaDoor
