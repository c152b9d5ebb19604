/-
  THE LAW NatOrder: out of the contracts; the row's step.
-/
import Derived.Test.YtokgcpnnbajlkaaRng2
import Derived.Test.YtokgcpnnbajlkaaNBits
namespace Go.Proofs.Ytokgcpnnbajlkaa
open Go.ChangeShapes Go.WideShapes Go.ChangeAt Go.RowKit Go.Deep
set_option linter.unusedVariables false

theorem cmpL_may {xs ys : List Nat} (m1 : MayL xs = true) (m2 : MayL ys = true) : cmpL xs ys = cmpN (val xs) (val ys) := by simp [cmpL, m1, m2]
theorem cmpL_self (xs : List Nat) : cmpL xs xs = 0 := by
  unfold cmpL
  split
  · exact cmpN_eq rfl
  · rfl
theorem cmpN_le {a b : Nat} (h : a ≤ b) : cmpN a b ≤ 0 := by
  rcases Nat.lt_or_ge a b with k | k
  · rw [cmpN_lt k]; decide
  · rw [cmpN_eq (by omega)]; decide
theorem may_eq {xs ys : List Nat} (m1 : MayL xs = true) (m2 : MayL ys = true) (ox : Ok xs) (oy : Ok ys) (h : val xs = val ys) : xs = ys := by
  rw [← limbs_self m1 ox, ← limbs_self m2 oy, h]
theorem cmpN_add (a b c : Nat) : cmpN (a + c) (b + c) = cmpN a b := by
  rcases Nat.lt_trichotomy a b with h | h | h
  · rw [cmpN_lt h, cmpN_lt (by omega)]
  · rw [cmpN_eq h, cmpN_eq (by omega)]
  · rw [cmpN_gt h, cmpN_gt (by omega)]
theorem cmpN_mul (a b c : Nat) (hc : 0 < c) : cmpN (a * c) (b * c) = cmpN a b := by
  rcases Nat.lt_trichotomy a b with h | h | h
  · rw [cmpN_lt h, cmpN_lt (Nat.mul_lt_mul_of_pos_right h hc)]
  · rw [cmpN_eq h, cmpN_eq (by rw [h])]
  · rw [cmpN_gt h, cmpN_gt (Nat.mul_lt_mul_of_pos_right h hc)]
theorem may_pos {xs : List Nat} (m : MayL xs = true) (h : xs ≠ []) : 0 < val xs := by
  have h1 := val_ge_of_norm (MayL.norm m) h
  have h2 := pow_pos (xs.length - 1)
  omega
theorem PSt.cmp {w w0 : World} {L : List Pc} (h : PSt w w0 L) (p q : Pc) (hp : p ∈ L) (hq : q ∈ L) (o1 : Ok p.xs) (o2 : Ok q.xs) (v : Int) (he : cmpL p.xs q.xs = v) :
    Calls Try.prog 18 #[.slice p.a p.n p.c, .slice q.a q.n q.c] w fun e w' => e = .returned (.int .i64 v) ∧ PSt w' w0 L := by
  have := h.quiet (ncmp_any p.a q.a p.n p.c q.n q.c p.xs q.xs w (h.all p hp) (h.all q hq) o1 o2)
  rwa [he] at this
theorem RSt.cmp {w w0 : World} {K : Nat} {bad wrong : Bool} {L : List Pc} (h : RSt w w0 K bad wrong L) (p q : Pc) (hp : p ∈ L) (hq : q ∈ L) (o1 : Ok p.xs) (o2 : Ok q.xs) (v : Int) (he : cmpL p.xs q.xs = v) :
    Calls Try.prog 18 #[.slice p.a p.n p.c, .slice q.a q.n q.c] w fun e w' => e = .returned (.int .i64 v) ∧ RSt w' w0 K bad wrong L := by
  have := h.quiet (ncmp_any p.a q.a p.n p.c q.n q.c p.xs q.xs w (h.sl p hp) (h.sl q hq) o1 o2)
  rwa [he] at this

set_option maxHeartbeats 32000000 in
theorem natOrder_walk (a1 a2 a3 : Option Addr) (n1 c1 n2 c2 n3 c3 : Nat) (xs ys zs : List Nat) (w : World) (h1 : Sl w a1 n1 c1 xs) (h2 : Sl w a2 n2 c2 ys) (h3 : Sl w a3 n3 c3 zs) (ox : Ok xs) (oy : Ok ys) (oz : Ok zs) :
    Calls Try.prog 13 #[.slice a1 n1 c1, .slice a2 n2 c2, .slice a3 n3 c3] w fun e w' => e = .returned (.bool true) ∧ Below w.heap.size w w' := by
  have HS0 := hide (show PSt w w [⟨a1, n1, c1, xs⟩, ⟨a2, n2, c2, ys⟩, ⟨a3, n3, c3, zs⟩, ⟨none, 0, 0, []⟩] from ⟨Below.refl _ _, by intro p hp; simp at hp; rcases hp with rfl | rfl | rfl | rfl; exact h1; exact h2; exact h3; exact sl_nil _⟩)
  clear h1 h2 h3
  go_enter Try.func13, Try.ntmps13
  go_wp2_with fail
  refine (alive_any _).mono ?_
  rintro e w1 ⟨rfl, hb⟩
  have HS1 := hide ((unhide HS0).keep hb)
  clear hb HS0
  go_wp2_with fail
  refine ((unhide HS1).may3 ⟨a1, n1, c1, xs⟩ ⟨a2, n2, c2, ys⟩ ⟨a3, n3, c3, zs⟩ (by simp) (by simp) (by simp) _).mono ?_
  rintro e w2 ⟨rfl, hst⟩
  have HS2 := hide hst
  clear hst HS1
  simp only
  cases hm : MayL xs && (MayL ys && MayL zs)
  · have HS := HS2
    clear HS2
    go_wp2_with fail
    refine ((unhide HS).cmp ⟨a1, n1, c1, xs⟩ ⟨a1, n1, c1, xs⟩ (by simp) (by simp) ox ox 0 (cmpL_self _)).mono ?_
    rintro e w11 ⟨rfl, hst⟩
    clear HS
    have HS := hide hst
    clear hst
    go_wp2
    go_ret
    exact ⟨rfl, (unhide HS).bel⟩
  · simp only [Bool.and_eq_true] at hm
    obtain ⟨m1, m2, m3⟩ := hm
    have M1 := hide m1
    have M2 := hide m2
    have M3 := hide m3
    clear m1 m2 m3
    have HS := HS2
    clear HS2
    rcases Nat.lt_trichotomy (val xs) (val ys) with ho | ho | ho
    · have HO := hide ho
      clear ho
      go_wp2_with fail
      refine ((unhide HS).cmp ⟨a1, n1, c1, xs⟩ ⟨a2, n2, c2, ys⟩ (by simp) (by simp) ox oy (-1) ((cmpL_may (unhide M1) (unhide M2)).trans (cmpN_lt (unhide HO)))).mono ?_
      rintro e w11 ⟨rfl, hst⟩
      clear HS
      have HS := hide hst
      clear hst
      go_wp2_with fail
      refine ((unhide HS).cmp ⟨a2, n2, c2, ys⟩ ⟨a1, n1, c1, xs⟩ (by simp) (by simp) oy ox (1) ((cmpL_may (unhide M2) (unhide M1)).trans (cmpN_gt (unhide HO)))).mono ?_
      rintro e w12 ⟨rfl, hst⟩
      clear HS
      have HS := hide hst
      clear hst
      go_wp2_with fail
      refine ((unhide HS).same ⟨a1, n1, c1, xs⟩ ⟨a2, n2, c2, ys⟩ (by simp) (by simp) false (decide_eq_false (fun e => Nat.ne_of_lt (unhide HO) (by rw [show xs = ys from e])))).mono ?_
      rintro e w13 ⟨rfl, hst⟩
      clear HS
      have HS := hide hst
      clear hst
      by_cases hz : val ys ≤ val zs
      focus
        have hu := cmpN_le hz
        have hv := cmpN_le (Nat.le_trans (Nat.le_of_lt (unhide HO)) hz)
        have HU := hide ((cmpL_may (unhide M2) (unhide M3)))
        have HV := hide ((cmpL_may (unhide M1) (unhide M3)))
        generalize cmpN (val ys) (val zs) = u at HU hu
        generalize cmpN (val xs) (val zs) = v at HV hv
        have hv' : ¬ 0 < v := by omega
        clear hz hv
        go_wp2_with fail
        refine ((unhide HS).cmp ⟨a2, n2, c2, ys⟩ ⟨a3, n3, c3, zs⟩ (by simp) (by simp) oy oz u (unhide HU)).mono ?_
        rintro e w14 ⟨rfl, hst⟩
        clear HS
        have HS := hide hst
        clear hst
        go_wp2_with fail
        refine ((unhide HS).cmp ⟨a1, n1, c1, xs⟩ ⟨a3, n3, c3, zs⟩ (by simp) (by simp) ox oz v (unhide HV)).mono ?_
        rintro e w15 ⟨rfl, hst⟩
        clear HS
        have HS := hide hst
        clear hst
        go_wp2_with fail
      rotate_left
      focus
        have HZ := hide hz
        clear hz
        go_wp2_with fail
        refine ((unhide HS).cmp ⟨a2, n2, c2, ys⟩ ⟨a3, n3, c3, zs⟩ (by simp) (by simp) oy oz 1 ((cmpL_may (unhide M2) (unhide M3)).trans (cmpN_gt (by have := unhide HZ; omega)))).mono ?_
        rintro e w16 ⟨rfl, hst⟩
        clear HS
        have HS := hide hst
        clear hst
        go_wp2_with fail
      all_goals
        have hbm : ¬ ((bitsN ys : Nat) : Int) < ((bitsN xs : Nat) : Int) := by have := bitsN_mono ox oy (MayL.norm (unhide M1)) (Nat.le_of_lt (unhide HO)); omega
        go_wp2_with fail
        refine (nbits_any a1 n1 c1 xs _ ((unhide HS).all ⟨a1, n1, c1, xs⟩ (by simp)) ox (unhide M1)).mono ?_
        rintro e w' ⟨rfl, hw⟩
        obtain rfl := hw.symm
        go_wp2_with fail
        refine (nbits_any a2 n2 c2 ys _ ((unhide HS).all ⟨a2, n2, c2, ys⟩ (by simp)) oy (unhide M2)).mono ?_
        rintro e w' ⟨rfl, hw⟩
        obtain rfl := hw.symm
        generalize bitsN xs = bx at *
        generalize bitsN ys = by1 at *
        have HK := hide ((unhide HS).flags 72)
        clear HS
        have HS := HK
        clear HK
        go_wp2_with fail
        refine ((unhide HS).add ⟨a1, n1, c1, xs⟩ ⟨a3, n3, c3, zs⟩ (by simp) (by simp) (unhide M1) (unhide M3) ox oz).mono ?_
        rintro e w17 ⟨a17, m17, d17, rfl, hst⟩
        simp only at hst
        clear HS
        have HS := hide hst
        clear hst
        try clear hbm
        go_wp2_with fail
        refine ((unhide HS).add ⟨a2, n2, c2, ys⟩ ⟨a3, n3, c3, zs⟩ (by simp) (by simp) (unhide M2) (unhide M3) oy oz).mono ?_
        rintro e w18 ⟨a18, m18, d18, rfl, hst⟩
        simp only at hst
        clear HS
        have HS := hide hst
        clear hst
        cases hB : ((false || bigN (val xs + val zs)) || bigN (val ys + val zs)) <;> rw [hB] at HS
        focus
          simp only [Bool.false_or, Bool.or_eq_false_iff] at hB
          have B1 := hide hB.1
          have B2 := hide hB.2
          clear hB
          have f0 := (unhide HS).c0
          have f1 := (unhide HS).c1
          go_wp2_with fail
          refine ((unhide HS).cmp ⟨a17, m17, d17, fitN (val xs + val zs)⟩ ⟨a18, m18, d18, fitN (val ys + val zs)⟩ (by simp) (by simp) (fitN_isOk _) (fitN_isOk _) (-1) ((cmpL_may (fitN_may _) (fitN_may _)).trans (by rw [fitN_val (unhide B1), fitN_val (unhide B2), cmpN_add]; exact cmpN_lt (unhide HO)))).mono ?_
          rintro e w19 ⟨rfl, hst⟩
          clear HS
          have HS := hide hst
          clear hst
          clear f0 f1 B1 B2
        rotate_left
        focus
          clear hB
          have f0 := (unhide HS).c0
          have f1 := (unhide HS).c1
        all_goals
          have HK := hide ((unhide HS).p.flags 72)
          clear HS
          have HS := HK
          clear HK
          go_wp2_with fail
          refine ((unhide HS).mul ⟨a1, n1, c1, xs⟩ ⟨a3, n3, c3, zs⟩ (by simp) (by simp) (unhide M1) (unhide M3) ox oz).mono ?_
          rintro e w20 ⟨a20, m20, d20, rfl, hst⟩
          simp only at hst
          clear HS
          have HS := hide hst
          clear hst
          try clear f0 f1
          go_wp2_with fail
          refine ((unhide HS).mul ⟨a2, n2, c2, ys⟩ ⟨a3, n3, c3, zs⟩ (by simp) (by simp) (unhide M2) (unhide M3) oy oz).mono ?_
          rintro e w21 ⟨a21, m21, d21, rfl, hst⟩
          simp only at hst
          clear HS
          have HS := hide hst
          clear hst
          cases hB : ((false || bigN (val xs * val zs)) || bigN (val ys * val zs)) <;> rw [hB] at HS
          · simp only [Bool.false_or, Bool.or_eq_false_iff] at hB
            have B1 := hide hB.1
            have B2 := hide hB.2
            clear hB
            have f0 := (unhide HS).c0
            have f1 := (unhide HS).c1
            by_cases hn : n3 = 0
            · subst hn
              go_wp2
              go_ret
              exact ⟨rfl, (unhide HS).bel⟩
            · have hn1 : ((n3:Int) == 0) = false := by simp; omega
              have hn2 : ¬ (n3:Int) = 0 := by omega
              have HZ := hide (may_pos (unhide M3) (by have := ((unhide HS).sl ⟨a3, n3, c3, zs⟩ (by simp)).len; simp only at this; intro e; rw [e] at this; simp at this; omega))
              go_wp2_with fail
              refine ((unhide HS).cmp ⟨a20, m20, d20, fitN (val xs * val zs)⟩ ⟨a21, m21, d21, fitN (val ys * val zs)⟩ (by simp) (by simp) (fitN_isOk _) (fitN_isOk _) (-1) ((cmpL_may (fitN_may _) (fitN_may _)).trans (by rw [fitN_val (unhide B1), fitN_val (unhide B2), cmpN_mul _ _ _ (unhide HZ)]; exact cmpN_lt (unhide HO)))).mono ?_
              rintro e w22 ⟨rfl, hst⟩
              clear HS
              have HS := hide hst
              clear hst
              go_wp2
              go_ret
              exact ⟨rfl, (unhide HS).bel⟩
          · clear hB
            have f0 := (unhide HS).c0
            have f1 := (unhide HS).c1
            go_wp2
            go_ret
            exact ⟨rfl, (unhide HS).bel⟩
    · have HO := hide ho
      clear ho
      go_wp2_with fail
      refine ((unhide HS).cmp ⟨a1, n1, c1, xs⟩ ⟨a2, n2, c2, ys⟩ (by simp) (by simp) ox oy (0) ((cmpL_may (unhide M1) (unhide M2)).trans (cmpN_eq (unhide HO)))).mono ?_
      rintro e w23 ⟨rfl, hst⟩
      clear HS
      have HS := hide hst
      clear hst
      go_wp2_with fail
      refine ((unhide HS).cmp ⟨a2, n2, c2, ys⟩ ⟨a1, n1, c1, xs⟩ (by simp) (by simp) oy ox (0) ((cmpL_may (unhide M2) (unhide M1)).trans (cmpN_eq (unhide HO).symm))).mono ?_
      rintro e w24 ⟨rfl, hst⟩
      clear HS
      have HS := hide hst
      clear hst
      go_wp2_with fail
      refine ((unhide HS).same ⟨a1, n1, c1, xs⟩ ⟨a2, n2, c2, ys⟩ (by simp) (by simp) true (decide_eq_true (may_eq (unhide M1) (unhide M2) ox oy (unhide HO)))).mono ?_
      rintro e w25 ⟨rfl, hst⟩
      clear HS
      have HS := hide hst
      clear hst
      by_cases hz : val ys ≤ val zs
      focus
        have hu := cmpN_le hz
        have hv := cmpN_le (Nat.le_trans (Nat.le_of_eq (unhide HO)) hz)
        have HU := hide ((cmpL_may (unhide M2) (unhide M3)))
        have HV := hide ((cmpL_may (unhide M1) (unhide M3)))
        generalize cmpN (val ys) (val zs) = u at HU hu
        generalize cmpN (val xs) (val zs) = v at HV hv
        have hv' : ¬ 0 < v := by omega
        clear hz hv
        go_wp2_with fail
        refine ((unhide HS).cmp ⟨a2, n2, c2, ys⟩ ⟨a3, n3, c3, zs⟩ (by simp) (by simp) oy oz u (unhide HU)).mono ?_
        rintro e w26 ⟨rfl, hst⟩
        clear HS
        have HS := hide hst
        clear hst
        go_wp2_with fail
        refine ((unhide HS).cmp ⟨a1, n1, c1, xs⟩ ⟨a3, n3, c3, zs⟩ (by simp) (by simp) ox oz v (unhide HV)).mono ?_
        rintro e w27 ⟨rfl, hst⟩
        clear HS
        have HS := hide hst
        clear hst
        go_wp2_with fail
      rotate_left
      focus
        have HZ := hide hz
        clear hz
        go_wp2_with fail
        refine ((unhide HS).cmp ⟨a2, n2, c2, ys⟩ ⟨a3, n3, c3, zs⟩ (by simp) (by simp) oy oz 1 ((cmpL_may (unhide M2) (unhide M3)).trans (cmpN_gt (by have := unhide HZ; omega)))).mono ?_
        rintro e w28 ⟨rfl, hst⟩
        clear HS
        have HS := hide hst
        clear hst
        go_wp2_with fail
      all_goals
        have HK := hide ((unhide HS).flags 72)
        clear HS
        have HS := HK
        clear HK
        go_wp2_with fail
        refine ((unhide HS).add ⟨a1, n1, c1, xs⟩ ⟨a3, n3, c3, zs⟩ (by simp) (by simp) (unhide M1) (unhide M3) ox oz).mono ?_
        rintro e w29 ⟨a29, m29, d29, rfl, hst⟩
        simp only at hst
        clear HS
        have HS := hide hst
        clear hst
        try clear hbm
        go_wp2_with fail
        refine ((unhide HS).add ⟨a2, n2, c2, ys⟩ ⟨a3, n3, c3, zs⟩ (by simp) (by simp) (unhide M2) (unhide M3) oy oz).mono ?_
        rintro e w30 ⟨a30, m30, d30, rfl, hst⟩
        simp only at hst
        clear HS
        have HS := hide hst
        clear hst
        cases hB : ((false || bigN (val xs + val zs)) || bigN (val ys + val zs)) <;> rw [hB] at HS
        focus
          simp only [Bool.false_or, Bool.or_eq_false_iff] at hB
          have B1 := hide hB.1
          have B2 := hide hB.2
          clear hB
          have f0 := (unhide HS).c0
          have f1 := (unhide HS).c1
          go_wp2_with fail
          refine ((unhide HS).cmp ⟨a29, m29, d29, fitN (val xs + val zs)⟩ ⟨a30, m30, d30, fitN (val ys + val zs)⟩ (by simp) (by simp) (fitN_isOk _) (fitN_isOk _) (0) ((cmpL_may (fitN_may _) (fitN_may _)).trans (by rw [fitN_val (unhide B1), fitN_val (unhide B2), cmpN_add]; exact cmpN_eq (unhide HO)))).mono ?_
          rintro e w31 ⟨rfl, hst⟩
          clear HS
          have HS := hide hst
          clear hst
          clear f0 f1 B1 B2
        rotate_left
        focus
          clear hB
          have f0 := (unhide HS).c0
          have f1 := (unhide HS).c1
        all_goals
          have HK := hide ((unhide HS).p.flags 72)
          clear HS
          have HS := HK
          clear HK
          go_wp2_with fail
          refine ((unhide HS).mul ⟨a1, n1, c1, xs⟩ ⟨a3, n3, c3, zs⟩ (by simp) (by simp) (unhide M1) (unhide M3) ox oz).mono ?_
          rintro e w32 ⟨a32, m32, d32, rfl, hst⟩
          simp only at hst
          clear HS
          have HS := hide hst
          clear hst
          try clear f0 f1
          go_wp2_with fail
          refine ((unhide HS).mul ⟨a2, n2, c2, ys⟩ ⟨a3, n3, c3, zs⟩ (by simp) (by simp) (unhide M2) (unhide M3) oy oz).mono ?_
          rintro e w33 ⟨a33, m33, d33, rfl, hst⟩
          simp only at hst
          clear HS
          have HS := hide hst
          clear hst
          cases hB : ((false || bigN (val xs * val zs)) || bigN (val ys * val zs)) <;> rw [hB] at HS
          · simp only [Bool.false_or, Bool.or_eq_false_iff] at hB
            have B1 := hide hB.1
            have B2 := hide hB.2
            clear hB
            have f0 := (unhide HS).c0
            have f1 := (unhide HS).c1
            by_cases hn : n3 = 0
            · subst hn
              go_wp2
              go_ret
              exact ⟨rfl, (unhide HS).bel⟩
            · have hn1 : ((n3:Int) == 0) = false := by simp; omega
              have hn2 : ¬ (n3:Int) = 0 := by omega
              have HZ := hide (may_pos (unhide M3) (by have := ((unhide HS).sl ⟨a3, n3, c3, zs⟩ (by simp)).len; simp only at this; intro e; rw [e] at this; simp at this; omega))
              go_wp2_with fail
              refine ((unhide HS).cmp ⟨a32, m32, d32, fitN (val xs * val zs)⟩ ⟨a33, m33, d33, fitN (val ys * val zs)⟩ (by simp) (by simp) (fitN_isOk _) (fitN_isOk _) (0) ((cmpL_may (fitN_may _) (fitN_may _)).trans (by rw [fitN_val (unhide B1), fitN_val (unhide B2), cmpN_mul _ _ _ (unhide HZ)]; exact cmpN_eq (unhide HO)))).mono ?_
              rintro e w34 ⟨rfl, hst⟩
              clear HS
              have HS := hide hst
              clear hst
              go_wp2
              go_ret
              exact ⟨rfl, (unhide HS).bel⟩
          · clear hB
            have f0 := (unhide HS).c0
            have f1 := (unhide HS).c1
            go_wp2
            go_ret
            exact ⟨rfl, (unhide HS).bel⟩
    · have HO := hide ho
      clear ho
      go_wp2_with fail
      refine ((unhide HS).cmp ⟨a1, n1, c1, xs⟩ ⟨a2, n2, c2, ys⟩ (by simp) (by simp) ox oy (1) ((cmpL_may (unhide M1) (unhide M2)).trans (cmpN_gt (unhide HO)))).mono ?_
      rintro e w35 ⟨rfl, hst⟩
      clear HS
      have HS := hide hst
      clear hst
      go_wp2_with fail
      refine ((unhide HS).cmp ⟨a2, n2, c2, ys⟩ ⟨a1, n1, c1, xs⟩ (by simp) (by simp) oy ox (-1) ((cmpL_may (unhide M2) (unhide M1)).trans (cmpN_lt (unhide HO)))).mono ?_
      rintro e w36 ⟨rfl, hst⟩
      clear HS
      have HS := hide hst
      clear hst
      go_wp2_with fail
      refine ((unhide HS).same ⟨a1, n1, c1, xs⟩ ⟨a2, n2, c2, ys⟩ (by simp) (by simp) false (decide_eq_false (fun e => Nat.ne_of_gt (unhide HO) (by rw [show xs = ys from e])))).mono ?_
      rintro e w37 ⟨rfl, hst⟩
      clear HS
      have HS := hide hst
      clear hst
      have HK := hide ((unhide HS).flags 72)
      clear HS
      have HS := HK
      clear HK
      go_wp2_with fail
      refine ((unhide HS).add ⟨a1, n1, c1, xs⟩ ⟨a3, n3, c3, zs⟩ (by simp) (by simp) (unhide M1) (unhide M3) ox oz).mono ?_
      rintro e w38 ⟨a38, m38, d38, rfl, hst⟩
      simp only at hst
      clear HS
      have HS := hide hst
      clear hst
      try clear hbm
      go_wp2_with fail
      refine ((unhide HS).add ⟨a2, n2, c2, ys⟩ ⟨a3, n3, c3, zs⟩ (by simp) (by simp) (unhide M2) (unhide M3) oy oz).mono ?_
      rintro e w39 ⟨a39, m39, d39, rfl, hst⟩
      simp only at hst
      clear HS
      have HS := hide hst
      clear hst
      cases hB : ((false || bigN (val xs + val zs)) || bigN (val ys + val zs)) <;> rw [hB] at HS
      focus
        simp only [Bool.false_or, Bool.or_eq_false_iff] at hB
        have B1 := hide hB.1
        have B2 := hide hB.2
        clear hB
        have f0 := (unhide HS).c0
        have f1 := (unhide HS).c1
        go_wp2_with fail
        refine ((unhide HS).cmp ⟨a38, m38, d38, fitN (val xs + val zs)⟩ ⟨a39, m39, d39, fitN (val ys + val zs)⟩ (by simp) (by simp) (fitN_isOk _) (fitN_isOk _) (1) ((cmpL_may (fitN_may _) (fitN_may _)).trans (by rw [fitN_val (unhide B1), fitN_val (unhide B2), cmpN_add]; exact cmpN_gt (unhide HO)))).mono ?_
        rintro e w40 ⟨rfl, hst⟩
        clear HS
        have HS := hide hst
        clear hst
        clear f0 f1 B1 B2
      rotate_left
      focus
        clear hB
        have f0 := (unhide HS).c0
        have f1 := (unhide HS).c1
      all_goals
        have HK := hide ((unhide HS).p.flags 72)
        clear HS
        have HS := HK
        clear HK
        go_wp2_with fail
        refine ((unhide HS).mul ⟨a1, n1, c1, xs⟩ ⟨a3, n3, c3, zs⟩ (by simp) (by simp) (unhide M1) (unhide M3) ox oz).mono ?_
        rintro e w41 ⟨a41, m41, d41, rfl, hst⟩
        simp only at hst
        clear HS
        have HS := hide hst
        clear hst
        try clear f0 f1
        go_wp2_with fail
        refine ((unhide HS).mul ⟨a2, n2, c2, ys⟩ ⟨a3, n3, c3, zs⟩ (by simp) (by simp) (unhide M2) (unhide M3) oy oz).mono ?_
        rintro e w42 ⟨a42, m42, d42, rfl, hst⟩
        simp only at hst
        clear HS
        have HS := hide hst
        clear hst
        cases hB : ((false || bigN (val xs * val zs)) || bigN (val ys * val zs)) <;> rw [hB] at HS
        · simp only [Bool.false_or, Bool.or_eq_false_iff] at hB
          have B1 := hide hB.1
          have B2 := hide hB.2
          clear hB
          have f0 := (unhide HS).c0
          have f1 := (unhide HS).c1
          by_cases hn : n3 = 0
          · subst hn
            go_wp2
            go_ret
            exact ⟨rfl, (unhide HS).bel⟩
          · have hn1 : ((n3:Int) == 0) = false := by simp; omega
            have hn2 : ¬ (n3:Int) = 0 := by omega
            have HZ := hide (may_pos (unhide M3) (by have := ((unhide HS).sl ⟨a3, n3, c3, zs⟩ (by simp)).len; simp only at this; intro e; rw [e] at this; simp at this; omega))
            go_wp2_with fail
            refine ((unhide HS).cmp ⟨a41, m41, d41, fitN (val xs * val zs)⟩ ⟨a42, m42, d42, fitN (val ys * val zs)⟩ (by simp) (by simp) (fitN_isOk _) (fitN_isOk _) (1) ((cmpL_may (fitN_may _) (fitN_may _)).trans (by rw [fitN_val (unhide B1), fitN_val (unhide B2), cmpN_mul _ _ _ (unhide HZ)]; exact cmpN_gt (unhide HO)))).mono ?_
            rintro e w43 ⟨rfl, hst⟩
            clear HS
            have HS := hide hst
            clear hst
            go_wp2
            go_ret
            exact ⟨rfl, (unhide HS).bel⟩
        · clear hB
          have f0 := (unhide HS).c0
          have f1 := (unhide HS).c1
          go_wp2
          go_ret
          exact ⟨rfl, (unhide HS).bel⟩

set_option maxRecDepth 100000 in
theorem natOrder_lifted (os : Os) (started : os.Started) (H : Type) (enc : TypeId × Value → H) :
    ReturnsInHanded {} Try.checked os 13 .any (Rows.natOrderSpec.pre6 enc Try.prog Try.f13 Rows.natOrderRow.domain false) (Rows.natOrderSpec.post enc Try.prog Try.f13 false true false false) := by
  refine returnsInHanded_of_change_sized (C := Try.checked) law_own started (by kernel_rfl) Try.func13
    (ChangeSpec.witness6 (enc := enc) (C := Try.checked) false ⟨#[], #[.slice none 0 0, .slice none 0 0, .slice none 0 0], []⟩ 8 (by kernel_rfl) (by kernel_rfl) (by kernel_rfl) (by kernel_rfl)) ?_
  intro W base args ds gs before hval0 hW hcnd hsz _
  have hval : ∀ (j : Nat) t v, Try.f13.params[j]? = some t → args[j]? = some v → Value.okWide Try.prog W .any base t v := hval0
  have hW' := hW
  obtain ⟨p, q, hA0, hV, rfl, hfz, hnd⟩ := hW
  have hA : DataW.TrodAll enc Try.prog W 0 (fun _ => true) true Try.f13.params.toList args.toList ds p := hA0
  rw [Try.params13] at hA hval hsz
  have r := hA
  obtain ⟨v0, vs0, d0, ds0, p0, q0, hargs, rfl, rfl, h0, r0⟩ := trodAll_cons hA
  obtain ⟨v1, vs1, d1, ds1, p1, q1, rfl, rfl, rfl, h1, r1⟩ := trodAll_cons r0
  obtain ⟨v2, vs2, d2, ds2, p2, q2, rfl, rfl, rfl, h2, r2⟩ := trodAll_cons r1
  obtain ⟨rfl, rfl, rfl⟩ := trodAll_nil r2
  obtain rfl : args = #[v0, v1, v2] := by cases args; simp_all
  obtain ⟨rfl, rfl⟩ := trodVars_none hV
  obtain ⟨a0, n0, c0, rfl⟩ := okWide_slice Try.underlying24 (hval 0 24 v0 rfl rfl)
  have k0 := h0
  have lt0 : ∀ x ∈ p0, x.block < W.heap.size := by obtain ⟨m, hm⟩ := k0; exact DataW.trod_lt m _ _ _ hm
  obtain ⟨x0, s0, o0, b0⟩ := arg_limbs h0 (fun el sp e => by subst e; exact sized_slice (j := 0) hsz rfl rfl Try.underlying24)
  obtain ⟨a1, n1, c1, rfl⟩ := okWide_slice Try.underlying24 (hval 1 24 v1 rfl rfl)
  have k1 := h1
  have lt1 : ∀ x ∈ p1, x.block < W.heap.size := by obtain ⟨m, hm⟩ := k1; exact DataW.trod_lt m _ _ _ hm
  obtain ⟨x1, s1, o1, b1⟩ := arg_limbs h1 (fun el sp e => by subst e; exact sized_slice (j := 1) hsz rfl rfl Try.underlying24)
  obtain ⟨a2, n2, c2, rfl⟩ := okWide_slice Try.underlying24 (hval 2 24 v2 rfl rfl)
  have k2 := h2
  have lt2 : ∀ x ∈ p2, x.block < W.heap.size := by obtain ⟨m, hm⟩ := k2; exact DataW.trod_lt m _ _ _ hm
  obtain ⟨x2, s2, o2, b2⟩ := arg_limbs h2 (fun el sp e => by subst e; exact sized_slice (j := 2) hsz rfl rfl Try.underlying24)
  clear hA0 hval0
  refine (natOrder_walk a0 a1 a2 n0 c0 n1 c1 n2 c2 x0 x1 x2 W s0 s1 s2 o0 o1 o2).mono fun e W' ⟨he, bel⟩ => ?_
  subst he
  exact ⟨_, rfl, _, _, _, [], _, [], hW', trodAll_mk1 (shut_bool Try.underlying4 _), (trodAll_cons_mk (Below.trod law_laid (by kernel_rfl) (of_decide_eq_true (by kernel_rfl)) k0 bel lt0) (trodAll_cons_mk (Below.trod law_laid (by kernel_rfl) (of_decide_eq_true (by kernel_rfl)) k1 bel lt1) (trodAll_cons_mk (Below.trod law_laid (by kernel_rfl) (of_decide_eq_true (by kernel_rfl)) k2 bel lt2) trodAll_mk0))), rfl, bel.frame _, fun h => by cases h⟩

theorem natOrder_holds : Rows.NatOrderSaid :=
  OpenClaim.holds_of_wide 13 Try.f13 rfl rfl rfl rfl rfl rfl rfl ⟨rfl, rfl, rfl, rfl, rfl⟩ rfl rfl rfl rfl rfl (by kernel_rfl) Try.func13 (by kernel_rfl)
    (of_decide_eq_true (by kernel_rfl)) (by unfold Func.isWrapper; first | (rw [if_pos (by decide +kernel)]; kernel_rfl) | (rw [if_neg (by decide +kernel)]; exact ⟨rfl, rfl⟩))
    (fun os started H enc _ => natOrder_lifted os started H enc)
#print axioms natOrder_holds
end Go.Proofs.Ytokgcpnnbajlkaa
