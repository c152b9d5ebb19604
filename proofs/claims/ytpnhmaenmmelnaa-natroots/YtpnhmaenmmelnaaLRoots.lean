/-
  THE LAW NatRoots: out of the contracts; the row's step.
-/
import Derived.Test.YtpnhmaenmmelnaaRng2
import Derived.Test.YtpnhmaenmmelnaaRt5
import Derived.Test.YtpnhmaenmmelnaaPw2
namespace Go.Proofs.Ytpnhmaenmmelnaa
open Go.ChangeShapes Go.WideShapes Go.ChangeAt Go.RowKit Go.Deep
set_option linter.unusedVariables false

theorem cmpL_mm {xs ys : List Nat} (m1 : MayL xs = true) (m2 : MayL ys = true) : cmpL xs ys = cmpN (val xs) (val ys) := by simp [cmpL, m1, m2]
theorem may_lim {xs : List Nat} (m : MayL xs = true) (ox : Ok xs) {v : Nat} (h : v ≤ val xs) : MayL (limbs v) = true := by
  refine MayL.mk (limbs_rep _).norm ?_
  have h1 : (limbs v).length ≤ xs.length := rep_len_le (limbs_rep _) (Nat.lt_of_le_of_lt h (val_lt ox))
  have := MayL.len m
  omega
theorem fit_small {xs : List Nat} (m : MayL xs = true) (ox : Ok xs) {v : Nat} (h : v ≤ val xs) : fitL v = (limbs v, 0) := fitL_ok (by have := MayL.len (may_lim m ox h); omega)
theorem powL_lim {v k : Nat} (m : MayL (limbs v) = true) (hk : k ≤ 1024) : powL (limbs v) (k : Int) = fitL (v ^ k) := by
  unfold powL
  rw [m]
  simp only [if_true]
  rw [if_neg (by omega), (limbs_rep v).val]
  rfl

set_option maxHeartbeats 16000000 in
theorem natRoots_walk (a1 : Option Addr) (n1 c1 : Nat) (xs : List Nat) (k : Int) (w : World) (h1 : Sl w a1 n1 c1 xs) (ox : Ok xs) (hb1 : n1 ≤ 35184372088000) :
    Calls Try.prog 4 #[.slice a1 n1 c1, .int .i64 k] w fun e w' => e = .returned (.bool true) ∧ Below w.heap.size w w' := by
  have HS0 := hide (LawSt.begin (w := w) (L := [⟨a1, n1, c1, xs⟩]) _ rfl (by intro p hp; simp at hp; subst hp; exact h1))
  have H1 := hide h1
  clear h1
  cases hm : MayL xs
  · have HM := hide hm
    clear hm
    go_enter Try.func4, Try.ntmps4
    go_wp2_with fail
    refine ((unhide HS0).nat ⟨a1, n1, c1, xs⟩ (by simp) hb1 (by simp)).mono ?_
    rintro e w1 ⟨v01, v11, E1, rfl, hst⟩
    have HS1 := hide hst
    clear hst HS0
    go_wp2_with fail
    refine (nroot_no (some ⟨E1.b, 0, none⟩) n1 (E1.c) xs k _ ((unhide HS1).sl ⟨some ⟨E1.b, 0, none⟩, n1, E1.c, xs⟩ (by simp)) (unhide HM)).mono ?_
    rintro e w' ⟨rfl, hw⟩
    obtain rfl := hw.symm
    clear hw
    go_wp2_with fail
    refine ((unhide HS1).intact).mono ?_
    rintro e w2 ⟨rfl, hst⟩
    have HS2 := hide hst
    clear hst HS1
    go_wp2_with fail
    refine (alive_any _).mono ?_
    rintro e w3 ⟨rfl, hb⟩
    have HS3 := hide ((unhide HS2).keep hb)
    clear hb HS2
    go_wp2_with fail
    have KM := rmay_any a1 n1 c1 xs _ ((unhide HS3).sl ⟨a1, n1, c1, xs⟩ (by simp))
    rw [unhide HM] at KM
    have KM' := hide KM
    clear KM
    refine (unhide KM').mono ?_
    rintro e w' ⟨rfl, hw⟩
    obtain rfl := hw.symm
    clear hw KM'
    go_wp2_with fail
    have KM := rmay_any a1 n1 c1 xs _ ((unhide HS3).sl ⟨a1, n1, c1, xs⟩ (by simp))
    rw [unhide HM] at KM
    have KM' := hide KM
    clear KM
    refine (unhide KM').mono ?_
    rintro e w' ⟨rfl, hw⟩
    obtain rfl := hw.symm
    clear hw KM'
    go_wp2_with fail
    refine (num_any _ _).mono ?_
    rintro e w' ⟨rfl, hw⟩
    obtain rfl := hw.symm
    go_wp2
    go_ret
    exact ⟨rfl, (unhide HS3).bel⟩
  · have HM := hide hm
    clear hm
    by_cases hk : k < 1 ∨ 1024 < k
    · have HK := hide hk
      rcases hk with hk | hk
      · have hk2 : True := trivial
        go_enter Try.func4, Try.ntmps4
        go_wp2_with fail
        refine ((unhide HS0).nat ⟨a1, n1, c1, xs⟩ (by simp) hb1 (by simp)).mono ?_
        rintro e w4 ⟨v04, v14, E4, rfl, hst⟩
        have HS4 := hide hst
        clear hst HS0
        go_wp2_with fail
        refine (nroot_arg (some ⟨E4.b, 0, none⟩) n1 (E4.c) xs k _ ((unhide HS4).sl ⟨some ⟨E4.b, 0, none⟩, n1, E4.c, xs⟩ (by simp)) (unhide HM) (unhide HK)).mono ?_
        rintro e w' ⟨rfl, hw⟩
        obtain rfl := hw.symm
        clear hw
        go_wp2_with fail
        refine ((unhide HS4).intact).mono ?_
        rintro e w5 ⟨rfl, hst⟩
        have HS5 := hide hst
        clear hst HS4
        go_wp2_with fail
        refine (alive_any _).mono ?_
        rintro e w6 ⟨rfl, hb⟩
        have HS6 := hide ((unhide HS5).keep hb)
        clear hb HS5
        go_wp2_with fail
        have KM := rmay_any a1 n1 c1 xs _ ((unhide HS6).sl ⟨a1, n1, c1, xs⟩ (by simp))
        rw [unhide HM] at KM
        have KM' := hide KM
        clear KM
        refine (unhide KM').mono ?_
        rintro e w' ⟨rfl, hw⟩
        obtain rfl := hw.symm
        clear hw KM'
        go_wp2_with fail
        have KM := rmay_any a1 n1 c1 xs _ ((unhide HS6).sl ⟨a1, n1, c1, xs⟩ (by simp))
        rw [unhide HM] at KM
        have KM' := hide KM
        clear KM
        refine (unhide KM').mono ?_
        rintro e w' ⟨rfl, hw⟩
        obtain rfl := hw.symm
        clear hw KM'
        go_wp2_with fail
        refine (num_any _ _).mono ?_
        rintro e w' ⟨rfl, hw⟩
        obtain rfl := hw.symm
        go_wp2
        go_ret
        exact ⟨rfl, (unhide HS6).bel⟩
      · have hk2 : ¬ k < 1 := by omega
        go_enter Try.func4, Try.ntmps4
        go_wp2_with fail
        refine ((unhide HS0).nat ⟨a1, n1, c1, xs⟩ (by simp) hb1 (by simp)).mono ?_
        rintro e w7 ⟨v07, v17, E7, rfl, hst⟩
        have HS7 := hide hst
        clear hst HS0
        go_wp2_with fail
        refine (nroot_arg (some ⟨E7.b, 0, none⟩) n1 (E7.c) xs k _ ((unhide HS7).sl ⟨some ⟨E7.b, 0, none⟩, n1, E7.c, xs⟩ (by simp)) (unhide HM) (unhide HK)).mono ?_
        rintro e w' ⟨rfl, hw⟩
        obtain rfl := hw.symm
        clear hw
        go_wp2_with fail
        refine ((unhide HS7).intact).mono ?_
        rintro e w8 ⟨rfl, hst⟩
        have HS8 := hide hst
        clear hst HS7
        go_wp2_with fail
        refine (alive_any _).mono ?_
        rintro e w9 ⟨rfl, hb⟩
        have HS9 := hide ((unhide HS8).keep hb)
        clear hb HS8
        go_wp2_with fail
        have KM := rmay_any a1 n1 c1 xs _ ((unhide HS9).sl ⟨a1, n1, c1, xs⟩ (by simp))
        rw [unhide HM] at KM
        have KM' := hide KM
        clear KM
        refine (unhide KM').mono ?_
        rintro e w' ⟨rfl, hw⟩
        obtain rfl := hw.symm
        clear hw KM'
        go_wp2_with fail
        have KM := rmay_any a1 n1 c1 xs _ ((unhide HS9).sl ⟨a1, n1, c1, xs⟩ (by simp))
        rw [unhide HM] at KM
        have KM' := hide KM
        clear KM
        refine (unhide KM').mono ?_
        rintro e w' ⟨rfl, hw⟩
        obtain rfl := hw.symm
        clear hw KM'
        go_wp2_with fail
        refine (num_any _ _).mono ?_
        rintro e w' ⟨rfl, hw⟩
        obtain rfl := hw.symm
        go_wp2
        go_ret
        exact ⟨rfl, (unhide HS9).bel⟩
    · obtain ⟨j, rfl⟩ : ∃ j : Nat, k = (j : Int) := ⟨k.toNat, by omega⟩
      have hk1 : 1 ≤ j := by omega
      have hk2 : j ≤ 1024 := by omega
      have hk3 : ¬ (j:Int) < 1 := by omega
      have hk4 : ¬ (1024:Int) < (j:Int) := by omega
      clear hk
      go_enter Try.func4, Try.ntmps4
      go_wp2_with fail
      refine ((unhide HS0).nat ⟨a1, n1, c1, xs⟩ (by simp) hb1 (by simp)).mono ?_
      rintro e w10 ⟨v010, v110, E10, rfl, hst⟩
      have HS10 := hide hst
      clear hst HS0
      go_wp2_with fail
      refine (nroot_ok (some ⟨E10.b, 0, none⟩) n1 (E10.c) xs j _ ((unhide HS10).sl ⟨some ⟨E10.b, 0, none⟩, n1, E10.c, xs⟩ (by simp)) ox (unhide HM) hk1 hk2).mono ?_
      rintro e w11 ⟨R, hR, hres⟩
      obtain ⟨a11, m11, c11, rfl, hst⟩ := (unhide HS10).res3 hres
      have HS11 := hide hst
      have HR := hide hR
      clear hst hres hR HS10
      have MR := hide (may_lim (unhide HM) ox (root_le (unhide HR) hk1))
      have MP := hide (may_lim (unhide HM) ox (unhide HR).1)
      by_cases hex : R ^ j = val xs
      focus
        rw [decide_eq_true hex]
        have HX := hide (cmpN_eq hex)
        have hcc : ¬ (0:Int) < 0 := by decide
        clear hex
        go_wp2_with fail
        refine ((unhide HS11).intact).mono ?_
        rintro e w12 ⟨rfl, hst⟩
        have HS12 := hide hst
        clear hst HS11
        go_wp2_with fail
        refine (alive_any _).mono ?_
        rintro e w13 ⟨rfl, hb⟩
        have HS13 := hide ((unhide HS12).keep hb)
        clear hb HS12
        go_wp2_with fail
        have KM := rmay_any a1 n1 c1 xs _ ((unhide HS13).sl ⟨a1, n1, c1, xs⟩ (by simp))
        rw [unhide HM] at KM
        have KM' := hide KM
        clear KM
        refine (unhide KM').mono ?_
        rintro e w' ⟨rfl, hw⟩
        obtain rfl := hw.symm
        clear hw KM'
        go_wp2_with fail
        have KP := rpow_any a11 m11 c11 (limbs R) (j : Int) _ ((unhide HS13).sl ⟨a11, m11, c11, limbs R⟩ (by simp)) (limbs_rep R).ok
        rw [powL_lim (unhide MR) hk2, fit_small (unhide HM) ox (unhide HR).1] at KP
        have KP' := hide KP
        clear KP
        refine (unhide KP').mono ?_
        intro e w14 hres
        obtain ⟨a14, m14, c14, rfl, hst⟩ := (unhide HS13).res2 hres
        have HS14 := hide hst
        clear hst hres KP' HS13
        go_wp2_with fail
        refine (num_any _ _).mono ?_
        rintro e w' ⟨rfl, hw⟩
        obtain rfl := hw.symm
        go_wp2_with fail
        have KC := (unhide HS14).quiet (rcmp_any (a14) a1 m14 c14 n1 c1 (limbs (R ^ j)) xs _ ((unhide HS14).sl ⟨a14, m14, c14, limbs (R ^ j)⟩ (by simp)) ((unhide HS14).sl ⟨a1, n1, c1, xs⟩ (by simp)) (limbs_rep _).ok ox)
        rw [cmpL_mm (unhide MP) (unhide HM), (limbs_rep _).val, unhide HX] at KC
        have KC' := hide KC
        clear KC
        refine (unhide KC').mono ?_
        rintro e w15 ⟨rfl, hst⟩
        have HS15 := hide hst
        clear hst KC' HS14
        go_wp2_with fail
        have KC := (unhide HS15).quiet (rcmp_any (a14) a1 m14 c14 n1 c1 (limbs (R ^ j)) xs _ ((unhide HS15).sl ⟨a14, m14, c14, limbs (R ^ j)⟩ (by simp)) ((unhide HS15).sl ⟨a1, n1, c1, xs⟩ (by simp)) (limbs_rep _).ok ox)
        rw [cmpL_mm (unhide MP) (unhide HM), (limbs_rep _).val, unhide HX] at KC
        have KC' := hide KC
        clear KC
        refine (unhide KC').mono ?_
        rintro e w16 ⟨rfl, hst⟩
        have HS16 := hide hst
        clear hst KC' HS15
        go_wp2_with fail
        refine (rfrom_any 1 _ (by decide)).mono ?_
        rintro e w17 ⟨a17, m17, os, rfl, hs, hr, ha, hb⟩
        have e1 : os = [1] := hr.unique rep_one
        subst e1
        have HS17 := hide ((unhide HS16).res hb hs ha)
        clear hs hr ha hb HS16
        cases hB : bigN (R + 1)
        · have HB := hide hB
          clear hB
          go_wp2_with fail
          have KA := radd_any a11 (a17) m11 c11 m17 m17 (limbs R) [1] _ ((unhide HS17).sl ⟨a11, m11, c11, limbs R⟩ (by simp)) ((unhide HS17).sl ⟨a17, m17, m17, [1]⟩ (by simp)) (limbs_rep R).ok (Ok.cons (by decide) Ok.nil)
          rw [show addL (limbs R) [1] = (limbs (R + 1), 0) from by rw [addL_may (unhide MR) rfl, (limbs_rep R).val, show val [1] = 1 from by simp [val], fitL_zero (unhide HB), fitN_ok (unhide HB)]] at KA
          have KA' := hide KA
          clear KA
          refine (unhide KA').mono ?_
          intro e w18 hres
          obtain ⟨a18, m18, c18, rfl, hst⟩ := (unhide HS17).res2 hres
          have HS18 := hide hst
          clear hst hres KA' HS17
          have MM : MayL (limbs (R + 1)) = true := by rw [← fitN_ok (unhide HB)]; exact fitN_may _
          have MM2 := hide MM
          clear MM
          cases hC : bigN ((R + 1) ^ j)
          · have HC := hide hC
            clear hC
            go_wp2_with fail
            have KP := rpow_any (a18) m18 c18 (limbs (R + 1)) (j : Int) _ ((unhide HS18).sl ⟨a18, m18, c18, limbs (R + 1)⟩ (by simp)) (limbs_rep _).ok
            rw [powL_lim (unhide MM2) hk2, fitL_zero (unhide HC), fitN_ok (unhide HC)] at KP
            have KP' := hide KP
            clear KP
            refine (unhide KP').mono ?_
            intro e w19 hres
            obtain ⟨a19, m19, c19, rfl, hst⟩ := (unhide HS18).res2 hres
            have HS19 := hide hst
            clear hst hres KP' HS18
            have MQ : MayL (limbs ((R + 1) ^ j)) = true := by rw [← fitN_ok (unhide HC)]; exact fitN_may _
            have MQ2 := hide MQ
            clear MQ
            go_wp2_with fail
            have KC := (unhide HS19).quiet (rcmp_any (a19) a1 m19 c19 n1 c1 (limbs ((R + 1) ^ j)) xs _ ((unhide HS19).sl ⟨a19, m19, c19, limbs ((R + 1) ^ j)⟩ (by simp)) ((unhide HS19).sl ⟨a1, n1, c1, xs⟩ (by simp)) (limbs_rep _).ok ox)
            rw [cmpL_mm (unhide MQ2) (unhide HM), (limbs_rep _).val, cmpN_gt (unhide HR).2] at KC
            have KC' := hide KC
            clear KC
            refine (unhide KC').mono ?_
            rintro e w20 ⟨rfl, hst⟩
            have HS20 := hide hst
            clear hst KC' HS19
            go_wp2
            go_ret
            exact ⟨rfl, (unhide HS20).bel⟩
          · have HC := hide hC
            clear hC
            go_wp2_with fail
            have KP := rpow_any (a18) m18 c18 (limbs (R + 1)) (j : Int) _ ((unhide HS18).sl ⟨a18, m18, c18, limbs (R + 1)⟩ (by simp)) (limbs_rep _).ok
            rw [powL_lim (unhide MM2) hk2, fitL_two (unhide HC)] at KP
            have KP' := hide KP
            clear KP
            refine (unhide KP').mono ?_
            intro e w21 hres
            obtain ⟨a21, m21, c21, rfl, hst⟩ := (unhide HS18).res2 hres
            have HS21 := hide hst
            clear hst hres KP' HS18
            go_wp2
            go_ret
            exact ⟨rfl, (unhide HS21).bel⟩
        · have HB := hide hB
          clear hB
          go_wp2_with fail
          have KA := radd_any a11 (a17) m11 c11 m17 m17 (limbs R) [1] _ ((unhide HS17).sl ⟨a11, m11, c11, limbs R⟩ (by simp)) ((unhide HS17).sl ⟨a17, m17, m17, [1]⟩ (by simp)) (limbs_rep R).ok (Ok.cons (by decide) Ok.nil)
          rw [show addL (limbs R) [1] = (fitN (R + 1), 2) from by rw [addL_may (unhide MR) rfl, (limbs_rep R).val, show val [1] = 1 from by simp [val], fitL_two (unhide HB)]] at KA
          have KA' := hide KA
          clear KA
          refine (unhide KA').mono ?_
          intro e w22 hres
          obtain ⟨a22, m22, c22, rfl, hst⟩ := (unhide HS17).res2 hres
          have HS22 := hide hst
          clear hst hres KA' HS17
          go_wp2
          go_ret
          exact ⟨rfl, (unhide HS22).bel⟩
      rotate_left
      focus
        rw [decide_eq_false hex]
        have HX := hide (cmpN_lt (Nat.lt_of_le_of_ne (unhide HR).1 hex))
        have hcc : True := trivial
        clear hex
        go_wp2_with fail
        refine ((unhide HS11).intact).mono ?_
        rintro e w23 ⟨rfl, hst⟩
        have HS23 := hide hst
        clear hst HS11
        go_wp2_with fail
        refine (alive_any _).mono ?_
        rintro e w24 ⟨rfl, hb⟩
        have HS24 := hide ((unhide HS23).keep hb)
        clear hb HS23
        go_wp2_with fail
        have KM := rmay_any a1 n1 c1 xs _ ((unhide HS24).sl ⟨a1, n1, c1, xs⟩ (by simp))
        rw [unhide HM] at KM
        have KM' := hide KM
        clear KM
        refine (unhide KM').mono ?_
        rintro e w' ⟨rfl, hw⟩
        obtain rfl := hw.symm
        clear hw KM'
        go_wp2_with fail
        have KP := rpow_any a11 m11 c11 (limbs R) (j : Int) _ ((unhide HS24).sl ⟨a11, m11, c11, limbs R⟩ (by simp)) (limbs_rep R).ok
        rw [powL_lim (unhide MR) hk2, fit_small (unhide HM) ox (unhide HR).1] at KP
        have KP' := hide KP
        clear KP
        refine (unhide KP').mono ?_
        intro e w25 hres
        obtain ⟨a25, m25, c25, rfl, hst⟩ := (unhide HS24).res2 hres
        have HS25 := hide hst
        clear hst hres KP' HS24
        go_wp2_with fail
        refine (num_any _ _).mono ?_
        rintro e w' ⟨rfl, hw⟩
        obtain rfl := hw.symm
        go_wp2_with fail
        have KC := (unhide HS25).quiet (rcmp_any (a25) a1 m25 c25 n1 c1 (limbs (R ^ j)) xs _ ((unhide HS25).sl ⟨a25, m25, c25, limbs (R ^ j)⟩ (by simp)) ((unhide HS25).sl ⟨a1, n1, c1, xs⟩ (by simp)) (limbs_rep _).ok ox)
        rw [cmpL_mm (unhide MP) (unhide HM), (limbs_rep _).val, unhide HX] at KC
        have KC' := hide KC
        clear KC
        refine (unhide KC').mono ?_
        rintro e w26 ⟨rfl, hst⟩
        have HS26 := hide hst
        clear hst KC' HS25
        go_wp2_with fail
        have KC := (unhide HS26).quiet (rcmp_any (a25) a1 m25 c25 n1 c1 (limbs (R ^ j)) xs _ ((unhide HS26).sl ⟨a25, m25, c25, limbs (R ^ j)⟩ (by simp)) ((unhide HS26).sl ⟨a1, n1, c1, xs⟩ (by simp)) (limbs_rep _).ok ox)
        rw [cmpL_mm (unhide MP) (unhide HM), (limbs_rep _).val, unhide HX] at KC
        have KC' := hide KC
        clear KC
        refine (unhide KC').mono ?_
        rintro e w27 ⟨rfl, hst⟩
        have HS27 := hide hst
        clear hst KC' HS26
        go_wp2_with fail
        refine (rfrom_any 1 _ (by decide)).mono ?_
        rintro e w28 ⟨a28, m28, os, rfl, hs, hr, ha, hb⟩
        have e1 : os = [1] := hr.unique rep_one
        subst e1
        have HS28 := hide ((unhide HS27).res hb hs ha)
        clear hs hr ha hb HS27
        cases hB : bigN (R + 1)
        · have HB := hide hB
          clear hB
          go_wp2_with fail
          have KA := radd_any a11 (a28) m11 c11 m28 m28 (limbs R) [1] _ ((unhide HS28).sl ⟨a11, m11, c11, limbs R⟩ (by simp)) ((unhide HS28).sl ⟨a28, m28, m28, [1]⟩ (by simp)) (limbs_rep R).ok (Ok.cons (by decide) Ok.nil)
          rw [show addL (limbs R) [1] = (limbs (R + 1), 0) from by rw [addL_may (unhide MR) rfl, (limbs_rep R).val, show val [1] = 1 from by simp [val], fitL_zero (unhide HB), fitN_ok (unhide HB)]] at KA
          have KA' := hide KA
          clear KA
          refine (unhide KA').mono ?_
          intro e w29 hres
          obtain ⟨a29, m29, c29, rfl, hst⟩ := (unhide HS28).res2 hres
          have HS29 := hide hst
          clear hst hres KA' HS28
          have MM : MayL (limbs (R + 1)) = true := by rw [← fitN_ok (unhide HB)]; exact fitN_may _
          have MM2 := hide MM
          clear MM
          cases hC : bigN ((R + 1) ^ j)
          · have HC := hide hC
            clear hC
            go_wp2_with fail
            have KP := rpow_any (a29) m29 c29 (limbs (R + 1)) (j : Int) _ ((unhide HS29).sl ⟨a29, m29, c29, limbs (R + 1)⟩ (by simp)) (limbs_rep _).ok
            rw [powL_lim (unhide MM2) hk2, fitL_zero (unhide HC), fitN_ok (unhide HC)] at KP
            have KP' := hide KP
            clear KP
            refine (unhide KP').mono ?_
            intro e w30 hres
            obtain ⟨a30, m30, c30, rfl, hst⟩ := (unhide HS29).res2 hres
            have HS30 := hide hst
            clear hst hres KP' HS29
            have MQ : MayL (limbs ((R + 1) ^ j)) = true := by rw [← fitN_ok (unhide HC)]; exact fitN_may _
            have MQ2 := hide MQ
            clear MQ
            go_wp2_with fail
            have KC := (unhide HS30).quiet (rcmp_any (a30) a1 m30 c30 n1 c1 (limbs ((R + 1) ^ j)) xs _ ((unhide HS30).sl ⟨a30, m30, c30, limbs ((R + 1) ^ j)⟩ (by simp)) ((unhide HS30).sl ⟨a1, n1, c1, xs⟩ (by simp)) (limbs_rep _).ok ox)
            rw [cmpL_mm (unhide MQ2) (unhide HM), (limbs_rep _).val, cmpN_gt (unhide HR).2] at KC
            have KC' := hide KC
            clear KC
            refine (unhide KC').mono ?_
            rintro e w31 ⟨rfl, hst⟩
            have HS31 := hide hst
            clear hst KC' HS30
            go_wp2
            go_ret
            exact ⟨rfl, (unhide HS31).bel⟩
          · have HC := hide hC
            clear hC
            go_wp2_with fail
            have KP := rpow_any (a29) m29 c29 (limbs (R + 1)) (j : Int) _ ((unhide HS29).sl ⟨a29, m29, c29, limbs (R + 1)⟩ (by simp)) (limbs_rep _).ok
            rw [powL_lim (unhide MM2) hk2, fitL_two (unhide HC)] at KP
            have KP' := hide KP
            clear KP
            refine (unhide KP').mono ?_
            intro e w32 hres
            obtain ⟨a32, m32, c32, rfl, hst⟩ := (unhide HS29).res2 hres
            have HS32 := hide hst
            clear hst hres KP' HS29
            go_wp2
            go_ret
            exact ⟨rfl, (unhide HS32).bel⟩
        · have HB := hide hB
          clear hB
          go_wp2_with fail
          have KA := radd_any a11 (a28) m11 c11 m28 m28 (limbs R) [1] _ ((unhide HS28).sl ⟨a11, m11, c11, limbs R⟩ (by simp)) ((unhide HS28).sl ⟨a28, m28, m28, [1]⟩ (by simp)) (limbs_rep R).ok (Ok.cons (by decide) Ok.nil)
          rw [show addL (limbs R) [1] = (fitN (R + 1), 2) from by rw [addL_may (unhide MR) rfl, (limbs_rep R).val, show val [1] = 1 from by simp [val], fitL_two (unhide HB)]] at KA
          have KA' := hide KA
          clear KA
          refine (unhide KA').mono ?_
          intro e w33 hres
          obtain ⟨a33, m33, c33, rfl, hst⟩ := (unhide HS28).res2 hres
          have HS33 := hide hst
          clear hst hres KA' HS28
          go_wp2
          go_ret
          exact ⟨rfl, (unhide HS33).bel⟩

set_option maxRecDepth 100000 in
theorem natRoots_lifted (os : Os) (started : os.Started) (H : Type) (enc : TypeId × Value → H) :
    ReturnsInHanded {} Try.checked os 4 .any (Rows.natRootsSpec.pre6 enc Try.prog Try.f4 Rows.natRootsRow.domain false) (Rows.natRootsSpec.post enc Try.prog Try.f4 false true false false) := by
  refine returnsInHanded_of_change_sized (C := Try.checked) law_own started (by kernel_rfl) Try.func4
    (ChangeSpec.witness6 (enc := enc) (C := Try.checked) false ⟨#[], #[.slice none 0 0, .int .i64 0], []⟩ 8 (by kernel_rfl) (by kernel_rfl) (by kernel_rfl) (by kernel_rfl)) ?_
  intro W base args ds gs before hval0 hW hcnd hsz _
  have hval : ∀ (j : Nat) t v, Try.f4.params[j]? = some t → args[j]? = some v → Value.okWide Try.prog W .any base t v := hval0
  have hW' := hW
  obtain ⟨p, q, hA0, hV, rfl, hfz, hnd⟩ := hW
  have hA : DataW.TrodAll enc Try.prog W 0 (fun _ => true) true Try.f4.params.toList args.toList ds p := hA0
  rw [Try.params4] at hA hval hsz
  have r := hA
  obtain ⟨v0, vs0, d0, ds0, p0, q0, hargs, rfl, rfl, h0, r0⟩ := trodAll_cons hA
  obtain ⟨v1, vs1, d1, ds1, p1, q1, rfl, rfl, rfl, h1, r1⟩ := trodAll_cons r0
  obtain ⟨rfl, rfl, rfl⟩ := trodAll_nil r1
  obtain rfl : args = #[v0, v1] := by cases args; simp_all
  obtain ⟨rfl, rfl⟩ := trodVars_none hV
  obtain ⟨a0, n0, c0, rfl⟩ := okWide_slice Try.underlying23 (hval 0 23 v0 rfl rfl)
  have k0 := h0
  have lt0 : ∀ x ∈ p0, x.block < W.heap.size := by obtain ⟨m, hm⟩ := k0; exact DataW.trod_lt m _ _ _ hm
  obtain ⟨x0, s0, o0, b0⟩ := arg_limbs h0 (fun el sp e => by subst e; exact sized_slice (j := 0) hsz rfl rfl Try.underlying23)
  obtain ⟨i1, rfl, rfl, rfl, w1⟩ := open_int Try.underlying3 (hval 1 3 v1 rfl rfl) h1
  clear hA0 hval0
  refine (natRoots_walk a0 n0 c0 x0 i1 W s0 o0 b0).mono fun e W' ⟨he, bel⟩ => ?_
  subst he
  exact ⟨_, rfl, _, _, _, [], _, [], hW', trodAll_mk1 (shut_bool Try.underlying4 _), (trodAll_cons_mk (Below.trod law_laid (by kernel_rfl) (of_decide_eq_true (by kernel_rfl)) k0 bel lt0) (trodAll_cons_mk (shut_int Try.underlying3 w1) trodAll_mk0)), rfl, bel.frame _, fun h => by cases h⟩

theorem natRoots_holds : Rows.NatRootsSaid :=
  OpenClaim.holds_of_wide 4 Try.f4 rfl rfl rfl rfl rfl rfl rfl ⟨rfl, rfl, rfl, rfl, rfl⟩ rfl rfl rfl rfl rfl (by kernel_rfl) Try.func4 (by kernel_rfl)
    (of_decide_eq_true (by kernel_rfl)) (by unfold Func.isWrapper; first | (rw [if_pos (by decide +kernel)]; kernel_rfl) | (rw [if_neg (by decide +kernel)]; exact ⟨rfl, rfl⟩))
    (fun os started H enc _ => natRoots_lifted os started H enc)
#print axioms natRoots_holds
end Go.Proofs.Ytpnhmaenmmelnaa
