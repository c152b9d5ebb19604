/-
  THE LAW NatUndone: out of the contracts; the row's step.
-/
import Derived.Test.YtokgcpnnbajlkaaRng3
namespace Go.Proofs.Ytokgcpnnbajlkaa
open Go.ChangeShapes Go.WideShapes Go.ChangeAt Go.RowKit Go.Deep
set_option linter.unusedVariables false

set_option maxHeartbeats 32000000 in
theorem natUndone_walk (a1 a2 a3 : Option Addr) (n1 c1 n2 c2 n3 c3 : Nat) (xs ys zs : List Nat) (w : World) (h1 : Sl w a1 n1 c1 xs) (h2 : Sl w a2 n2 c2 ys) (h3 : Sl w a3 n3 c3 zs) (ox : Ok xs) (oy : Ok ys) (oz : Ok zs) :
    Calls Try.prog 12 #[.slice a1 n1 c1, .slice a2 n2 c2, .slice a3 n3 c3] w fun e w' => e = .returned (.bool true) ∧ Below w.heap.size w w' := by
  have HS0 := hide (show PSt w w [⟨a1, n1, c1, xs⟩, ⟨a2, n2, c2, ys⟩, ⟨a3, n3, c3, zs⟩, ⟨none, 0, 0, []⟩] from ⟨Below.refl _ _, by intro p hp; simp at hp; rcases hp with rfl | rfl | rfl | rfl; exact h1; exact h2; exact h3; exact sl_nil _⟩)
  clear h1 h2 h3
  go_enter Try.func12, Try.ntmps12
  go_wp2_with fail
  refine (alive_any _).mono ?_
  rintro e w1 ⟨rfl, hb⟩
  have HS1 := hide ((unhide HS0).keep hb)
  clear hb HS0
  go_wp2_with fail
  refine ((unhide HS1).may3 ⟨a1, n1, c1, xs⟩ ⟨a2, n2, c2, ys⟩ ⟨a3, n3, c3, zs⟩ (by simp) (by simp) (by simp) _).mono ?_
  rintro e w2 ⟨rfl, hst⟩
  have HS2 := hide hst
  clear hst HS1
  simp only
  cases hm : MayL xs && (MayL ys && MayL zs)
  · go_wp2
    go_ret
    exact ⟨rfl, (unhide HS2).bel⟩
  · simp only [Bool.and_eq_true] at hm
    obtain ⟨m1, m2, m3⟩ := hm
    have M1 := hide m1
    have M2 := hide m2
    have M3 := hide m3
    clear m1 m2 m3
    have HS := HS2
    clear HS2
    have HL1 := hide ((unhide HS).all ⟨a1, n1, c1, xs⟩ (by simp)).len
    have HL2 := hide ((unhide HS).all ⟨a2, n2, c2, ys⟩ (by simp)).len
    simp only at HL1 HL2
    cases hB : bigN (val xs + val ys)
    rotate_left
    focus
      have B0 := hide hB
      clear hB
      go_wp2_with fail
      refine ((unhide HS).add ⟨a1, n1, c1, xs⟩ ⟨a2, n2, c2, ys⟩ (by simp) (by simp) ox oy (fitN (val xs + val ys), 2) ((addL_may (unhide M1) (unhide M2)).trans (fitL_two (unhide B0)))).mono ?_
      rintro e w11 ⟨a11, m11, d11, rfl, hst⟩
      simp only at hst
      clear HS
      have HS := hide hst
      clear hst
      go_wp2_with fail
      refine (num_any _ _).mono ?_
      rintro e w' ⟨rfl, hw⟩
      obtain rfl := hw.symm
      clear hw
      clear B0
    rotate_left
    focus
      have B0 := hide hB
      clear hB
      have hbb : (xs = [] ∧ ¬ (0:Int) < (n1:Int)) ∨ (xs ≠ [] ∧ (0:Int) < (n1:Int)) := by
        have := unhide HL1
        by_cases h : xs = []
        · rw [h] at this; simp at this; exact .inl ⟨h, by omega⟩
        · have h2 : 0 < n1 := by rw [← this]; exact List.length_pos_iff.2 h
          exact .inr ⟨h, by omega⟩
      go_wp2_with fail
      refine ((unhide HS).add ⟨a1, n1, c1, xs⟩ ⟨a2, n2, c2, ys⟩ (by simp) (by simp) ox oy (fitN (val xs + val ys), 0) ((addL_may (unhide M1) (unhide M2)).trans (fitL_zero (unhide B0)))).mono ?_
      rintro e w12 ⟨a12, m12, d12, rfl, hst⟩
      simp only at hst
      clear HS
      have HS := hide hst
      clear hst
      go_wp2_with fail
      refine (num_any _ _).mono ?_
      rintro e w' ⟨rfl, hw⟩
      obtain rfl := hw.symm
      clear hw
      go_wp2_with fail
      refine ((unhide HS).sub ⟨a12, m12, d12, fitN (val xs + val ys)⟩ ⟨a2, n2, c2, ys⟩ (by simp) (by simp) (fitN_isOk _) oy (xs, 0) (sub_back (fitN_may _) (unhide M2) (unhide M1) ox (by rw [fitN_val (unhide B0)]))).mono ?_
      rintro e w13 ⟨a13, m13, d13, rfl, hst⟩
      simp only at hst
      clear HS
      have HS := hide hst
      clear hst
      go_wp2_with fail
      refine ((unhide HS).sub ⟨a12, m12, d12, fitN (val xs + val ys)⟩ ⟨a1, n1, c1, xs⟩ (by simp) (by simp) (fitN_isOk _) ox (ys, 0) (sub_back (fitN_may _) (unhide M1) (unhide M2) oy (by rw [fitN_val (unhide B0), Nat.add_comm]))).mono ?_
      rintro e w14 ⟨a14, m14, d14, rfl, hst⟩
      simp only at hst
      clear HS
      have HS := hide hst
      clear hst
      rcases hbb with ⟨hb1, hb2⟩ | ⟨hb1, hb2⟩
      focus
        have HBB := hide hb1
        clear hb1
        go_wp2_with fail
        refine ((unhide HS).diff ⟨a2, n2, c2, ys⟩ ⟨a12, m12, d12, fitN (val xs + val ys)⟩ (by simp) (by simp) oy (fitN_isOk _) (xs, false, 0) ((diff_back (unhide M2) (fitN_may _) (unhide M1) ox (by rw [fitN_val (unhide B0)])).trans (by rw [decide_eq_false (not_not_intro (unhide HBB))]))).mono ?_
        rintro e w15 ⟨a15, m15, d15, rfl, hst⟩
        simp only at hst
        clear HS
        have HS := hide hst
        clear hst
        go_wp2_with fail
        refine (num_any _ _).mono ?_
        rintro e w' ⟨rfl, hw⟩
        obtain rfl := hw.symm
        clear hw
        go_wp2_with fail
        refine (num_any _ _).mono ?_
        rintro e w' ⟨rfl, hw⟩
        obtain rfl := hw.symm
        clear hw
        go_wp2_with fail
        refine (num_any _ _).mono ?_
        rintro e w' ⟨rfl, hw⟩
        obtain rfl := hw.symm
        clear hw
        go_wp2_with fail
        refine ((unhide HS).same ⟨a13, m13, d13, xs⟩ ⟨a1, n1, c1, xs⟩ (by simp) (by simp) true (decide_eq_true rfl)).mono ?_
        rintro e w16 ⟨rfl, hst⟩
        clear HS
        have HS := hide hst
        clear hst
        go_wp2_with fail
        refine ((unhide HS).same ⟨a14, m14, d14, ys⟩ ⟨a2, n2, c2, ys⟩ (by simp) (by simp) true (decide_eq_true rfl)).mono ?_
        rintro e w17 ⟨rfl, hst⟩
        clear HS
        have HS := hide hst
        clear hst
        go_wp2_with fail
        refine ((unhide HS).same ⟨a15, m15, d15, xs⟩ ⟨a1, n1, c1, xs⟩ (by simp) (by simp) true (decide_eq_true rfl)).mono ?_
        rintro e w18 ⟨rfl, hst⟩
        clear HS
        have HS := hide hst
        clear hst
        clear B0 HBB
      rotate_left
      focus
        have HBB := hide hb1
        clear hb1
        have hb3 : ¬ (n1:Int) ≤ 0 := by omega
        have hb4 : ¬ n1 = 0 := by omega
        have hb6 : (!decide (0 < n1)) = false := by simp; omega
        go_wp2_with fail
        refine ((unhide HS).diff ⟨a2, n2, c2, ys⟩ ⟨a12, m12, d12, fitN (val xs + val ys)⟩ (by simp) (by simp) oy (fitN_isOk _) (xs, true, 0) ((diff_back (unhide M2) (fitN_may _) (unhide M1) ox (by rw [fitN_val (unhide B0)])).trans (by rw [decide_eq_true (unhide HBB)]))).mono ?_
        rintro e w19 ⟨a19, m19, d19, rfl, hst⟩
        simp only at hst
        clear HS
        have HS := hide hst
        clear hst
        go_wp2_with fail
        refine (num_any _ _).mono ?_
        rintro e w' ⟨rfl, hw⟩
        obtain rfl := hw.symm
        clear hw
        go_wp2_with fail
        refine (num_any _ _).mono ?_
        rintro e w' ⟨rfl, hw⟩
        obtain rfl := hw.symm
        clear hw
        go_wp2_with fail
        refine (num_any _ _).mono ?_
        rintro e w' ⟨rfl, hw⟩
        obtain rfl := hw.symm
        clear hw
        go_wp2_with fail
        refine ((unhide HS).same ⟨a13, m13, d13, xs⟩ ⟨a1, n1, c1, xs⟩ (by simp) (by simp) true (decide_eq_true rfl)).mono ?_
        rintro e w20 ⟨rfl, hst⟩
        clear HS
        have HS := hide hst
        clear hst
        go_wp2_with fail
        refine ((unhide HS).same ⟨a14, m14, d14, ys⟩ ⟨a2, n2, c2, ys⟩ (by simp) (by simp) true (decide_eq_true rfl)).mono ?_
        rintro e w21 ⟨rfl, hst⟩
        clear HS
        have HS := hide hst
        clear hst
        go_wp2_with fail
        refine ((unhide HS).same ⟨a19, m19, d19, xs⟩ ⟨a1, n1, c1, xs⟩ (by simp) (by simp) true (decide_eq_true rfl)).mono ?_
        rintro e w22 ⟨rfl, hst⟩
        clear HS
        have HS := hide hst
        clear hst
        clear B0 HBB
    all_goals
      by_cases hy : ys = []
      · have hz : n2 = 0 := by rw [← unhide HL2, hy]; rfl
        subst hz
        have HY := hide hy
        clear hy
        go_wp2_with fail
        refine ((unhide HS).divmod ⟨a1, n1, c1, xs⟩ ⟨a2, 0, c2, ys⟩ (by simp) (by simp) ox oy ([], [], 3) (divL_zero (unhide M1) (unhide HY))).mono ?_
        rintro e w23 ⟨a23, m23, d23, b23, n23, g23, rfl, hst⟩
        simp only at hst
        clear HS
        have HS := hide hst
        clear hst
        go_wp2_with fail
        refine (num_any _ _).mono ?_
        rintro e w' ⟨rfl, hw⟩
        obtain rfl := hw.symm
        clear hw
        go_wp2
        go_ret
        exact ⟨rfl, (unhide HS).bel⟩
      · have HY := hide hy
        have hz : 0 < n2 := by rw [← unhide HL2]; exact List.length_pos_iff.2 hy
        have t1 : ((n2:Int) == 0) = false := by simp; omega
        have t2 : ¬ (n2:Int) = 0 := by omega
        clear hy
        have hvp := may_pos (unhide M2) (unhide HY)
        have VP := hide hvp
        clear hvp
        rcases Nat.lt_or_ge (val zs) (val ys) with hlt | hge
        · have HLT := hide hlt
          clear hlt
          go_wp2_with fail
          refine ((unhide HS).cmp ⟨a3, n3, c3, zs⟩ ⟨a2, n2, c2, ys⟩ (by simp) (by simp) oz oy (-1) ((cmpL_may (unhide M3) (unhide M2)).trans (cmpN_lt (unhide HLT)))).mono ?_
          rintro e w24 ⟨rfl, hst⟩
          clear HS
          have HS := hide hst
          clear hst
          have HK := hide ((unhide HS).flags 72)
          clear HS
          have HS := HK
          clear HK
          go_wp2_with fail
          refine ((unhide HS).mul ⟨a1, n1, c1, xs⟩ ⟨a2, n2, c2, ys⟩ (by simp) (by simp) (unhide M1) (unhide M2) ox oy).mono ?_
          rintro e w25 ⟨a25, m25, d25, rfl, hst⟩
          simp only at hst
          clear HS
          have HS := hide hst
          clear hst
          go_wp2_with fail
          refine ((unhide HS).add ⟨a25, m25, d25, fitN (val xs * val ys)⟩ ⟨a3, n3, c3, zs⟩ (by simp) (by simp) (fitN_may _) (unhide M3) (fitN_isOk _) oz).mono ?_
          rintro e w26 ⟨a26, m26, d26, rfl, hst⟩
          simp only at hst
          clear HS
          have HS := hide hst
          clear hst
          cases hB : ((false || bigN (val xs * val ys)) || bigN (val (fitN (val xs * val ys)) + val zs)) <;> rw [hB] at HS
          · simp only [Bool.false_or, Bool.or_eq_false_iff] at hB
            have B1 := hide hB.1
            have B2 := hide hB.2
            clear hB
            have f0 := (unhide HS).c0
            have f1 := (unhide HS).c1
            have HP := hide (unhide HS).p
            have hdb := div_back (x := val xs) (unhide HLT)
            have HD := hide hdb
            clear hdb
            go_wp2_with fail
            clear HS
            have HS := HP
            clear HP
            refine ((unhide HS).divmod ⟨a26, m26, d26, fitN (val (fitN (val xs * val ys)) + val zs)⟩ ⟨a2, n2, c2, ys⟩ (by simp) (by simp) (fitN_isOk _) oy (xs, zs, 0) (?_)).mono ?_
            · rw [divL_may (fitN_may _) (unhide M2) (fitN_isOk _) (unhide HY), fitN_val (unhide B2), fitN_val (unhide B1), (unhide HD).1, (unhide HD).2, fitN_self (unhide M1) ox, fitN_self (unhide M3) oz]
            rintro e w27 ⟨a27, m27, d27, b27, n27, g27, rfl, hst⟩
            simp only at hst
            clear HS
            have HS := hide hst
            clear hst
            go_wp2_with fail
            refine (num_any _ _).mono ?_
            rintro e w' ⟨rfl, hw⟩
            obtain rfl := hw.symm
            clear hw
            go_wp2_with fail
            refine ((unhide HS).same ⟨a27, m27, d27, xs⟩ ⟨a1, n1, c1, xs⟩ (by simp) (by simp) true (decide_eq_true rfl)).mono ?_
            rintro e w28 ⟨rfl, hst⟩
            clear HS
            have HS := hide hst
            clear hst
            go_wp2_with fail
            refine ((unhide HS).same ⟨b27, n27, g27, zs⟩ ⟨a3, n3, c3, zs⟩ (by simp) (by simp) true (decide_eq_true rfl)).mono ?_
            rintro e w29 ⟨rfl, hst⟩
            clear HS
            have HS := hide hst
            clear hst
            go_wp2
            go_ret
            exact ⟨rfl, (unhide HS).bel⟩
          · clear hB
            have f0 := (unhide HS).c0
            have f1 := (unhide HS).c1
            go_wp2
            go_ret
            exact ⟨rfl, (unhide HS).bel⟩
        · have HGE := hide hge
          have hnn : ¬ cmpN (val zs) (val ys) < 0 := by
            rcases Nat.lt_or_eq_of_le hge with h | h
            · rw [cmpN_gt h]; decide
            · rw [cmpN_eq h.symm]; decide
          have HCC := hide (cmpL_may (unhide M3) (unhide M2))
          generalize cmpN (val zs) (val ys) = cc at *
          clear hge
          go_wp2_with fail
          refine ((unhide HS).cmp ⟨a3, n3, c3, zs⟩ ⟨a2, n2, c2, ys⟩ (by simp) (by simp) oz oy cc (unhide HCC)).mono ?_
          rintro e w30 ⟨rfl, hst⟩
          clear HS
          have HS := hide hst
          clear hst
          have BR := hide (big_le (unhide M3) oz (Nat.mod_le (val zs) (val ys)))
          have HRL := hide (Nat.mod_lt (val zs) (unhide VP))
          go_wp2_with fail
          refine ((unhide HS).divmod ⟨a3, n3, c3, zs⟩ ⟨a2, n2, c2, ys⟩ (by simp) (by simp) oz oy (fitN (val zs / val ys), fitN (val zs % val ys), 0) (divL_may (unhide M3) (unhide M2) oz (unhide HY))).mono ?_
          rintro e w31 ⟨a31, m31, d31, b31, n31, g31, rfl, hst⟩
          simp only at hst
          clear HS
          have HS := hide hst
          clear hst
          go_wp2_with fail
          refine (num_any _ _).mono ?_
          rintro e w' ⟨rfl, hw⟩
          obtain rfl := hw.symm
          clear hw
          go_wp2_with fail
          refine ((unhide HS).cmp ⟨b31, n31, g31, fitN (val zs % val ys)⟩ ⟨a2, n2, c2, ys⟩ (by simp) (by simp) (fitN_isOk _) oy (-1) ((cmpL_may (fitN_may _) (unhide M2)).trans (cmpN_lt (by rw [fitN_val (unhide BR)]; exact unhide HRL)))).mono ?_
          rintro e w32 ⟨rfl, hst⟩
          clear HS
          have HS := hide hst
          clear hst
          have HK := hide ((unhide HS).flags 72)
          clear HS
          have HS := HK
          clear HK
          go_wp2_with fail
          refine ((unhide HS).mul ⟨a1, n1, c1, xs⟩ ⟨a2, n2, c2, ys⟩ (by simp) (by simp) (unhide M1) (unhide M2) ox oy).mono ?_
          rintro e w33 ⟨a33, m33, d33, rfl, hst⟩
          simp only at hst
          clear HS
          have HS := hide hst
          clear hst
          go_wp2_with fail
          refine ((unhide HS).add ⟨a33, m33, d33, fitN (val xs * val ys)⟩ ⟨b31, n31, g31, fitN (val zs % val ys)⟩ (by simp) (by simp) (fitN_may _) (fitN_may _) (fitN_isOk _) (fitN_isOk _)).mono ?_
          rintro e w34 ⟨a34, m34, d34, rfl, hst⟩
          simp only at hst
          clear HS
          have HS := hide hst
          clear hst
          cases hB : ((false || bigN (val xs * val ys)) || bigN (val (fitN (val xs * val ys)) + val (fitN (val zs % val ys)))) <;> rw [hB] at HS
          · simp only [Bool.false_or, Bool.or_eq_false_iff] at hB
            have B1 := hide hB.1
            have B2 := hide hB.2
            clear hB
            have f0 := (unhide HS).c0
            have f1 := (unhide HS).c1
            have HP := hide (unhide HS).p
            have hdb := div_back (x := val xs) (show val (fitN (val zs % val ys)) < val ys from by rw [fitN_val (unhide BR)]; exact unhide HRL)
            have HD := hide hdb
            clear hdb
            go_wp2_with fail
            clear HS
            have HS := HP
            clear HP
            refine ((unhide HS).divmod ⟨a34, m34, d34, fitN (val (fitN (val xs * val ys)) + val (fitN (val zs % val ys)))⟩ ⟨a2, n2, c2, ys⟩ (by simp) (by simp) (fitN_isOk _) oy (xs, fitN (val zs % val ys), 0) (?_)).mono ?_
            · rw [divL_may (fitN_may _) (unhide M2) (fitN_isOk _) (unhide HY), fitN_val (unhide B2), fitN_val (unhide B1), (unhide HD).1, (unhide HD).2, fitN_self (unhide M1) ox, fitN_val (unhide BR)]
            rintro e w35 ⟨a35, m35, d35, b35, n35, g35, rfl, hst⟩
            simp only at hst
            clear HS
            have HS := hide hst
            clear hst
            go_wp2_with fail
            refine (num_any _ _).mono ?_
            rintro e w' ⟨rfl, hw⟩
            obtain rfl := hw.symm
            clear hw
            go_wp2_with fail
            refine ((unhide HS).same ⟨a35, m35, d35, xs⟩ ⟨a1, n1, c1, xs⟩ (by simp) (by simp) true (decide_eq_true rfl)).mono ?_
            rintro e w36 ⟨rfl, hst⟩
            clear HS
            have HS := hide hst
            clear hst
            go_wp2_with fail
            refine ((unhide HS).same ⟨b35, n35, g35, fitN (val zs % val ys)⟩ ⟨b31, n31, g31, fitN (val zs % val ys)⟩ (by simp) (by simp) true (decide_eq_true rfl)).mono ?_
            rintro e w37 ⟨rfl, hst⟩
            clear HS
            have HS := hide hst
            clear hst
            go_wp2
            go_ret
            exact ⟨rfl, (unhide HS).bel⟩
          · clear hB
            have f0 := (unhide HS).c0
            have f1 := (unhide HS).c1
            go_wp2
            go_ret
            exact ⟨rfl, (unhide HS).bel⟩

set_option maxRecDepth 100000 in
theorem natUndone_lifted (os : Os) (started : os.Started) (H : Type) (enc : TypeId × Value → H) :
    ReturnsInHanded {} Try.checked os 12 .any (Rows.natUndoneSpec.pre6 enc Try.prog Try.f12 Rows.natUndoneRow.domain false) (Rows.natUndoneSpec.post enc Try.prog Try.f12 false true false false) := by
  refine returnsInHanded_of_change_sized (C := Try.checked) law_own started (by kernel_rfl) Try.func12
    (ChangeSpec.witness6 (enc := enc) (C := Try.checked) false ⟨#[], #[.slice none 0 0, .slice none 0 0, .slice none 0 0], []⟩ 8 (by kernel_rfl) (by kernel_rfl) (by kernel_rfl) (by kernel_rfl)) ?_
  intro W base args ds gs before hval0 hW hcnd hsz _
  have hval : ∀ (j : Nat) t v, Try.f12.params[j]? = some t → args[j]? = some v → Value.okWide Try.prog W .any base t v := hval0
  have hW' := hW
  obtain ⟨p, q, hA0, hV, rfl, hfz, hnd⟩ := hW
  have hA : DataW.TrodAll enc Try.prog W 0 (fun _ => true) true Try.f12.params.toList args.toList ds p := hA0
  rw [Try.params12] at hA hval hsz
  have r := hA
  obtain ⟨v0, vs0, d0, ds0, p0, q0, hargs, rfl, rfl, h0, r0⟩ := trodAll_cons hA
  obtain ⟨v1, vs1, d1, ds1, p1, q1, rfl, rfl, rfl, h1, r1⟩ := trodAll_cons r0
  obtain ⟨v2, vs2, d2, ds2, p2, q2, rfl, rfl, rfl, h2, r2⟩ := trodAll_cons r1
  obtain ⟨rfl, rfl, rfl⟩ := trodAll_nil r2
  obtain rfl : args = #[v0, v1, v2] := by cases args; simp_all
  obtain ⟨rfl, rfl⟩ := trodVars_none hV
  obtain ⟨a0, n0, c0, rfl⟩ := okWide_slice Try.underlying24 (hval 0 24 v0 rfl rfl)
  have k0 := h0
  have lt0 : ∀ x ∈ p0, x.block < W.heap.size := by obtain ⟨m, hm⟩ := k0; exact DataW.trod_lt m _ _ _ hm
  obtain ⟨x0, s0, o0, b0⟩ := arg_limbs h0 (fun el sp e => by subst e; exact sized_slice (j := 0) hsz rfl rfl Try.underlying24)
  obtain ⟨a1, n1, c1, rfl⟩ := okWide_slice Try.underlying24 (hval 1 24 v1 rfl rfl)
  have k1 := h1
  have lt1 : ∀ x ∈ p1, x.block < W.heap.size := by obtain ⟨m, hm⟩ := k1; exact DataW.trod_lt m _ _ _ hm
  obtain ⟨x1, s1, o1, b1⟩ := arg_limbs h1 (fun el sp e => by subst e; exact sized_slice (j := 1) hsz rfl rfl Try.underlying24)
  obtain ⟨a2, n2, c2, rfl⟩ := okWide_slice Try.underlying24 (hval 2 24 v2 rfl rfl)
  have k2 := h2
  have lt2 : ∀ x ∈ p2, x.block < W.heap.size := by obtain ⟨m, hm⟩ := k2; exact DataW.trod_lt m _ _ _ hm
  obtain ⟨x2, s2, o2, b2⟩ := arg_limbs h2 (fun el sp e => by subst e; exact sized_slice (j := 2) hsz rfl rfl Try.underlying24)
  clear hA0 hval0
  refine (natUndone_walk a0 a1 a2 n0 c0 n1 c1 n2 c2 x0 x1 x2 W s0 s1 s2 o0 o1 o2).mono fun e W' ⟨he, bel⟩ => ?_
  subst he
  exact ⟨_, rfl, _, _, _, [], _, [], hW', trodAll_mk1 (shut_bool Try.underlying4 _), (trodAll_cons_mk (Below.trod law_laid (by kernel_rfl) (of_decide_eq_true (by kernel_rfl)) k0 bel lt0) (trodAll_cons_mk (Below.trod law_laid (by kernel_rfl) (of_decide_eq_true (by kernel_rfl)) k1 bel lt1) (trodAll_cons_mk (Below.trod law_laid (by kernel_rfl) (of_decide_eq_true (by kernel_rfl)) k2 bel lt2) trodAll_mk0))), rfl, bel.frame _, fun h => by cases h⟩

theorem natUndone_holds : Rows.NatUndoneSaid :=
  OpenClaim.holds_of_wide 12 Try.f12 rfl rfl rfl rfl rfl rfl rfl ⟨rfl, rfl, rfl, rfl, rfl⟩ rfl rfl rfl rfl rfl (by kernel_rfl) Try.func12 (by kernel_rfl)
    (of_decide_eq_true (by kernel_rfl)) (by unfold Func.isWrapper; first | (rw [if_pos (by decide +kernel)]; kernel_rfl) | (rw [if_neg (by decide +kernel)]; exact ⟨rfl, rfl⟩))
    (fun os started H enc _ => natUndone_lifted os started H enc)
#print axioms natUndone_holds
end Go.Proofs.Ytokgcpnnbajlkaa
