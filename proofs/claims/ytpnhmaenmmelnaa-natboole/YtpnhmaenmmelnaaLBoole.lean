/-
  THE LAW NatBoole: out of the contracts; the row's step.
-/
import Derived.Test.YtpnhmaenmmelnaaBl
namespace Go.Proofs.Ytpnhmaenmmelnaa
open Go.ChangeShapes Go.WideShapes Go.ChangeAt Go.RowKit Go.Deep
set_option linter.unusedVariables false

set_option maxHeartbeats 16000000 in
theorem natBoole_walk (a1 a2 : Option Addr) (n1 c1 n2 c2 : Nat) (xs ys : List Nat) (w : World) (h1 : Sl w a1 n1 c1 xs) (h2 : Sl w a2 n2 c2 ys) (ox : Ok xs) (oy : Ok ys) :
    Calls Try.prog 8 #[.slice a1 n1 c1, .slice a2 n2 c2] w fun e w' => e = .returned (.bool true) ∧ Below w.heap.size w w' := by
  have HS0 := hide (show PSt w w [⟨a1, n1, c1, xs⟩, ⟨a2, n2, c2, ys⟩] from ⟨Below.refl _ _, by intro p hp; simp at hp; rcases hp with rfl | rfl; exact h1; exact h2⟩)
  clear h1 h2
  go_enter Try.func8, Try.ntmps8
  go_wp2_with fail
  refine (alive_any _).mono ?_
  rintro e w1 ⟨rfl, hb⟩
  have HS1 := hide ((unhide HS0).keep hb)
  clear hb HS0
  go_wp2_with fail
  refine ((unhide HS1).may2 ⟨a1, n1, c1, xs⟩ ⟨a2, n2, c2, ys⟩ (by simp) (by simp) _).mono ?_
  rintro e w2 ⟨rfl, hst⟩
  have HS2 := hide hst
  clear hst HS1
  simp only
  cases hm : MayL xs && MayL ys
  · go_wp2
    go_ret
    exact ⟨rfl, (unhide HS2).bel⟩
  · simp only [Bool.and_eq_true] at hm
    obtain ⟨m1, m2⟩ := hm
    have M1 := hide m1
    have M2 := hide m2
    clear m1 m2
    have HS := hide ((unhide HS2).flags 73)
    clear HS2
    generalize hK : w2.heap.size = K at HS
    go_wp2_with fail
    refine (nand_any a1 a2 n1 c1 n2 c2 xs ys _ ((unhide HS).sl ⟨a1, n1, c1, xs⟩ (by simp)) ((unhide HS).sl ⟨a2, n2, c2, ys⟩ (by simp)) ox oy).mono ?_
    intro e w11 hres
    obtain ⟨a11, m11, d11, rfl, hst⟩ := (unhide HS).bw (unhide M1) (unhide M2) hres
    clear HS hres
    have HS := hide hst
    clear hst
    go_wp2_with fail
    refine (took_ok _ a11 m11 d11 _ _ ((unhide HS).sl ⟨a11, m11, d11, bwN bwAnd xs ys⟩ (by simp)) (bwN_may bwAnd_lt ox oy (unhide M1) (unhide M2))).mono ?_
    rintro e w' ⟨rfl, hw⟩
    obtain rfl := hw.symm
    clear hw
    go_wp2_with fail
    refine (nor_any a1 a2 n1 c1 n2 c2 xs ys _ ((unhide HS).sl ⟨a1, n1, c1, xs⟩ (by simp)) ((unhide HS).sl ⟨a2, n2, c2, ys⟩ (by simp)) ox oy).mono ?_
    intro e w12 hres
    obtain ⟨a12, m12, d12, rfl, hst⟩ := (unhide HS).bw (unhide M1) (unhide M2) hres
    clear HS hres
    have HS := hide hst
    clear hst
    go_wp2_with fail
    refine (took_ok _ a12 m12 d12 _ _ ((unhide HS).sl ⟨a12, m12, d12, bwN bwOr xs ys⟩ (by simp)) (bwN_may bwOr_lt ox oy (unhide M1) (unhide M2))).mono ?_
    rintro e w' ⟨rfl, hw⟩
    obtain rfl := hw.symm
    clear hw
    go_wp2_with fail
    refine (nxor_any a1 a2 n1 c1 n2 c2 xs ys _ ((unhide HS).sl ⟨a1, n1, c1, xs⟩ (by simp)) ((unhide HS).sl ⟨a2, n2, c2, ys⟩ (by simp)) ox oy).mono ?_
    intro e w13 hres
    obtain ⟨a13, m13, d13, rfl, hst⟩ := (unhide HS).bw (unhide M1) (unhide M2) hres
    clear HS hres
    have HS := hide hst
    clear hst
    go_wp2_with fail
    refine (took_ok _ a13 m13 d13 _ _ ((unhide HS).sl ⟨a13, m13, d13, bwN bwXor xs ys⟩ (by simp)) (bwN_may bwXor_lt ox oy (unhide M1) (unhide M2))).mono ?_
    rintro e w' ⟨rfl, hw⟩
    obtain rfl := hw.symm
    clear hw
    go_wp2_with fail
    refine (nnot_any a1 a2 n1 c1 n2 c2 xs ys _ ((unhide HS).sl ⟨a1, n1, c1, xs⟩ (by simp)) ((unhide HS).sl ⟨a2, n2, c2, ys⟩ (by simp)) ox oy).mono ?_
    intro e w14 hres
    obtain ⟨a14, m14, d14, rfl, hst⟩ := (unhide HS).bw (unhide M1) (unhide M2) hres
    clear HS hres
    have HS := hide hst
    clear hst
    go_wp2_with fail
    refine (took_ok _ a14 m14 d14 _ _ ((unhide HS).sl ⟨a14, m14, d14, bwN bwNot xs ys⟩ (by simp)) (bwN_may bwNot_lt ox oy (unhide M1) (unhide M2))).mono ?_
    rintro e w' ⟨rfl, hw⟩
    obtain rfl := hw.symm
    clear hw
    have f0 := (unhide HS).c0
    have f1 := (unhide HS).c1
    go_wp2_with fail
    refine ((unhide HS).add ⟨a11, m11, d11, bwN bwAnd xs ys⟩ ⟨a14, m14, d14, bwN bwNot xs ys⟩ (by simp) (by simp) (bwN_may bwAnd_lt ox oy (unhide M1) (unhide M2)) (bwN_may bwNot_lt ox oy (unhide M1) (unhide M2)) (bwN_ok _ _ _) (bwN_ok _ _ _)).mono ?_
    rintro e w15 ⟨a15, m15, d15, rfl, hst⟩
    simp only [bwN_val, boole_and_not ox oy] at hst
    rw [big_self (unhide M1) ox, fitN_self (unhide M1) ox] at hst
    simp only [Bool.or_false] at hst
    clear HS
    have HS := hide hst
    clear hst
    clear f0 f1
    have f0 := (unhide HS).c0
    have f1 := (unhide HS).c1
    go_wp2_with fail
    refine ((unhide HS).same ⟨a15, m15, d15, xs⟩ ⟨a1, n1, c1, xs⟩ (by simp) (by simp) true (decide_eq_true rfl)).mono ?_
    rintro e w16 ⟨rfl, hst⟩
    clear HS
    have HS := hide hst
    clear hst
    clear f0 f1
    have f0 := (unhide HS).c0
    have f1 := (unhide HS).c1
    go_wp2_with fail
    refine ((unhide HS).add ⟨a11, m11, d11, bwN bwAnd xs ys⟩ ⟨a13, m13, d13, bwN bwXor xs ys⟩ (by simp) (by simp) (bwN_may bwAnd_lt ox oy (unhide M1) (unhide M2)) (bwN_may bwXor_lt ox oy (unhide M1) (unhide M2)) (bwN_ok _ _ _) (bwN_ok _ _ _)).mono ?_
    rintro e w17 ⟨a17, m17, d17, rfl, hst⟩
    simp only [bwN_val, boole_and_xor ox oy] at hst
    rw [(bwN_fit bwOr_lt ox oy (unhide M1) (unhide M2)).1, (bwN_fit bwOr_lt ox oy (unhide M1) (unhide M2)).2] at hst
    simp only [Bool.or_false] at hst
    clear HS
    have HS := hide hst
    clear hst
    clear f0 f1
    have f0 := (unhide HS).c0
    have f1 := (unhide HS).c1
    go_wp2_with fail
    refine ((unhide HS).same ⟨a17, m17, d17, bwN bwOr xs ys⟩ ⟨a12, m12, d12, bwN bwOr xs ys⟩ (by simp) (by simp) true (decide_eq_true rfl)).mono ?_
    rintro e w18 ⟨rfl, hst⟩
    clear HS
    have HS := hide hst
    clear hst
    clear f0 f1
    have f0 := (unhide HS).c0
    have f1 := (unhide HS).c1
    go_wp2_with fail
    refine ((unhide HS).add ⟨a14, m14, d14, bwN bwNot xs ys⟩ ⟨a2, n2, c2, ys⟩ (by simp) (by simp) (bwN_may bwNot_lt ox oy (unhide M1) (unhide M2)) (unhide M2) (bwN_ok _ _ _) oy).mono ?_
    rintro e w19 ⟨a19, m19, d19, rfl, hst⟩
    simp only [bwN_val, boole_not_or ox oy] at hst
    rw [(bwN_fit bwOr_lt ox oy (unhide M1) (unhide M2)).1, (bwN_fit bwOr_lt ox oy (unhide M1) (unhide M2)).2] at hst
    simp only [Bool.or_false] at hst
    clear HS
    have HS := hide hst
    clear hst
    clear f0 f1
    have f0 := (unhide HS).c0
    have f1 := (unhide HS).c1
    go_wp2_with fail
    refine ((unhide HS).same ⟨a19, m19, d19, bwN bwOr xs ys⟩ ⟨a12, m12, d12, bwN bwOr xs ys⟩ (by simp) (by simp) true (decide_eq_true rfl)).mono ?_
    rintro e w20 ⟨rfl, hst⟩
    clear HS
    have HS := hide hst
    clear hst
    clear f0 f1
    have f0 := (unhide HS).c0
    have f1 := (unhide HS).c1
    clear f0 f1
    have HO := hide (boole_ones ox oy)
    have HZ := hide (boole_same ox oy (MayL.norm (unhide M1)) (MayL.norm (unhide M2)))
    have lx := onesN_le (bwN_may bwXor_lt ox oy (unhide M1) (unhide M2))
    have la := onesN_le (bwN_may bwAnd_lt ox oy (unhide M1) (unhide M2))
    have lo := onesN_le (bwN_may bwOr_lt ox oy (unhide M1) (unhide M2))
    have l1 := onesN_le (unhide M1)
    have l2 := onesN_le (unhide M2)
    change Hid (onesN (bwN bwAnd xs ys) + onesN (bwN bwOr xs ys) = onesN xs + onesN ys) at HO
    change Hid (onesN (bwN bwXor xs ys) = 0 ↔ xs = ys) at HZ
    go_wp2_with fail
    refine ((unhide HS).ones ⟨a13, m13, d13, bwN bwXor xs ys⟩ (by simp) (bwN_ok _ _ _) (bwN_may bwXor_lt ox oy (unhide M1) (unhide M2))).mono ?_
    rintro e w21 ⟨rfl, hst⟩
    simp only
    clear HS
    have HS := hide hst
    clear hst
    generalize onesN (bwN bwXor xs ys) = ox1 at *
    by_cases hxy : xs = ys
    focus
      have hz : ox1 = 0 := (unhide HZ).2 hxy
      subst hz
      have HE := hide hxy
      clear hxy
      go_wp2_with fail
      refine ((unhide HS).same ⟨a1, n1, c1, xs⟩ ⟨a2, n2, c2, ys⟩ (by simp) (by simp) true (decide_eq_true (unhide HE))).mono ?_
      rintro e w22 ⟨rfl, hst⟩
      clear HS
      have HS := hide hst
      clear hst
      go_wp2_with fail
    rotate_left
    focus
      have hz : ox1 ≠ 0 := fun e => hxy ((unhide HZ).1 e)
      have hz2 : ¬ (ox1:Int) = 0 := by omega
      have hz3 : ((ox1:Int) == 0) = false := by simp; omega
      have HE := hide hxy
      clear hxy
      go_wp2_with fail
      refine ((unhide HS).same ⟨a1, n1, c1, xs⟩ ⟨a2, n2, c2, ys⟩ (by simp) (by simp) false (decide_eq_false (unhide HE))).mono ?_
      rintro e w23 ⟨rfl, hst⟩
      clear HS
      have HS := hide hst
      clear hst
      go_wp2_with fail
    all_goals
      try clear HE
      refine ((unhide HS).ones ⟨a11, m11, d11, bwN bwAnd xs ys⟩ (by simp) (bwN_ok _ _ _) (bwN_may bwAnd_lt ox oy (unhide M1) (unhide M2))).mono ?_
      rintro e w24 ⟨rfl, hst⟩
      simp only
      clear HS
      have HS := hide hst
      clear hst
      go_wp2_with fail
      refine ((unhide HS).ones ⟨a12, m12, d12, bwN bwOr xs ys⟩ (by simp) (bwN_ok _ _ _) (bwN_may bwOr_lt ox oy (unhide M1) (unhide M2))).mono ?_
      rintro e w25 ⟨rfl, hst⟩
      simp only
      clear HS
      have HS := hide hst
      clear hst
      go_wp2_with fail
      refine ((unhide HS).ones ⟨a1, n1, c1, xs⟩ (by simp) ox (unhide M1)).mono ?_
      rintro e w26 ⟨rfl, hst⟩
      simp only
      clear HS
      have HS := hide hst
      clear hst
      go_wp2_with fail
      refine ((unhide HS).ones ⟨a2, n2, c2, ys⟩ (by simp) oy (unhide M2)).mono ?_
      rintro e w27 ⟨rfl, hst⟩
      simp only
      clear HS
      have HS := hide hst
      clear hst
      have ho := unhide HO
      generalize onesN (bwN bwAnd xs ys) = oa at *
      generalize onesN (bwN bwOr xs ys) = oo at *
      generalize onesN xs = o1 at *
      generalize onesN ys = o2 at *
      have hoi : (oa:Int) + (oo:Int) = (o1:Int) + (o2:Int) := by omega
      go_wp2
      go_ret
      exact ⟨rfl, (unhide HS).bel⟩

set_option maxRecDepth 100000 in
theorem natBoole_lifted (os : Os) (started : os.Started) (H : Type) (enc : TypeId × Value → H) :
    ReturnsInHanded {} Try.checked os 8 .any (Rows.natBooleSpec.pre6 enc Try.prog Try.f8 Rows.natBooleRow.domain false) (Rows.natBooleSpec.post enc Try.prog Try.f8 false true false false) := by
  refine returnsInHanded_of_change_sized (C := Try.checked) law_own started (by kernel_rfl) Try.func8
    (ChangeSpec.witness6 (enc := enc) (C := Try.checked) false ⟨#[], #[.slice none 0 0, .slice none 0 0], []⟩ 8 (by kernel_rfl) (by kernel_rfl) (by kernel_rfl) (by kernel_rfl)) ?_
  intro W base args ds gs before hval0 hW hcnd hsz _
  have hval : ∀ (j : Nat) t v, Try.f8.params[j]? = some t → args[j]? = some v → Value.okWide Try.prog W .any base t v := hval0
  have hW' := hW
  obtain ⟨p, q, hA0, hV, rfl, hfz, hnd⟩ := hW
  have hA : DataW.TrodAll enc Try.prog W 0 (fun _ => true) true Try.f8.params.toList args.toList ds p := hA0
  rw [Try.params8] at hA hval hsz
  have r := hA
  obtain ⟨v0, vs0, d0, ds0, p0, q0, hargs, rfl, rfl, h0, r0⟩ := trodAll_cons hA
  obtain ⟨v1, vs1, d1, ds1, p1, q1, rfl, rfl, rfl, h1, r1⟩ := trodAll_cons r0
  obtain ⟨rfl, rfl, rfl⟩ := trodAll_nil r1
  obtain rfl : args = #[v0, v1] := by cases args; simp_all
  obtain ⟨rfl, rfl⟩ := trodVars_none hV
  obtain ⟨a0, n0, c0, rfl⟩ := okWide_slice Try.underlying23 (hval 0 23 v0 rfl rfl)
  have k0 := h0
  have lt0 : ∀ x ∈ p0, x.block < W.heap.size := by obtain ⟨m, hm⟩ := k0; exact DataW.trod_lt m _ _ _ hm
  obtain ⟨x0, s0, o0, b0⟩ := arg_limbs h0 (fun el sp e => by subst e; exact sized_slice (j := 0) hsz rfl rfl Try.underlying23)
  obtain ⟨a1, n1, c1, rfl⟩ := okWide_slice Try.underlying23 (hval 1 23 v1 rfl rfl)
  have k1 := h1
  have lt1 : ∀ x ∈ p1, x.block < W.heap.size := by obtain ⟨m, hm⟩ := k1; exact DataW.trod_lt m _ _ _ hm
  obtain ⟨x1, s1, o1, b1⟩ := arg_limbs h1 (fun el sp e => by subst e; exact sized_slice (j := 1) hsz rfl rfl Try.underlying23)
  clear hA0 hval0
  refine (natBoole_walk a0 a1 n0 c0 n1 c1 x0 x1 W s0 s1 o0 o1).mono fun e W' ⟨he, bel⟩ => ?_
  subst he
  exact ⟨_, rfl, _, _, _, [], _, [], hW', trodAll_mk1 (shut_bool Try.underlying4 _), (trodAll_cons_mk (Below.trod law_laid (by kernel_rfl) (of_decide_eq_true (by kernel_rfl)) k0 bel lt0) (trodAll_cons_mk (Below.trod law_laid (by kernel_rfl) (of_decide_eq_true (by kernel_rfl)) k1 bel lt1) trodAll_mk0)), rfl, bel.frame _, fun h => by cases h⟩

theorem natBoole_holds : Rows.NatBooleSaid :=
  OpenClaim.holds_of_wide 8 Try.f8 rfl rfl rfl rfl rfl rfl rfl ⟨rfl, rfl, rfl, rfl, rfl⟩ rfl rfl rfl rfl rfl (by kernel_rfl) Try.func8 (by kernel_rfl)
    (of_decide_eq_true (by kernel_rfl)) (by unfold Func.isWrapper; first | (rw [if_pos (by decide +kernel)]; kernel_rfl) | (rw [if_neg (by decide +kernel)]; exact ⟨rfl, rfl⟩))
    (fun os started H enc _ => natBoole_lifted os started H enc)
#print axioms natBoole_holds
end Go.Proofs.Ytpnhmaenmmelnaa
