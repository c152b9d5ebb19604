/-
  THE LAW NatRing: out of the contracts; the row's step.
-/
import Derived.Test.YtokgcpnnbajlkaaRng2
namespace Go.Proofs.Ytokgcpnnbajlkaa
open Go.ChangeShapes Go.WideShapes Go.ChangeAt Go.RowKit Go.Deep
set_option linter.unusedVariables false

set_option maxHeartbeats 16000000 in
theorem natRing_walk (a1 a2 a3 : Option Addr) (n1 c1 n2 c2 n3 c3 : Nat) (xs ys zs : List Nat) (w : World) (h1 : Sl w a1 n1 c1 xs) (h2 : Sl w a2 n2 c2 ys) (h3 : Sl w a3 n3 c3 zs) (ox : Ok xs) (oy : Ok ys) (oz : Ok zs) :
    Calls Try.prog 11 #[.slice a1 n1 c1, .slice a2 n2 c2, .slice a3 n3 c3] w fun e w' => e = .returned (.bool true) ∧ Below w.heap.size w w' := by
  have HS0 := hide (show PSt w w [⟨a1, n1, c1, xs⟩, ⟨a2, n2, c2, ys⟩, ⟨a3, n3, c3, zs⟩, ⟨none, 0, 0, []⟩] from ⟨Below.refl _ _, by intro p hp; simp at hp; rcases hp with rfl | rfl | rfl | rfl; exact h1; exact h2; exact h3; exact sl_nil _⟩)
  clear h1 h2 h3
  go_enter Try.func11, Try.ntmps11
  go_wp2_with fail
  refine (alive_any _).mono ?_
  rintro e w1 ⟨rfl, hb⟩
  have HS1 := hide ((unhide HS0).keep hb)
  clear hb HS0
  go_wp2_with fail
  refine ((unhide HS1).may3 ⟨a1, n1, c1, xs⟩ ⟨a2, n2, c2, ys⟩ ⟨a3, n3, c3, zs⟩ (by simp) (by simp) (by simp) _).mono ?_
  rintro e w2 ⟨rfl, hst⟩
  have HS2 := hide hst
  clear hst HS1
  simp only
  cases hm : MayL xs && (MayL ys && MayL zs)
  · go_wp2
    go_ret
    exact ⟨rfl, (unhide HS2).bel⟩
  · simp only [Bool.and_eq_true] at hm
    obtain ⟨m1, m2, m3⟩ := hm
    have M1 := hide m1
    have M2 := hide m2
    have M3 := hide m3
    clear m1 m2 m3
    have HK := hide ((unhide HS2).flags 72)
    clear HS2
    go_wp2_with fail
    refine (from_any 1 _ (by decide)).mono ?_
    rintro e w3 ⟨ao, mo, os, rfl, hs, hr, ha, hb⟩
    have e1 : os = [1] := hr.unique rep_one
    subst e1
    have o1 : Ok [1] := hr.ok
    have HS := hide ((unhide HK).res hb hs ha)
    clear HK hs hr ha hb
    go_wp2_with fail
    refine ((unhide HS).add ⟨a1, n1, c1, xs⟩ ⟨a2, n2, c2, ys⟩ (by simp) (by simp) (unhide M1) (unhide M2) ox oy).mono ?_
    rintro e w11 ⟨a11, m11, d11, rfl, hst⟩
    simp only at hst
    clear HS
    have HS := hide hst
    clear hst
    go_wp2_with fail
    refine ((unhide HS).add ⟨a2, n2, c2, ys⟩ ⟨a3, n3, c3, zs⟩ (by simp) (by simp) (unhide M2) (unhide M3) oy oz).mono ?_
    rintro e w12 ⟨a12, m12, d12, rfl, hst⟩
    simp only at hst
    clear HS
    have HS := hide hst
    clear hst
    cases hB : ((false || bigN (val xs + val ys)) || bigN (val ys + val zs)) <;> rw [hB] at HS
    focus
      simp only [Bool.false_or, Bool.or_eq_false_iff] at hB
      have B1 := hide hB.1
      have B2 := hide hB.2
      clear hB
      have f0 := (unhide HS).c0
      have f1 := (unhide HS).c1
      go_wp2_with fail
      refine ((unhide HS).add ⟨a2, n2, c2, ys⟩ ⟨a1, n1, c1, xs⟩ (by simp) (by simp) (unhide M2) (unhide M1) oy ox).mono ?_
      rintro e w13 ⟨a13, m13, d13, rfl, hst⟩
      simp only at hst
      clear HS
      have HS := hide hst
      clear hst
      clear f0 f1
      go_wp2_with fail
      refine ((unhide HS).same ⟨a11, m11, d11, fitN (val xs + val ys)⟩ ⟨a13, m13, d13, fitN (val ys + val xs)⟩ (by simp) (by simp) true (decide_eq_true (by rw [Nat.add_comm (val xs)]))).mono ?_
      rintro e w14 ⟨rfl, hst⟩
      clear HS
      have HS := hide hst
      clear hst
      go_wp2_with fail
      refine ((unhide HS).add ⟨a11, m11, d11, fitN (val xs + val ys)⟩ ⟨a3, n3, c3, zs⟩ (by simp) (by simp) (fitN_may _) (unhide M3) (fitN_isOk _) oz).mono ?_
      rintro e w15 ⟨a15, m15, d15, rfl, hst⟩
      simp only at hst
      clear HS
      have HS := hide hst
      clear hst
      go_wp2_with fail
      refine ((unhide HS).add ⟨a1, n1, c1, xs⟩ ⟨a12, m12, d12, fitN (val ys + val zs)⟩ (by simp) (by simp) (unhide M1) (fitN_may _) ox (fitN_isOk _)).mono ?_
      rintro e w16 ⟨a16, m16, d16, rfl, hst⟩
      simp only at hst
      clear HS
      have HS := hide hst
      clear hst
      go_wp2_with fail
      refine ((unhide HS).same ⟨a15, m15, d15, fitN (val (fitN (val xs + val ys)) + val zs)⟩ ⟨a16, m16, d16, fitN (val xs + val (fitN (val ys + val zs)))⟩ (by simp) (by simp) true (decide_eq_true (by rw [fitN_val (unhide B1), fitN_val (unhide B2), Nat.add_assoc]))).mono ?_
      rintro e w17 ⟨rfl, hst⟩
      clear HS
      have HS := hide hst
      clear hst
      clear B1 B2
    rotate_left
    focus
      clear hB
      have f0 := (unhide HS).c0
      have f1 := (unhide HS).c1
    all_goals
      go_wp2_with fail
      refine ((unhide HS).add ⟨a1, n1, c1, xs⟩ ⟨none, 0, 0, []⟩ (by simp) (by simp) (unhide M1) rfl ox Ok.nil).mono ?_
      rintro e w18 ⟨a18, m18, d18, rfl, hst⟩
      simp only at hst
      clear HS
      have HS := hide hst
      clear hst
      try clear f0 f1
      go_wp2_with fail
      refine ((unhide HS).same ⟨a18, m18, d18, fitN (val xs + val [])⟩ ⟨a1, n1, c1, xs⟩ (by simp) (by simp) true (decide_eq_true (by simp only [val]; rw [Nat.add_zero]; exact fitN_self (unhide M1) ox))).mono ?_
      rintro e w19 ⟨rfl, hst⟩
      clear HS
      have HS := hide hst
      clear hst
      go_wp2_with fail
      refine ((unhide HS).mul ⟨a1, n1, c1, xs⟩ ⟨ao, mo, mo, [1]⟩ (by simp) (by simp) (unhide M1) rfl ox o1).mono ?_
      rintro e w20 ⟨a20, m20, d20, rfl, hst⟩
      simp only at hst
      clear HS
      have HS := hide hst
      clear hst
      go_wp2_with fail
      refine ((unhide HS).same ⟨a20, m20, d20, fitN (val xs * val [1])⟩ ⟨a1, n1, c1, xs⟩ (by simp) (by simp) true (decide_eq_true (by simp only [val]; rw [Nat.mul_zero, Nat.add_zero, Nat.mul_one]; exact fitN_self (unhide M1) ox))).mono ?_
      rintro e w21 ⟨rfl, hst⟩
      clear HS
      have HS := hide hst
      clear hst
      go_wp2_with fail
      refine ((unhide HS).mul ⟨a1, n1, c1, xs⟩ ⟨none, 0, 0, []⟩ (by simp) (by simp) (unhide M1) rfl ox Ok.nil).mono ?_
      rintro e w22 ⟨a22, m22, d22, rfl, hst⟩
      simp only at hst
      clear HS
      have HS := hide hst
      clear hst
      have hl := ((unhide HS).sl ⟨a22, m22, d22, fitN (val xs * val [])⟩ (by simp)).len
      simp only [val, Nat.mul_zero] at hl
      rw [show fitN 0 = [] from fitN_self (xs := []) rfl Ok.nil] at hl
      simp only [List.length_nil] at hl
      subst hl
      have HK := hide ((unhide HS).p.flags 72)
      clear HS
      have HS := HK
      clear HK
      go_wp2_with fail
      refine ((unhide HS).mul ⟨a1, n1, c1, xs⟩ ⟨a2, n2, c2, ys⟩ (by simp) (by simp) (unhide M1) (unhide M2) ox oy).mono ?_
      rintro e w23 ⟨a23, m23, d23, rfl, hst⟩
      simp only at hst
      clear HS
      have HS := hide hst
      clear hst
      go_wp2_with fail
      refine ((unhide HS).mul ⟨a2, n2, c2, ys⟩ ⟨a3, n3, c3, zs⟩ (by simp) (by simp) (unhide M2) (unhide M3) oy oz).mono ?_
      rintro e w24 ⟨a24, m24, d24, rfl, hst⟩
      simp only at hst
      clear HS
      have HS := hide hst
      clear hst
      cases hB : ((false || bigN (val xs * val ys)) || bigN (val ys * val zs)) <;> rw [hB] at HS
      focus
        simp only [Bool.false_or, Bool.or_eq_false_iff] at hB
        have B1 := hide hB.1
        have B2 := hide hB.2
        clear hB
        have f0 := (unhide HS).c0
        have f1 := (unhide HS).c1
        go_wp2_with fail
        refine ((unhide HS).mul ⟨a2, n2, c2, ys⟩ ⟨a1, n1, c1, xs⟩ (by simp) (by simp) (unhide M2) (unhide M1) oy ox).mono ?_
        rintro e w25 ⟨a25, m25, d25, rfl, hst⟩
        simp only at hst
        clear HS
        have HS := hide hst
        clear hst
        clear f0 f1
        go_wp2_with fail
        refine ((unhide HS).same ⟨a23, m23, d23, fitN (val xs * val ys)⟩ ⟨a25, m25, d25, fitN (val ys * val xs)⟩ (by simp) (by simp) true (decide_eq_true (by rw [Nat.mul_comm (val xs)]))).mono ?_
        rintro e w26 ⟨rfl, hst⟩
        clear HS
        have HS := hide hst
        clear hst
        go_wp2_with fail
        refine ((unhide HS).mul ⟨a23, m23, d23, fitN (val xs * val ys)⟩ ⟨a3, n3, c3, zs⟩ (by simp) (by simp) (fitN_may _) (unhide M3) (fitN_isOk _) oz).mono ?_
        rintro e w27 ⟨a27, m27, d27, rfl, hst⟩
        simp only at hst
        clear HS
        have HS := hide hst
        clear hst
        go_wp2_with fail
        refine ((unhide HS).mul ⟨a1, n1, c1, xs⟩ ⟨a24, m24, d24, fitN (val ys * val zs)⟩ (by simp) (by simp) (unhide M1) (fitN_may _) ox (fitN_isOk _)).mono ?_
        rintro e w28 ⟨a28, m28, d28, rfl, hst⟩
        simp only at hst
        clear HS
        have HS := hide hst
        clear hst
        go_wp2_with fail
        refine ((unhide HS).same ⟨a27, m27, d27, fitN (val (fitN (val xs * val ys)) * val zs)⟩ ⟨a28, m28, d28, fitN (val xs * val (fitN (val ys * val zs)))⟩ (by simp) (by simp) true (decide_eq_true (by rw [fitN_val (unhide B1), fitN_val (unhide B2), Nat.mul_assoc]))).mono ?_
        rintro e w29 ⟨rfl, hst⟩
        clear HS
        have HS := hide hst
        clear hst
        clear B1 B2
      rotate_left
      focus
        clear hB
        have f0 := (unhide HS).c0
        have f1 := (unhide HS).c1
      all_goals
        have HK := hide ((unhide HS).p.flags 72)
        clear HS
        have HS := HK
        clear HK
        go_wp2_with fail
        refine ((unhide HS).add ⟨a2, n2, c2, ys⟩ ⟨a3, n3, c3, zs⟩ (by simp) (by simp) (unhide M2) (unhide M3) oy oz).mono ?_
        rintro e w30 ⟨a30, m30, d30, rfl, hst⟩
        simp only at hst
        clear HS
        have HS := hide hst
        clear hst
        try clear f0 f1
        go_wp2_with fail
        refine ((unhide HS).mul ⟨a1, n1, c1, xs⟩ ⟨a30, m30, d30, fitN (val ys + val zs)⟩ (by simp) (by simp) (unhide M1) (fitN_may _) ox (fitN_isOk _)).mono ?_
        rintro e w31 ⟨a31, m31, d31, rfl, hst⟩
        simp only at hst
        clear HS
        have HS := hide hst
        clear hst
        go_wp2_with fail
        refine ((unhide HS).mul ⟨a1, n1, c1, xs⟩ ⟨a2, n2, c2, ys⟩ (by simp) (by simp) (unhide M1) (unhide M2) ox oy).mono ?_
        rintro e w32 ⟨a32, m32, d32, rfl, hst⟩
        simp only at hst
        clear HS
        have HS := hide hst
        clear hst
        go_wp2_with fail
        refine ((unhide HS).mul ⟨a1, n1, c1, xs⟩ ⟨a3, n3, c3, zs⟩ (by simp) (by simp) (unhide M1) (unhide M3) ox oz).mono ?_
        rintro e w33 ⟨a33, m33, d33, rfl, hst⟩
        simp only at hst
        clear HS
        have HS := hide hst
        clear hst
        go_wp2_with fail
        refine ((unhide HS).add ⟨a32, m32, d32, fitN (val xs * val ys)⟩ ⟨a33, m33, d33, fitN (val xs * val zs)⟩ (by simp) (by simp) (fitN_may _) (fitN_may _) (fitN_isOk _) (fitN_isOk _)).mono ?_
        rintro e w34 ⟨a34, m34, d34, rfl, hst⟩
        simp only at hst
        clear HS
        have HS := hide hst
        clear hst
        cases hB : (((((false || bigN (val ys + val zs)) || bigN (val xs * val (fitN (val ys + val zs)))) || bigN (val xs * val ys)) || bigN (val xs * val zs)) || bigN (val (fitN (val xs * val ys)) + val (fitN (val xs * val zs)))) <;> rw [hB] at HS
        · simp only [Bool.false_or, Bool.or_eq_false_iff] at hB
          have B1 := hide hB.1.1.1.1
          have B2 := hide hB.1.1.2
          have B3 := hide hB.1.2
          clear hB
          have f0 := (unhide HS).c0
          have f1 := (unhide HS).c1
          go_wp2_with fail
          refine ((unhide HS).same ⟨a31, m31, d31, fitN (val xs * val (fitN (val ys + val zs)))⟩ ⟨a34, m34, d34, fitN (val (fitN (val xs * val ys)) + val (fitN (val xs * val zs)))⟩ (by simp) (by simp) true (decide_eq_true (by rw [fitN_val (unhide B1), fitN_val (unhide B2), fitN_val (unhide B3), Nat.mul_add]))).mono ?_
          rintro e w35 ⟨rfl, hst⟩
          clear HS
          have HS := hide hst
          clear hst
          go_wp2
          go_ret
          exact ⟨rfl, (unhide HS).bel⟩
        · clear hB
          have f0 := (unhide HS).c0
          have f1 := (unhide HS).c1
          go_wp2
          go_ret
          exact ⟨rfl, (unhide HS).bel⟩

set_option maxRecDepth 100000 in
theorem natRing_lifted (os : Os) (started : os.Started) (H : Type) (enc : TypeId × Value → H) :
    ReturnsInHanded {} Try.checked os 11 .any (Rows.natRingSpec.pre6 enc Try.prog Try.f11 Rows.natRingRow.domain false) (Rows.natRingSpec.post enc Try.prog Try.f11 false true false false) := by
  refine returnsInHanded_of_change_sized (C := Try.checked) law_own started (by kernel_rfl) Try.func11
    (ChangeSpec.witness6 (enc := enc) (C := Try.checked) false ⟨#[], #[.slice none 0 0, .slice none 0 0, .slice none 0 0], []⟩ 8 (by kernel_rfl) (by kernel_rfl) (by kernel_rfl) (by kernel_rfl)) ?_
  intro W base args ds gs before hval0 hW hcnd hsz _
  have hval : ∀ (j : Nat) t v, Try.f11.params[j]? = some t → args[j]? = some v → Value.okWide Try.prog W .any base t v := hval0
  have hW' := hW
  obtain ⟨p, q, hA0, hV, rfl, hfz, hnd⟩ := hW
  have hA : DataW.TrodAll enc Try.prog W 0 (fun _ => true) true Try.f11.params.toList args.toList ds p := hA0
  rw [Try.params11] at hA hval hsz
  have r := hA
  obtain ⟨v0, vs0, d0, ds0, p0, q0, hargs, rfl, rfl, h0, r0⟩ := trodAll_cons hA
  obtain ⟨v1, vs1, d1, ds1, p1, q1, rfl, rfl, rfl, h1, r1⟩ := trodAll_cons r0
  obtain ⟨v2, vs2, d2, ds2, p2, q2, rfl, rfl, rfl, h2, r2⟩ := trodAll_cons r1
  obtain ⟨rfl, rfl, rfl⟩ := trodAll_nil r2
  obtain rfl : args = #[v0, v1, v2] := by cases args; simp_all
  obtain ⟨rfl, rfl⟩ := trodVars_none hV
  obtain ⟨a0, n0, c0, rfl⟩ := okWide_slice Try.underlying24 (hval 0 24 v0 rfl rfl)
  have k0 := h0
  have lt0 : ∀ x ∈ p0, x.block < W.heap.size := by obtain ⟨m, hm⟩ := k0; exact DataW.trod_lt m _ _ _ hm
  obtain ⟨x0, s0, o0, b0⟩ := arg_limbs h0 (fun el sp e => by subst e; exact sized_slice (j := 0) hsz rfl rfl Try.underlying24)
  obtain ⟨a1, n1, c1, rfl⟩ := okWide_slice Try.underlying24 (hval 1 24 v1 rfl rfl)
  have k1 := h1
  have lt1 : ∀ x ∈ p1, x.block < W.heap.size := by obtain ⟨m, hm⟩ := k1; exact DataW.trod_lt m _ _ _ hm
  obtain ⟨x1, s1, o1, b1⟩ := arg_limbs h1 (fun el sp e => by subst e; exact sized_slice (j := 1) hsz rfl rfl Try.underlying24)
  obtain ⟨a2, n2, c2, rfl⟩ := okWide_slice Try.underlying24 (hval 2 24 v2 rfl rfl)
  have k2 := h2
  have lt2 : ∀ x ∈ p2, x.block < W.heap.size := by obtain ⟨m, hm⟩ := k2; exact DataW.trod_lt m _ _ _ hm
  obtain ⟨x2, s2, o2, b2⟩ := arg_limbs h2 (fun el sp e => by subst e; exact sized_slice (j := 2) hsz rfl rfl Try.underlying24)
  clear hA0 hval0
  refine (natRing_walk a0 a1 a2 n0 c0 n1 c1 n2 c2 x0 x1 x2 W s0 s1 s2 o0 o1 o2).mono fun e W' ⟨he, bel⟩ => ?_
  subst he
  exact ⟨_, rfl, _, _, _, [], _, [], hW', trodAll_mk1 (shut_bool Try.underlying4 _), (trodAll_cons_mk (Below.trod law_laid (by kernel_rfl) (of_decide_eq_true (by kernel_rfl)) k0 bel lt0) (trodAll_cons_mk (Below.trod law_laid (by kernel_rfl) (of_decide_eq_true (by kernel_rfl)) k1 bel lt1) (trodAll_cons_mk (Below.trod law_laid (by kernel_rfl) (of_decide_eq_true (by kernel_rfl)) k2 bel lt2) trodAll_mk0))), rfl, bel.frame _, fun h => by cases h⟩

theorem natRing_holds : Rows.NatRingSaid :=
  OpenClaim.holds_of_wide 11 Try.f11 rfl rfl rfl rfl rfl rfl rfl ⟨rfl, rfl, rfl, rfl, rfl⟩ rfl rfl rfl rfl rfl (by kernel_rfl) Try.func11 (by kernel_rfl)
    (of_decide_eq_true (by kernel_rfl)) (by unfold Func.isWrapper; first | (rw [if_pos (by decide +kernel)]; kernel_rfl) | (rw [if_neg (by decide +kernel)]; exact ⟨rfl, rfl⟩))
    (fun os started H enc _ => natRing_lifted os started H enc)
#print axioms natRing_holds
end Go.Proofs.Ytokgcpnnbajlkaa
