/-
  THE LAW BitMakes: out of the contracts; the row's step.
-/
import Derived.Test.YtbendkndnojihaaBt6
import Derived.Test.YtbendkndnojihaaBt8
namespace Go.Proofs.Ytbendkndnojihaa
open Go.ChangeShapes Go.WideShapes Go.ChangeAt Go.RowKit Go.Deep
set_option linter.unusedVariables false

set_option maxHeartbeats 4000000 in
theorem bitMakes_walk (size low high : Int) (a : Option Addr) (n c : Nat) (l : List Int) (w : World) (h : SlI w a n c l) (hn : n ≤ 17592186043904) (hnil : a = none → n = 0 ∧ c = 0) (hl : low ≤ 9223372036854775807) :
    Calls Try.prog 5 #[.int .i64 size, .slice a n c, .int .i64 low, .int .i64 high] w fun e w' => e = .returned (.bool true) ∧ Below w.heap.size w w' := by
  have A0 := hide (Facts.add (w0 := w) (w := w) (L := []) ⟨Below.refl _ _, fun f hf => by cases hf⟩ (fI a n c l) h)
  have HNil := hide hnil
  have HL := hide hl
  clear h hnil hl
  obtain ⟨r1, hr1⟩ : ∃ r, mkR size l = r := ⟨_, rfl⟩
  obtain ⟨r2, hr2⟩ : ∃ r, rangeR size low high = r := ⟨_, rfl⟩
  have HR1 := hide hr1
  have HR2 := hide hr2
  obtain ⟨s1, xs1, e1⟩ := r1
  obtain ⟨s2, xs2, e2⟩ := r2
  clear hr1 hr2
  go_enter Try.func5, Try.ntmps5
  go_wp2_with fail
  refine (lent_any a n c l w ((unhide A0).i a n c l (by simp)) hn (unhide HNil)).mono ?_
  rintro _ w1 ⟨b, cap, rfl, hs, hb⟩
  have A1 := hide (((unhide A0).step hb).add (fI (some ⟨b, 0, none⟩) (n + 1) cap (l ++ [77777])) hs)
  clear A0 hs hb
  go_wp2_with fail
  refine (make_any size (some ⟨b, 0, none⟩) n cap l w1 ((unhide A1).i (some ⟨b, 0, none⟩) (n + 1) cap (l ++ [77777]) (by simp)).init).mono ?_
  rw [unhide HR1]
  rintro _ w2 ⟨a2, n2, c2, rfl, hs, hb⟩
  have A2 := hide ((unhide A1).set (s := s1) hs hb 24)
  clear A1 hs hb
  unfold setV
  go_wp2_with fail
  generalize w2.alloc (.cells #[.int .i64 s1, .slice a2 n2 c2] 24) = w3 at *
  generalize w2.heap.size = Z1 at *
  refine (rmake_any size a n c l w3 ((unhide A2).i a n c l (by simp))).mono ?_
  rw [unhide HR1]
  rintro _ w4 ⟨a4, n4, c4, rfl, hs, hb⟩
  have A4 := hide ((unhide A2).set (s := s1) hs hb 24)
  clear A2 hs hb
  unfold setV
  go_wp2_with fail
  generalize w4.alloc (.cells #[.int .i64 s1, .slice a4 n4 c4] 24) = w5 at *
  generalize w4.heap.size = Z2 at *
  refine (range_any size low high w5 (unhide HL)).mono ?_
  rw [unhide HR2]
  rintro _ w6 ⟨a6, n6, c6, rfl, hs, hb⟩
  have A6 := hide ((unhide A4).set (s := s2) hs hb 24)
  clear A4 hs hb
  unfold setV
  go_wp2_with fail
  generalize w6.alloc (.cells #[.int .i64 s2, .slice a6 n6 c6] 24) = w7 at *
  generalize w6.heap.size = Z3 at *
  refine (rrange_any size low high w7).mono ?_
  rw [unhide HR2]
  rintro _ w8 ⟨a8, n8, c8, rfl, hs, hb⟩
  have A8 := hide ((unhide A6).set (s := s2) hs hb 24)
  clear A6 hs hb
  unfold setV
  have E2 : n4 = n2 := by
    rw [← ((unhide A8).w a4 n4 c4 xs1 (by simp)).len, ← ((unhide A8).w a2 n2 c2 xs1 (by simp)).len]
  have E6 : n8 = n6 := by
    rw [← ((unhide A8).w a8 n8 c8 xs2 (by simp)).len, ← ((unhide A8).w a6 n6 c6 xs2 (by simp)).len]
  subst E2 E6
  have z1 := ((unhide A8).t Z1 (.int .i64 s1) (.slice a2 n4 c2) (by simp))
  have z2 := ((unhide A8).t Z2 (.int .i64 s1) (.slice a4 n4 c4) (by simp))
  have u0 := z1.c0
  have u1 := z1.c1
  have u2 := z2.c0
  have u3 := z2.c1
  clear z1 z2
  go_wp2_with fail
  generalize w8.alloc (.cells #[.int .i64 s2, .slice a8 n8 c8] 24) = w9 at *
  generalize w8.heap.size = Z4 at *
  refine (same_eq s1 a2 a4 n4 c2 c4 xs1 w9 ((unhide A8).w a2 n4 c2 xs1 (by simp)) ((unhide A8).w a4 n4 c4 xs1 (by simp))).mono ?_
  rintro _ w10 ⟨rfl, hb⟩
  have A10 := hide ((unhide A8).step hb)
  clear A8 hb u0 u1 u2 u3
  go_wp2_with fail
  refine (num_any e1 w10).mono ?_
  rintro _ w' ⟨rfl, hw⟩
  obtain rfl := hw.symm
  go_wp2_with fail
  refine (back_any b cap a n c l w10 ((unhide A10).i (some ⟨b, 0, none⟩) (n + 1) cap (l ++ [77777]) (by simp)) ((unhide A10).i a n c l (by simp))).mono ?_
  rintro _ w11 ⟨rfl, hb⟩
  have A11 := hide ((unhide A10).step hb)
  have z1 := ((unhide A11).t Z3 (.int .i64 s2) (.slice a6 n8 c6) (by simp))
  have z2 := ((unhide A11).t Z4 (.int .i64 s2) (.slice a8 n8 c8) (by simp))
  have u0 := z1.c0
  have u1 := z1.c1
  have u2 := z2.c0
  have u3 := z2.c1
  clear z1 z2 A10 hb
  go_wp2_with fail
  refine (same_eq s2 a6 a8 n8 c6 c8 xs2 w11 ((unhide A11).w a6 n8 c6 xs2 (by simp)) ((unhide A11).w a8 n8 c8 xs2 (by simp))).mono ?_
  rintro _ w12 ⟨rfl, hb⟩
  have A12 := hide ((unhide A11).step hb)
  clear A11 hb u0 u1 u2 u3
  go_wp2_with fail
  refine (num_any e2 w12).mono ?_
  rintro _ w' ⟨rfl, hw⟩
  obtain rfl := hw.symm
  go_wp2_with fail
  go_ret
  exact ⟨rfl, (unhide A12).bel⟩

set_option maxRecDepth 100000 in
theorem bitMakes_lifted (os : Os) (started : os.Started) (H : Type) (enc : TypeId × Value → H) :
    ReturnsInHanded {} Try.checked os 5 .any (Rows.bitMakesSpec.pre6 enc Try.prog Try.f5 Rows.bitMakesRow.domain false) (Rows.bitMakesSpec.post enc Try.prog Try.f5 false true false false) := by
  refine returnsInHanded_of_change_sized (C := Try.checked) law_own started (by kernel_rfl) Try.func5
    (ChangeSpec.witness6 (enc := enc) (C := Try.checked) false ⟨#[], #[.int .i64 0, .slice none 0 0, .int .i64 0, .int .i64 0], []⟩ 8 (by kernel_rfl) (by kernel_rfl) (by kernel_rfl) (by kernel_rfl)) ?_
  intro W base args ds gs before hval0 hW hcnd hsz _
  have hval : ∀ (j : Nat) t v, Try.f5.params[j]? = some t → args[j]? = some v → Value.okWide Try.prog W .any base t v := hval0
  have hW' := hW
  obtain ⟨p, q, hA0, hV, rfl, hfz, hnd⟩ := hW
  have hA : DataW.TrodAll enc Try.prog W 0 (fun _ => true) true Try.f5.params.toList args.toList ds p := hA0
  rw [Try.params5] at hA hval hsz
  obtain ⟨v0, vs0, d0, ds0, p0, q0, hargs, rfl, rfl, h0, r0⟩ := trodAll_cons hA
  obtain ⟨v1, vs1, d1, ds1, p1, q1, rfl, rfl, rfl, h1, r1⟩ := trodAll_cons r0
  obtain ⟨v2, vs2, d2, ds2, p2, q2, rfl, rfl, rfl, h2, r2⟩ := trodAll_cons r1
  obtain ⟨v3, vs3, d3, ds3, p3, q3, rfl, rfl, rfl, h3, r3⟩ := trodAll_cons r2
  obtain ⟨rfl, rfl, rfl⟩ := trodAll_nil r3
  obtain rfl : args = #[v0, v1, v2, v3] := by cases args; simp_all
  obtain ⟨rfl, rfl⟩ := trodVars_none hV
  obtain ⟨i0, rfl, rfl, rfl, wf0⟩ := open_int Try.underlying3 (hval 0 3 v0 rfl rfl) h0
  obtain ⟨a1, n1, c1, rfl⟩ := okWide_slice Try.underlying42 (hval 1 42 v1 rfl rfl)
  have k1 := h1
  have lt1 : ∀ x ∈ p1, x.block < W.heap.size := by obtain ⟨m, hm⟩ := k1; exact DataW.trod_lt m _ _ _ hm
  obtain ⟨x1, s1, o1, b1, e1⟩ := arg_ints h1 (fun el sp e => by subst e; exact sized_slice (j := 1) hsz rfl rfl Try.underlying42)
  obtain ⟨i2, rfl, rfl, rfl, wf2⟩ := open_int Try.underlying3 (hval 2 3 v2 rfl rfl) h2
  obtain ⟨i3, rfl, rfl, rfl, wf3⟩ := open_int Try.underlying3 (hval 3 3 v3 rfl rfl) h3
  clear hA0 hval0
  refine (bitMakes_walk i0 i2 i3 a1 n1 c1 x1 W s1 b1 e1 (bounds_i64 wf2).2).mono fun e W' ⟨he, bel⟩ => ?_
  subst he
  exact ⟨_, rfl, _, _, _, [], _, [], hW', trodAll_mk1 (shut_bool Try.underlying4 _), (trodAll_cons_mk (shut_int Try.underlying3 wf0) (trodAll_cons_mk (Below.trod law_laid (by kernel_rfl) (of_decide_eq_true (by kernel_rfl)) k1 bel lt1) (trodAll_cons_mk (shut_int Try.underlying3 wf2) (trodAll_cons_mk (shut_int Try.underlying3 wf3) trodAll_mk0)))), rfl, bel.frame _, fun h => by cases h⟩

theorem bitMakes_holds : Rows.BitMakesSaid :=
  OpenClaim.holds_of_wide 5 Try.f5 rfl rfl rfl rfl rfl rfl rfl ⟨rfl, rfl, rfl, rfl, rfl⟩ rfl rfl rfl rfl rfl (by kernel_rfl) Try.func5 (by kernel_rfl)
    (of_decide_eq_true (by kernel_rfl)) (by unfold Func.isWrapper; first | (rw [if_pos (by decide +kernel)]; kernel_rfl) | (rw [if_neg (by decide +kernel)]; exact ⟨rfl, rfl⟩))
    (fun os started H enc _ => bitMakes_lifted os started H enc)
#print axioms bitMakes_holds
end Go.Proofs.Ytbendkndnojihaa
