/-
  THE LAW BitMeets: out of the contracts; the row's step.
-/
import Derived.Test.YtbendkndnojihaaBty
namespace Go.Proofs.Ytbendkndnojihaa
open Go.ChangeShapes Go.WideShapes Go.ChangeAt Go.RowKit Go.Deep
set_option linter.unusedVariables false

set_option maxHeartbeats 16000000 in
theorem bitMeets_walk (size : Int) (a_sets : Option Addr) (n_sets c_sets : Nat) (x_sets : List SetC) (w : World) (hl_size : -9223372036854775808 ≤ size) (hh_size : size ≤ 9223372036854775807) (h_sets : SlS w a_sets n_sets c_sets x_sets) (o_sets : ∀ e ∈ x_sets, e.Arg) (b_sets : n_sets ≤ 4398046510976) (e_sets : a_sets = none → n_sets = 0 ∧ c_sets = 0) :
    Calls Try.prog 8 #[.int .i64 size, .slice a_sets n_sets c_sets] w fun e w' => e = .returned (.bool true) ∧ Below w.heap.size w w' := by
  have A00 : Facts w w [] := ⟨Below.refl _ _, fun f hf => by cases hf⟩
  have A01 := A00.add (fS a_sets n_sets c_sets x_sets) h_sets
  have L_sets := hide h_sets.len
  have A0 := hide A01
  have B_size := hide (And.intro hl_size hh_size)
  have O_sets := hide o_sets
  clear A00 A01 h_sets o_sets e_sets hl_size hh_size
  obtain ⟨r1, hr_r1⟩ : ∃ r, manyR size x_sets false = r := ⟨_, rfl⟩
  have HR_r1 := hide hr_r1
  obtain ⟨s_r1, x_r1, e_r1⟩ := r1
  clear hr_r1
  obtain ⟨r2, hr_r2⟩ : ∃ r, manyR size x_sets true = r := ⟨_, rfl⟩
  have HR_r2 := hide hr_r2
  obtain ⟨s_r2, x_r2, e_r2⟩ := r2
  clear hr_r2
  go_enter Try.func8, Try.ntmps8
  go_wp2_with fail
  refine (twins_any a_sets n_sets c_sets x_sets w ((unhide A0).ss (a_sets) (n_sets) c_sets (x_sets) (by simp)) (unhide O_sets) b_sets).mono ?_
  rintro _ w1 ⟨g_l, k_l, t_l, rfl, hs, hb⟩
  have KY_l := hide (hs.key (unhide L_sets))
  have Aw1 := hide (((unhide A0).step hb).add (fTw g_l k_l n_sets x_sets t_l) hs)
  clear A0 hs hb
  go_wp2_with fail
  have Kw2 := (by have K := union_any size (some ⟨g_l, 0, none⟩) n_sets k_l t_l w1 ((unhide Aw1).tw g_l k_l (n_sets) x_sets t_l (by simp)).sl; rw [many_key false (unhide KY_l)] at K; exact K : Calls Try.prog 35 _ w1 (fun r w' => ResS w1 w' (manyR size x_sets false) r))
  rw [unhide HR_r1] at Kw2
  try unfold setV at Kw2
  refine Kw2.mono ?_
  clear Kw2
  rintro _ w2 ⟨a_a, n_a, c_a, rfl, hs, hb⟩
  have Aw2 := hide (((unhide Aw1).step hb).add (fW a_a n_a c_a x_r1) hs)
  clear Aw1 hs hb
  unfold setV
  obtain ⟨w3, hw3⟩ : ∃ x, w2.alloc (.cells #[.int .i64 s_r1, .slice a_a n_a c_a] 24) = x := ⟨_, rfl⟩
  have Aw3 := hide ((unhide Aw2).box (.int .i64 s_r1) (.slice a_a n_a c_a) 24)
  rw [hw3] at Aw3
  clear Aw2
  go_wp2_with fail
  have Kw4 := many_any size a_sets n_sets c_sets x_sets false w3 ((unhide Aw3).ss (a_sets) (n_sets) c_sets (x_sets) (by simp))
  rw [unhide HR_r1] at Kw4
  try unfold setV at Kw4
  refine Kw4.mono ?_
  clear Kw4
  rintro _ w4 ⟨a_b, n_b, c_b, rfl, hs, hb⟩
  have Aw4 := hide (((unhide Aw3).step hb).add (fW a_b n_b c_b x_r1) hs)
  clear Aw3 hs hb
  unfold setV
  obtain ⟨w5, hw5⟩ : ∃ x, w4.alloc (.cells #[.int .i64 s_r1, .slice a_b n_b c_b] 24) = x := ⟨_, rfl⟩
  have Aw5 := hide ((unhide Aw4).box (.int .i64 s_r1) (.slice a_b n_b c_b) 24)
  rw [hw5] at Aw5
  clear Aw4
  go_wp2_with fail
  have Kw6 := (by have K := inter_any size (some ⟨g_l, 0, none⟩) n_sets k_l t_l w5 ((unhide Aw5).tw g_l k_l (n_sets) x_sets t_l (by simp)).sl; rw [many_key true (unhide KY_l)] at K; exact K : Calls Try.prog 37 _ w5 (fun r w' => ResS w5 w' (manyR size x_sets true) r))
  rw [unhide HR_r2] at Kw6
  try unfold setV at Kw6
  refine Kw6.mono ?_
  clear Kw6
  rintro _ w6 ⟨a_c, n_c, c_c, rfl, hs, hb⟩
  have Aw6 := hide (((unhide Aw5).step hb).add (fW a_c n_c c_c x_r2) hs)
  clear Aw5 hs hb
  unfold setV
  obtain ⟨w7, hw7⟩ : ∃ x, w6.alloc (.cells #[.int .i64 s_r2, .slice a_c n_c c_c] 24) = x := ⟨_, rfl⟩
  have Aw7 := hide ((unhide Aw6).box (.int .i64 s_r2) (.slice a_c n_c c_c) 24)
  rw [hw7] at Aw7
  clear Aw6
  go_wp2_with fail
  have Kw8 := many_any size a_sets n_sets c_sets x_sets true w7 ((unhide Aw7).ss (a_sets) (n_sets) c_sets (x_sets) (by simp))
  rw [unhide HR_r2] at Kw8
  try unfold setV at Kw8
  refine Kw8.mono ?_
  clear Kw8
  rintro _ w8 ⟨a_d, n_d, c_d, rfl, hs, hb⟩
  have Aw8 := hide (((unhide Aw7).step hb).add (fW a_d n_d c_d x_r2) hs)
  clear Aw7 hs hb
  unfold setV
  obtain ⟨w9, hw9⟩ : ∃ x, w8.alloc (.cells #[.int .i64 s_r2, .slice a_d n_d c_d] 24) = x := ⟨_, rfl⟩
  have Aw9 := hide ((unhide Aw8).box (.int .i64 s_r2) (.slice a_d n_d c_d) 24)
  rw [hw9] at Aw9
  clear Aw8
  have EL : n_b = n_a := by rw [← ((unhide Aw9).w (a_b) (n_b) c_b (x_r1) (by simp)).len, ← ((unhide Aw9).w (a_a) (n_a) c_a (x_r1) (by simp)).len]
  subst EL
  have t10 := (unhide Aw9).t (w2.heap.size) (.int .i64 s_r1) (.slice a_a n_b c_a) (by simp)
  have t10a := t10.c0
  have t10b := t10.c1
  clear t10
  have t11 := (unhide Aw9).t (w4.heap.size) (.int .i64 s_r1) (.slice a_b n_b c_b) (by simp)
  have t11a := t11.c0
  have t11b := t11.c1
  clear t11
  go_wp2_with fail
  clear t10a t10b t11a t11b
  have Kw12 := same_eq s_r1 a_a a_b n_b c_a c_b x_r1 w9 ((unhide Aw9).w (a_a) (n_b) c_a (x_r1) (by simp)) ((unhide Aw9).w (a_b) (n_b) c_b (x_r1) (by simp))
  unfold setV at Kw12
  refine Kw12.mono ?_
  clear Kw12
  rintro _ w12 ⟨rfl, hb⟩
  have Aw12 := hide ((unhide Aw9).step hb)
  clear Aw9 hb
  go_wp2_with fail
  refine (num_any e_r1 w12).mono ?_
  rintro _ w' ⟨rfl, hw⟩
  obtain rfl := hw.symm
  have EL : n_d = n_c := by rw [← ((unhide Aw12).w (a_d) (n_d) c_d (x_r2) (by simp)).len, ← ((unhide Aw12).w (a_c) (n_c) c_c (x_r2) (by simp)).len]
  subst EL
  have t13 := (unhide Aw12).t (w6.heap.size) (.int .i64 s_r2) (.slice a_c n_d c_c) (by simp)
  have t13a := t13.c0
  have t13b := t13.c1
  clear t13
  have t14 := (unhide Aw12).t (w8.heap.size) (.int .i64 s_r2) (.slice a_d n_d c_d) (by simp)
  have t14a := t14.c0
  have t14b := t14.c1
  clear t14
  go_wp2_with fail
  clear t13a t13b t14a t14b
  have Kw15 := same_eq s_r2 a_c a_d n_d c_c c_d x_r2 w12 ((unhide Aw12).w (a_c) (n_d) c_c (x_r2) (by simp)) ((unhide Aw12).w (a_d) (n_d) c_d (x_r2) (by simp))
  unfold setV at Kw15
  refine Kw15.mono ?_
  clear Kw15
  rintro _ w15 ⟨rfl, hb⟩
  have Aw15 := hide ((unhide Aw12).step hb)
  clear Aw12 hb
  go_wp2_with fail
  refine (num_any e_r2 w15).mono ?_
  rintro _ w' ⟨rfl, hw⟩
  obtain rfl := hw.symm
  go_wp2_with fail
  refine (keptAll_any g_l k_l a_sets n_sets c_sets x_sets t_l w15 ((unhide Aw15).tw g_l k_l (n_sets) x_sets t_l (by simp)) ((unhide Aw15).ss (a_sets) (n_sets) c_sets (x_sets) (by simp))).mono ?_
  rintro _ w16 ⟨rfl, hb⟩
  have Aw16 := hide ((unhide Aw15).step hb)
  clear Aw15 hb
  go_wp2_with fail
  go_ret
  exact ⟨rfl, (unhide Aw16).bel⟩

set_option maxRecDepth 100000 in
theorem bitMeets_lifted (os : Os) (started : os.Started) (H : Type) (enc : TypeId × Value → H) :
    ReturnsInHanded {} Try.checked os 8 .any (Rows.bitMeetsSpec.pre6 enc Try.prog Try.f8 Rows.bitMeetsRow.domain false) (Rows.bitMeetsSpec.post enc Try.prog Try.f8 false true false false) := by
  refine returnsInHanded_of_change_sized (C := Try.checked) law_own started (by kernel_rfl) Try.func8
    (ChangeSpec.witness6 (enc := enc) (C := Try.checked) false ⟨#[], #[.int .i64 0, .slice none 0 0], []⟩ 8 (by kernel_rfl) (by kernel_rfl) (by kernel_rfl) (by kernel_rfl)) ?_
  intro W base args ds gs before hval0 hW hcnd hsz _
  have hval : ∀ (j : Nat) t v, Try.f8.params[j]? = some t → args[j]? = some v → Value.okWide Try.prog W .any base t v := hval0
  have hW' := hW
  obtain ⟨p, q, hA0, hV, rfl, hfz, hnd⟩ := hW
  have hA : DataW.TrodAll enc Try.prog W 0 (fun _ => true) true Try.f8.params.toList args.toList ds p := hA0
  rw [Try.params8] at hA hval hsz
  obtain ⟨v0, vs0, d0, ds0, p0, q0, hargs, rfl, rfl, h0, r0⟩ := trodAll_cons hA
  obtain ⟨v1, vs1, d1, ds1, p1, q1, rfl, rfl, rfl, h1, r1⟩ := trodAll_cons r0
  obtain ⟨rfl, rfl, rfl⟩ := trodAll_nil r1
  obtain rfl : args = #[v0, v1] := by cases args; simp_all
  obtain ⟨rfl, rfl⟩ := trodVars_none hV
  obtain ⟨i0, rfl, rfl, rfl, wf0⟩ := open_int Try.underlying3 (hval 0 3 v0 rfl rfl) h0
  have k1 := h1
  have lt1 : ∀ x ∈ p1, x.block < W.heap.size := by obtain ⟨m, hm⟩ := k1; exact DataW.trod_lt m _ _ _ hm
  obtain ⟨a1, n1, c1, rfl⟩ := okWide_slice Try.underlying25 (hval 1 25 v1 rfl rfl)
  obtain ⟨x1, y1, o1, b1, e1⟩ := arg_sets h1 (fun k hk => by simpa using List.all_eq_true.1 hsz k (DataW.weights_mem_each (j := 1) rfl rfl k hk))
  clear hA0 hval0
  refine (bitMeets_walk i0 a1 n1 c1 x1 W (bounds_i64 wf0).1 (bounds_i64 wf0).2 y1 o1 b1 e1).mono fun e W' ⟨he, bel⟩ => ?_
  subst he
  exact ⟨_, rfl, _, _, _, [], _, [], hW', trodAll_mk1 (shut_bool Try.underlying4 _), (trodAll_cons_mk (shut_int Try.underlying3 wf0) (trodAll_cons_mk (Below.trod law_laid (by kernel_rfl) (of_decide_eq_true (by kernel_rfl)) k1 bel lt1) trodAll_mk0)), rfl, bel.frame _, fun h => by cases h⟩

theorem bitMeets_holds : Rows.BitMeetsSaid :=
  OpenClaim.holds_of_wide 8 Try.f8 rfl rfl rfl rfl rfl rfl rfl ⟨rfl, rfl, rfl, rfl, rfl⟩ rfl rfl rfl rfl rfl (by kernel_rfl) Try.func8 (by kernel_rfl)
    (of_decide_eq_true (by kernel_rfl)) (by unfold Func.isWrapper; first | (rw [if_pos (by decide +kernel)]; kernel_rfl) | (rw [if_neg (by decide +kernel)]; exact ⟨rfl, rfl⟩))
    (fun os started H enc _ => bitMeets_lifted os started H enc)
#print axioms bitMeets_holds
end Go.Proofs.Ytbendkndnojihaa
