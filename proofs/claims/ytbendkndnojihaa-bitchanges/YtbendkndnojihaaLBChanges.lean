/-
  THE LAW BitChanges: out of the contracts; the row's step.
-/
import Derived.Test.YtbendkndnojihaaBte
import Derived.Test.YtbendkndnojihaaBtf
import Derived.Test.YtbendkndnojihaaBtg
import Derived.Test.YtbendkndnojihaaBth
namespace Go.Proofs.Ytbendkndnojihaa
open Go.ChangeShapes Go.WideShapes Go.ChangeAt Go.RowKit Go.Deep
set_option linter.unusedVariables false

set_option maxHeartbeats 16000000 in
theorem bitChanges_walk (s_s : Int) (a_s : Option Addr) (n_s c_s : Nat) (x_s : List Nat) (e : Int) (w : World) (h_s : SlW w a_s n_s c_s x_s) (o_s : OkW x_s) (b_s : n_s ≤ 17592186043904) (e_s : a_s = none → n_s = 0 ∧ c_s = 0) (hl_s : -9223372036854775808 ≤ s_s) (hh_s : s_s ≤ 9223372036854775807) (hl_e : -9223372036854775808 ≤ e) (hh_e : e ≤ 9223372036854775807) :
    Calls Try.prog 6 #[setV s_s a_s n_s c_s, .int .i64 e] w fun e w' => e = .returned (.bool true) ∧ Below w.heap.size w w' := by
  have A00 : Facts w w [] := ⟨Below.refl _ _, fun f hf => by cases hf⟩
  have A01 := A00.add (fW a_s n_s c_s x_s) h_s
  have A0 := hide A01
  have O_s := hide o_s
  have E_s := hide e_s
  have B_s := hide (And.intro hl_s hh_s)
  have B_e := hide (And.intro hl_e hh_e)
  clear A00 A01 h_s o_s e_s hl_s hh_s hl_e hh_e
  obtain ⟨r1, hr_r1⟩ : ∃ r, putR s_s x_s e true = r := ⟨_, rfl⟩
  have HR_r1 := hide hr_r1
  obtain ⟨s_r1, x_r1, e_r1⟩ := r1
  clear hr_r1
  obtain ⟨r2, hr_r2⟩ : ∃ r, putR s_s x_s e false = r := ⟨_, rfl⟩
  have HR_r2 := hide hr_r2
  obtain ⟨s_r2, x_r2, e_r2⟩ := r2
  clear hr_r2
  unfold setV
  go_enter Try.func6, Try.ntmps6
  obtain ⟨w1, hw1⟩ : ∃ x, w.alloc (.cells #[.int .i64 s_s, .slice a_s n_s c_s] 24) = x := ⟨_, rfl⟩
  have Aw1 := hide ((unhide A0).box (.int .i64 s_s) (.slice a_s n_s c_s) 24)
  rw [hw1] at Aw1
  clear A0
  have t2 := (unhide Aw1).t (w.heap.size) (.int .i64 s_s) (.slice a_s n_s c_s) (by simp)
  have t2a := t2.c0
  have t2b := t2.c1
  clear t2
  go_wp2_with fail
  clear t2a t2b
  have Kw3 := twin_any s_s a_s n_s c_s x_s w1 ((unhide Aw1).w (a_s) (n_s) c_s (x_s) (by simp)) b_s (unhide E_s)
  unfold setV at Kw3
  refine Kw3.mono ?_
  clear Kw3
  rintro _ w3 ⟨b_u, k_u, rfl, hs, hb⟩
  have Aw3 := hide (((unhide Aw1).step hb).add (fW (some ⟨b_u, 0, none⟩) (n_s + 1) k_u (x_s ++ [markN])) hs)
  clear Aw1 hs hb
  obtain ⟨w4, hw4⟩ : ∃ x, w3.alloc (.cells #[.int .i64 s_s, .slice (some ⟨b_u, 0, none⟩) n_s k_u] 24) = x := ⟨_, rfl⟩
  have Aw4 := hide ((unhide Aw3).box (.int .i64 s_s) (.slice (some ⟨b_u, 0, none⟩) n_s k_u) 24)
  rw [hw4] at Aw4
  clear Aw3
  have t5 := (unhide Aw4).t (w3.heap.size) (.int .i64 s_s) (.slice (some ⟨b_u, 0, none⟩) n_s k_u) (by simp)
  have t5a := t5.c0
  have t5b := t5.c1
  clear t5
  go_wp2_with fail
  clear t5a t5b
  have Kw6 := sput_any s_s (some ⟨b_u, 0, none⟩) n_s k_u x_s e w4 ((unhide Aw4).w (some ⟨b_u, 0, none⟩) (n_s + 1) k_u (x_s ++ [markN]) (by simp)).init (unhide O_s)
  rw [unhide HR_r1] at Kw6
  try unfold setV at Kw6
  refine Kw6.mono ?_
  clear Kw6
  rintro _ w6 ⟨a_a, n_a, c_a, rfl, hs, hb⟩
  have Aw6 := hide (((unhide Aw4).step hb).add (fW a_a n_a c_a x_r1) hs)
  clear Aw4 hs hb
  unfold setV
  obtain ⟨w7, hw7⟩ : ∃ x, w6.alloc (.cells #[.int .i64 s_r1, .slice a_a n_a c_a] 24) = x := ⟨_, rfl⟩
  have Aw7 := hide ((unhide Aw6).box (.int .i64 s_r1) (.slice a_a n_a c_a) 24)
  rw [hw7] at Aw7
  clear Aw6
  have t8 := (unhide Aw7).t (w.heap.size) (.int .i64 s_s) (.slice a_s n_s c_s) (by simp)
  have t8a := t8.c0
  have t8b := t8.c1
  clear t8
  go_wp2_with fail
  clear t8a t8b
  have Kw9 := rput_any s_s a_s n_s c_s x_s e true w7 ((unhide Aw7).w (a_s) (n_s) c_s (x_s) (by simp))
  rw [unhide HR_r1] at Kw9
  try unfold setV at Kw9
  refine Kw9.mono ?_
  clear Kw9
  rintro _ w9 ⟨a_b, n_b, c_b, rfl, hs, hb⟩
  have Aw9 := hide (((unhide Aw7).step hb).add (fW a_b n_b c_b x_r1) hs)
  clear Aw7 hs hb
  unfold setV
  obtain ⟨w10, hw10⟩ : ∃ x, w9.alloc (.cells #[.int .i64 s_r1, .slice a_b n_b c_b] 24) = x := ⟨_, rfl⟩
  have Aw10 := hide ((unhide Aw9).box (.int .i64 s_r1) (.slice a_b n_b c_b) 24)
  rw [hw10] at Aw10
  clear Aw9
  have t11 := (unhide Aw10).t (w3.heap.size) (.int .i64 s_s) (.slice (some ⟨b_u, 0, none⟩) n_s k_u) (by simp)
  have t11a := t11.c0
  have t11b := t11.c1
  clear t11
  go_wp2_with fail
  clear t11a t11b
  have Kw12 := sdrop_any s_s (some ⟨b_u, 0, none⟩) n_s k_u x_s e w10 ((unhide Aw10).w (some ⟨b_u, 0, none⟩) (n_s + 1) k_u (x_s ++ [markN]) (by simp)).init (unhide O_s)
  rw [unhide HR_r2] at Kw12
  try unfold setV at Kw12
  refine Kw12.mono ?_
  clear Kw12
  rintro _ w12 ⟨a_c, n_c, c_c, rfl, hs, hb⟩
  have Aw12 := hide (((unhide Aw10).step hb).add (fW a_c n_c c_c x_r2) hs)
  clear Aw10 hs hb
  unfold setV
  obtain ⟨w13, hw13⟩ : ∃ x, w12.alloc (.cells #[.int .i64 s_r2, .slice a_c n_c c_c] 24) = x := ⟨_, rfl⟩
  have Aw13 := hide ((unhide Aw12).box (.int .i64 s_r2) (.slice a_c n_c c_c) 24)
  rw [hw13] at Aw13
  clear Aw12
  have t14 := (unhide Aw13).t (w.heap.size) (.int .i64 s_s) (.slice a_s n_s c_s) (by simp)
  have t14a := t14.c0
  have t14b := t14.c1
  clear t14
  go_wp2_with fail
  clear t14a t14b
  have Kw15 := rput_any s_s a_s n_s c_s x_s e false w13 ((unhide Aw13).w (a_s) (n_s) c_s (x_s) (by simp))
  rw [unhide HR_r2] at Kw15
  try unfold setV at Kw15
  refine Kw15.mono ?_
  clear Kw15
  rintro _ w15 ⟨a_d, n_d, c_d, rfl, hs, hb⟩
  have Aw15 := hide (((unhide Aw13).step hb).add (fW a_d n_d c_d x_r2) hs)
  clear Aw13 hs hb
  unfold setV
  obtain ⟨w16, hw16⟩ : ∃ x, w15.alloc (.cells #[.int .i64 s_r2, .slice a_d n_d c_d] 24) = x := ⟨_, rfl⟩
  have Aw16 := hide ((unhide Aw15).box (.int .i64 s_r2) (.slice a_d n_d c_d) 24)
  rw [hw16] at Aw16
  clear Aw15
  have EL : n_b = n_a := by rw [← ((unhide Aw16).w (a_b) (n_b) c_b (x_r1) (by simp)).len, ← ((unhide Aw16).w (a_a) (n_a) c_a (x_r1) (by simp)).len]
  subst EL
  have t17 := (unhide Aw16).t (w6.heap.size) (.int .i64 s_r1) (.slice a_a n_b c_a) (by simp)
  have t17a := t17.c0
  have t17b := t17.c1
  clear t17
  have t18 := (unhide Aw16).t (w9.heap.size) (.int .i64 s_r1) (.slice a_b n_b c_b) (by simp)
  have t18a := t18.c0
  have t18b := t18.c1
  clear t18
  go_wp2_with fail
  clear t17a t17b t18a t18b
  have Kw19 := same_eq s_r1 a_a a_b n_b c_a c_b x_r1 w16 ((unhide Aw16).w (a_a) (n_b) c_a (x_r1) (by simp)) ((unhide Aw16).w (a_b) (n_b) c_b (x_r1) (by simp))
  unfold setV at Kw19
  refine Kw19.mono ?_
  clear Kw19
  rintro _ w19 ⟨rfl, hb⟩
  have Aw19 := hide ((unhide Aw16).step hb)
  clear Aw16 hb
  go_wp2_with fail
  refine (num_any e_r1 w19).mono ?_
  rintro _ w' ⟨rfl, hw⟩
  obtain rfl := hw.symm
  have EL : n_d = n_c := by rw [← ((unhide Aw19).w (a_d) (n_d) c_d (x_r2) (by simp)).len, ← ((unhide Aw19).w (a_c) (n_c) c_c (x_r2) (by simp)).len]
  subst EL
  have t20 := (unhide Aw19).t (w12.heap.size) (.int .i64 s_r2) (.slice a_c n_d c_c) (by simp)
  have t20a := t20.c0
  have t20b := t20.c1
  clear t20
  have t21 := (unhide Aw19).t (w15.heap.size) (.int .i64 s_r2) (.slice a_d n_d c_d) (by simp)
  have t21a := t21.c0
  have t21b := t21.c1
  clear t21
  go_wp2_with fail
  clear t20a t20b t21a t21b
  have Kw22 := same_eq s_r2 a_c a_d n_d c_c c_d x_r2 w19 ((unhide Aw19).w (a_c) (n_d) c_c (x_r2) (by simp)) ((unhide Aw19).w (a_d) (n_d) c_d (x_r2) (by simp))
  unfold setV at Kw22
  refine Kw22.mono ?_
  clear Kw22
  rintro _ w22 ⟨rfl, hb⟩
  have Aw22 := hide ((unhide Aw19).step hb)
  clear Aw19 hb
  go_wp2_with fail
  refine (num_any e_r2 w22).mono ?_
  rintro _ w' ⟨rfl, hw⟩
  obtain rfl := hw.symm
  have t23 := (unhide Aw22).t (w3.heap.size) (.int .i64 s_s) (.slice (some ⟨b_u, 0, none⟩) n_s k_u) (by simp)
  have t23a := t23.c0
  have t23b := t23.c1
  clear t23
  have t24 := (unhide Aw22).t (w.heap.size) (.int .i64 s_s) (.slice a_s n_s c_s) (by simp)
  have t24a := t24.c0
  have t24b := t24.c1
  clear t24
  go_wp2_with fail
  clear t23a t23b t24a t24b
  have Kw25 := kept_any s_s b_u k_u a_s n_s c_s x_s w22 ((unhide Aw22).w (some ⟨b_u, 0, none⟩) (n_s + 1) k_u (x_s ++ [markN]) (by simp)) ((unhide Aw22).w (a_s) (n_s) c_s (x_s) (by simp))
  unfold setV at Kw25
  refine Kw25.mono ?_
  clear Kw25
  rintro _ w25 ⟨rfl, hb⟩
  have Aw25 := hide ((unhide Aw22).step hb)
  clear Aw22 hb
  go_wp2_with fail
  go_ret
  exact ⟨rfl, (unhide Aw25).bel⟩

set_option maxRecDepth 100000 in
theorem bitChanges_lifted (os : Os) (started : os.Started) (H : Type) (enc : TypeId × Value → H) :
    ReturnsInHanded {} Try.checked os 6 .any (Rows.bitChangesSpec.pre6 enc Try.prog Try.f6 Rows.bitChangesRow.domain false) (Rows.bitChangesSpec.post enc Try.prog Try.f6 false true false false) := by
  refine returnsInHanded_of_change_sized (C := Try.checked) law_own started (by kernel_rfl) Try.func6
    (ChangeSpec.witness6 (enc := enc) (C := Try.checked) false ⟨#[], #[.agg #[.int .i64 0, .slice none 0 0], .int .i64 0], []⟩ 8 (by kernel_rfl) (by kernel_rfl) (by kernel_rfl) (by kernel_rfl)) ?_
  intro W base args ds gs before hval0 hW hcnd hsz _
  have hval : ∀ (j : Nat) t v, Try.f6.params[j]? = some t → args[j]? = some v → Value.okWide Try.prog W .any base t v := hval0
  have hW' := hW
  obtain ⟨p, q, hA0, hV, rfl, hfz, hnd⟩ := hW
  have hA : DataW.TrodAll enc Try.prog W 0 (fun _ => true) true Try.f6.params.toList args.toList ds p := hA0
  rw [Try.params6] at hA hval hsz
  obtain ⟨v0, vs0, d0, ds0, p0, q0, hargs, rfl, rfl, h0, r0⟩ := trodAll_cons hA
  obtain ⟨v1, vs1, d1, ds1, p1, q1, rfl, rfl, rfl, h1, r1⟩ := trodAll_cons r0
  obtain ⟨rfl, rfl, rfl⟩ := trodAll_nil r1
  obtain rfl : args = #[v0, v1] := by cases args; simp_all
  obtain ⟨rfl, rfl⟩ := trodVars_none hV
  have k0 := h0
  have lt0 : ∀ x ∈ p0, x.block < W.heap.size := by obtain ⟨m, hm⟩ := k0; exact DataW.trod_lt m _ _ _ hm
  obtain ⟨s0, a0, n0, c0, x0, rfl, l0, g0, y0, o0, b0, e0⟩ := arg_set (hval 0 24 v0 rfl rfl) h0 (fun k hk => by simpa using List.all_eq_true.1 hsz k (DataW.weights_mem_each (j := 0) rfl rfl k hk))
  obtain ⟨i1, rfl, rfl, rfl, wf1⟩ := open_int Try.underlying3 (hval 1 3 v1 rfl rfl) h1
  clear hA0 hval0
  refine (bitChanges_walk s0 a0 n0 c0 x0 i1 W y0 o0 b0 e0 l0 g0 (bounds_i64 wf1).1 (bounds_i64 wf1).2).mono fun e W' ⟨he, bel⟩ => ?_
  subst he
  exact ⟨_, rfl, _, _, _, [], _, [], hW', trodAll_mk1 (shut_bool Try.underlying4 _), (trodAll_cons_mk (Below.trod law_laid (by kernel_rfl) (of_decide_eq_true (by kernel_rfl)) k0 bel lt0) (trodAll_cons_mk (shut_int Try.underlying3 wf1) trodAll_mk0)), rfl, bel.frame _, fun h => by cases h⟩

theorem bitChanges_holds : Rows.BitChangesSaid :=
  OpenClaim.holds_of_wide 6 Try.f6 rfl rfl rfl rfl rfl rfl rfl ⟨rfl, rfl, rfl, rfl, rfl⟩ rfl rfl rfl rfl rfl (by kernel_rfl) Try.func6 (by kernel_rfl)
    (of_decide_eq_true (by kernel_rfl)) (by unfold Func.isWrapper; first | (rw [if_pos (by decide +kernel)]; kernel_rfl) | (rw [if_neg (by decide +kernel)]; exact ⟨rfl, rfl⟩))
    (fun os started H enc _ => bitChanges_lifted os started H enc)
#print axioms bitChanges_holds
end Go.Proofs.Ytbendkndnojihaa
