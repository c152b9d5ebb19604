/-
  THE LAW BitCovers: out of the contracts; the row's step.
-/
import Derived.Test.YtbendkndnojihabBk7
import Derived.Test.YtbendkndnojihabBt8
import Derived.Test.YtbendkndnojihabBt7
namespace Go.Proofs.Ytbendkndnojihab
open Go.ChangeShapes Go.WideShapes Go.ChangeAt Go.RowKit Go.Deep
set_option linter.unusedVariables false

set_option maxRecDepth 100000 in
set_option maxHeartbeats 64000000 in
theorem bitCovers_walk (s_t : Int) (a_t : Option Addr) (n_t c_t : Nat) (x_t : List SetC) (s_s : Int) (a_s : Option Addr) (n_s c_s : Nat) (x_s : List Nat) (w : World) (h_t : SlS w a_t n_t c_t x_t) (o_t : ∀ e ∈ x_t, e.Arg) (b_t : n_t ≤ 4398046510976) (e_t : a_t = none → n_t = 0 ∧ c_t = 0) (hl_t : -9223372036854775808 ≤ s_t) (hh_t : s_t ≤ 9223372036854775807) (h_s : SlW w a_s n_s c_s x_s) (o_s : OkW x_s) (b_s : n_s ≤ 17592186043904) (e_s : a_s = none → n_s = 0 ∧ c_s = 0) (hl_s : -9223372036854775808 ≤ s_s) (hh_s : s_s ≤ 9223372036854775807)  :
    Calls Try.prog 4 #[setV s_t a_t n_t c_t, setV s_s a_s n_s c_s] w fun e w' => e = .returned (.bool true) ∧ Below w.heap.size w w' := by
  have A00 : Facts w w [] := ⟨Below.refl _ _, fun f hf => by cases hf⟩
  have A01 := A00.add (fS a_t n_t c_t x_t) h_t
  have L_t := hide h_t.len
  have hle_t := h_t.le
  have hcap_t := h_t.cap
  unfold maxLen at hcap_t
  have A02 := A01.add (fW a_s n_s c_s x_s) h_s
  have A0 := hide A02
  have O_t := hide o_t
  have B_t := hide (And.intro hl_t hh_t)
  have O_s := hide o_s
  have E_s := hide e_s
  have B_s := hide (And.intro hl_s hh_s)
  clear A00 A01 A02 h_t h_s o_t o_s e_t e_s hl_t hh_t hl_s hh_s
  unfold setV
  go_enter Try.func4, Try.ntmps4
  obtain ⟨w1, hw1⟩ : ∃ x, w.alloc (.cells #[.int .i64 s_t, .slice a_t n_t c_t] 41) = x := ⟨_, rfl⟩
  have Aw1 := hide ((unhide A0).box (.int .i64 s_t) (.slice a_t n_t c_t) 41)
  rw [hw1] at Aw1
  clear A0
  obtain ⟨w2, hw2⟩ : ∃ x, w1.alloc (.cells #[.int .i64 s_s, .slice a_s n_s c_s] 26) = x := ⟨_, rfl⟩
  have Aw2 := hide ((unhide Aw1).box (.int .i64 s_s) (.slice a_s n_s c_s) 26)
  rw [hw2] at Aw2
  clear Aw1
  obtain ⟨r, hr⟩ : ∃ r, coverR s_t x_t s_s x_s = r := ⟨_, rfl⟩
  obtain ⟨xr, er⟩ := r
  have HR := hide hr
  clear hr
  have t3 := (unhide Aw2).t (w.heap.size) (.int .i64 s_t) (.slice a_t n_t c_t) (by simp)
  have t3a := t3.c0
  have t3b := t3.c1
  clear t3
  go_wp2_with fail
  clear t3a t3b
  refine (twins_any a_t n_t c_t x_t w2 ((unhide Aw2).ss (a_t) (n_t) c_t (x_t) (by simp)) (unhide O_t) b_t).mono ?_
  rintro _ w4 ⟨g_l, k_l, t_l, rfl, hs, hb⟩
  have KY_l := hide (hs.key (unhide L_t))
  have Aw4 := hide (((unhide Aw2).step hb).add (fTw g_l k_l n_t x_t t_l) hs)
  clear Aw2 hs hb
  have HR2 := hide (show coverR s_t t_l s_s x_s = (xr, er) by rw [cover_key (unhide KY_l)]; exact unhide HR)
  have t5 := (unhide Aw4).t (w1.heap.size) (.int .i64 s_s) (.slice a_s n_s c_s) (by simp)
  have t5a := t5.c0
  have t5b := t5.c1
  clear t5
  go_wp2_with fail
  clear t5a t5b
  have Kw6 := twin_any s_s a_s n_s c_s x_s w4 ((unhide Aw4).w (a_s) (n_s) c_s (x_s) (by simp)) b_s (unhide E_s)
  unfold setV at Kw6
  refine Kw6.mono ?_
  clear Kw6
  rintro _ w6 ⟨b_u, k_u, rfl, hs, hb⟩
  have Aw6 := hide (((unhide Aw4).step hb).add (fW (some ⟨b_u, 0, none⟩) (n_s + 1) k_u (x_s ++ [markN])) hs)
  clear Aw4 hs hb
  obtain ⟨w7, hw7⟩ : ∃ x, w6.alloc (.cells #[.int .i64 s_s, .slice (some ⟨b_u, 0, none⟩) n_s k_u] 26) = x := ⟨_, rfl⟩
  have Aw7 := hide ((unhide Aw6).box (.int .i64 s_s) (.slice (some ⟨b_u, 0, none⟩) n_s k_u) 26)
  rw [hw7] at Aw7
  clear Aw6
  have t8 := (unhide Aw7).t (w.heap.size) (.int .i64 s_t) (.slice a_t n_t c_t) (by simp)
  have t8a := t8.c0
  have t8b := t8.c1
  clear t8
  have t9 := (unhide Aw7).t (w6.heap.size) (.int .i64 s_s) (.slice (some ⟨b_u, 0, none⟩) n_s k_u) (by simp)
  have t9a := t9.c0
  have t9b := t9.c1
  clear t9
  go_wp2_with fail
  clear t8a t8b t9a t9b
  have Kw10 := cover_any s_t (some ⟨g_l, 0, none⟩) n_t k_l t_l s_s (some ⟨b_u, 0, none⟩) n_s k_u x_s w7 ((unhide Aw7).tw g_l k_l (n_t) x_t t_l (by simp)).sl ((unhide Aw7).w (some ⟨b_u, 0, none⟩) (n_s + 1) k_u (x_s ++ [markN]) (by simp)).init (unhide O_s)
  rw [unhide HR2] at Kw10
  try unfold setV at Kw10
  refine Kw10.mono ?_
  clear Kw10
  rintro _ w10 ⟨a_a, n_a, c_a, rfl, hs, hb⟩
  have Aw10 := hide (((unhide Aw7).step hb).add (fI a_a n_a c_a xr) hs)
  clear Aw7 hs hb
  have t11 := (unhide Aw10).t (w.heap.size) (.int .i64 s_t) (.slice a_t n_t c_t) (by simp)
  have t11a := t11.c0
  have t11b := t11.c1
  clear t11
  have t12 := (unhide Aw10).t (w1.heap.size) (.int .i64 s_s) (.slice a_s n_s c_s) (by simp)
  have t12a := t12.c0
  have t12b := t12.c1
  clear t12
  go_wp2_with fail
  clear t11a t11b t12a t12b
  have Kw13 := rcover_any s_t a_t n_t c_t x_t s_s a_s n_s c_s x_s w10 ((unhide Aw10).ss (a_t) (n_t) c_t (x_t) (by simp)) ((unhide Aw10).w (a_s) (n_s) c_s (x_s) (by simp))
  rw [unhide HR] at Kw13
  try unfold setV at Kw13
  refine Kw13.mono ?_
  clear Kw13
  rintro _ w13 ⟨a_b, n_b, c_b, rfl, hs, hb⟩
  have Aw13 := hide (((unhide Aw10).step hb).add (fI a_b n_b c_b xr) hs)
  clear Aw10 hs hb
  have EL : n_b = n_a := by rw [← ((unhide Aw13).i (a_b) (n_b) c_b (xr) (by simp)).len, ← ((unhide Aw13).i (a_a) (n_a) c_a (xr) (by simp)).len]
  subst EL
  go_wp2_with fail
  refine (sameInts_eq a_a a_b n_b c_a c_b xr w13 ((unhide Aw13).i (a_a) (n_b) c_a (xr) (by simp)) ((unhide Aw13).i (a_b) (n_b) c_b (xr) (by simp))).mono ?_
  rintro _ w14 ⟨rfl, qw14, hqw14⟩
  have hb : Below w13.heap.size w13 w14 := by rw [hqw14]; exact bel_drewN (Below.refl _ _) _
  have Aw14 := hide ((unhide Aw13).step hb)
  clear Aw13 hb hqw14
  go_wp2_with fail
  refine (num_any er w14).mono ?_
  rintro _ w' ⟨rfl, hw⟩
  obtain rfl := hw.symm
  have t15 := (unhide Aw14).t (w.heap.size) (.int .i64 s_t) (.slice a_t n_t c_t) (by simp)
  have t15a := t15.c0
  have t15b := t15.c1
  clear t15
  go_wp2_with fail
  clear t15a t15b
  refine (keptAll_any g_l k_l a_t n_t c_t x_t t_l w14 ((unhide Aw14).tw g_l k_l (n_t) x_t t_l (by simp)) ((unhide Aw14).ss (a_t) (n_t) c_t (x_t) (by simp))).mono ?_
  rintro _ w16 ⟨rfl, hb⟩
  have Aw16 := hide ((unhide Aw14).step hb)
  clear Aw14 hb
  have t17 := (unhide Aw16).t (w6.heap.size) (.int .i64 s_s) (.slice (some ⟨b_u, 0, none⟩) n_s k_u) (by simp)
  have t17a := t17.c0
  have t17b := t17.c1
  clear t17
  have t18 := (unhide Aw16).t (w1.heap.size) (.int .i64 s_s) (.slice a_s n_s c_s) (by simp)
  have t18a := t18.c0
  have t18b := t18.c1
  clear t18
  go_wp2_with fail
  clear t17a t17b t18a t18b
  have Kw19 := kept_any s_s b_u k_u a_s n_s c_s x_s w16 ((unhide Aw16).w (some ⟨b_u, 0, none⟩) (n_s + 1) k_u (x_s ++ [markN]) (by simp)) ((unhide Aw16).w (a_s) (n_s) c_s (x_s) (by simp))
  unfold setV at Kw19
  refine Kw19.mono ?_
  clear Kw19
  rintro _ w19 ⟨rfl, hb⟩
  have Aw19 := hide ((unhide Aw16).step hb)
  clear Aw16 hb
  go_wp2_with fail
  go_ret
  exact ⟨rfl, (unhide Aw19).bel⟩

set_option maxRecDepth 100000 in
theorem bitCovers_lifted (os : Os) (started : os.Started) (H : Type) (enc : TypeId × Value → H) :
    ReturnsInHanded {} Try.checked os 4 .any (Rows.bitCoversSpec.pre6 enc Try.prog Try.f4 Rows.bitCoversRow.domain false) (Rows.bitCoversSpec.post enc Try.prog Try.f4 false true false false) := by
  refine returnsInHanded_of_change_sized (C := Try.checked) law_own started (by kernel_rfl) Try.func4
    (ChangeSpec.witness6 (enc := enc) (C := Try.checked) false ⟨#[], #[.agg #[.int .i64 0, .slice none 0 0], .agg #[.int .i64 0, .slice none 0 0]], []⟩ 8 (by kernel_rfl) (by kernel_rfl) (by kernel_rfl) (by kernel_rfl)) ?_
  intro W base args ds gs before hval0 hW hcnd hsz _
  have hval : ∀ (j : Nat) t v, Try.f4.params[j]? = some t → args[j]? = some v → Value.okWide Try.prog W .any base t v := hval0
  have hW' := hW
  obtain ⟨p, q, hA0, hV, rfl, hfz, hnd⟩ := hW
  have hA : DataW.TrodAll enc Try.prog W 0 (fun _ => true) true Try.f4.params.toList args.toList ds p := hA0
  rw [Try.params4] at hA hval hsz
  obtain ⟨v0, vs0, d0, ds0, p0, q0, hargs, rfl, rfl, h0, r0⟩ := trodAll_cons hA
  obtain ⟨v1, vs1, d1, ds1, p1, q1, rfl, rfl, rfl, h1, r1⟩ := trodAll_cons r0
  obtain ⟨rfl, rfl, rfl⟩ := trodAll_nil r1
  obtain rfl : args = #[v0, v1] := by cases args; simp_all
  obtain ⟨rfl, rfl⟩ := trodVars_none hV
  have k0 := h0
  have lt0 : ∀ x ∈ p0, x.block < W.heap.size := by obtain ⟨m, hm⟩ := k0; exact DataW.trod_lt m _ _ _ hm
  obtain ⟨s0, a0, n0, c0, x0, rfl, l0, g0, y0, o0, b0, e0⟩ := arg_table (hval 0 41 v0 rfl rfl) h0 (fun k hk => by simpa using List.all_eq_true.1 hsz k (DataW.weights_mem_each (j := 0) rfl rfl k hk))
  have k1 := h1
  have lt1 : ∀ x ∈ p1, x.block < W.heap.size := by obtain ⟨m, hm⟩ := k1; exact DataW.trod_lt m _ _ _ hm
  obtain ⟨s1, a1, n1, c1, x1, rfl, l1, g1, y1, o1, b1, e1⟩ := arg_set (hval 1 26 v1 rfl rfl) h1 (fun k hk => by simpa using List.all_eq_true.1 hsz k (DataW.weights_mem_each (j := 1) rfl rfl k hk))
  clear hA0 hval0
  refine (bitCovers_walk s0 a0 n0 c0 x0 s1 a1 n1 c1 x1 W y0 o0 b0 e0 l0 g0 y1 o1 b1 e1 l1 g1).mono fun e W' ⟨he, bel⟩ => ?_
  subst he
  exact ⟨_, rfl, _, _, _, [], _, [], hW', trodAll_mk1 (shut_bool Try.underlying4 _), (trodAll_cons_mk (Below.trod law_laid (by kernel_rfl) (of_decide_eq_true (by kernel_rfl)) k0 bel lt0) (trodAll_cons_mk (Below.trod law_laid (by kernel_rfl) (of_decide_eq_true (by kernel_rfl)) k1 bel lt1) trodAll_mk0)), rfl, bel.frame _, fun h => by cases h⟩

theorem bitCovers_holds : Rows.BitCoversSaid :=
  OpenClaim.holds_of_wide 4 Try.f4 rfl rfl rfl rfl rfl rfl rfl ⟨rfl, rfl, rfl, rfl, rfl⟩ rfl rfl rfl rfl rfl (by kernel_rfl) Try.func4 (by kernel_rfl)
    (of_decide_eq_true (by kernel_rfl)) (by unfold Func.isWrapper; first | (rw [if_pos (by decide +kernel)]; kernel_rfl) | (rw [if_neg (by decide +kernel)]; exact ⟨rfl, rfl⟩))
    (fun os started H enc _ => bitCovers_lifted os started H enc)
#print axioms bitCovers_holds
end Go.Proofs.Ytbendkndnojihab
