/-
  THE LAW BitMay: out of the contracts; the row's step.
-/
import Derived.Test.YtbendkndnojihaaBu2
import Derived.Test.YtbendkndnojihaaBu3
import Derived.Test.YtbendkndnojihaaBq0
namespace Go.Proofs.Ytbendkndnojihaa
open Go.ChangeShapes Go.WideShapes Go.ChangeAt Go.RowKit Go.Deep
set_option linter.unusedVariables false

set_option maxHeartbeats 16000000 in
theorem bitMay_walk (s_s : Int) (a_s : Option Addr) (n_s c_s : Nat) (x_s : List Nat) (s_t : Int) (a_t : Option Addr) (n_t c_t : Nat) (x_t : List SetC) (w : World) (h_s : SlW w a_s n_s c_s x_s) (o_s : OkW x_s) (b_s : n_s ≤ 17592186043904) (e_s : a_s = none → n_s = 0 ∧ c_s = 0) (hl_s : -9223372036854775808 ≤ s_s) (hh_s : s_s ≤ 9223372036854775807) (h_t : SlS w a_t n_t c_t x_t) (o_t : ∀ e ∈ x_t, e.Arg) (b_t : n_t ≤ 4398046510976) (e_t : a_t = none → n_t = 0 ∧ c_t = 0) (hl_t : -9223372036854775808 ≤ s_t) (hh_t : s_t ≤ 9223372036854775807) :
    Calls Try.prog 3 #[setV s_s a_s n_s c_s, setV s_t a_t n_t c_t] w fun e w' => e = .returned (.bool true) ∧ Below w.heap.size w w' := by
  have A00 : Facts w w [] := ⟨Below.refl _ _, fun f hf => by cases hf⟩
  have A01 := A00.add (fW a_s n_s c_s x_s) h_s
  have A02 := A01.add (fS a_t n_t c_t x_t) h_t
  have L_t := hide h_t.len
  have hle_t := h_t.le
  have hcap_t := h_t.cap
  unfold maxLen at hcap_t
  have A0 := hide A02
  have O_s := hide o_s
  have E_s := hide e_s
  have B_s := hide (And.intro hl_s hh_s)
  have O_t := hide o_t
  have B_t := hide (And.intro hl_t hh_t)
  clear A00 A01 A02 h_s h_t o_s o_t e_s e_t hl_s hh_s hl_t hh_t
  unfold setV
  go_enter Try.func3, Try.ntmps3
  obtain ⟨w1, hw1⟩ : ∃ x, w.alloc (.cells #[.int .i64 s_s, .slice a_s n_s c_s] 24) = x := ⟨_, rfl⟩
  have Aw1 := hide ((unhide A0).box (.int .i64 s_s) (.slice a_s n_s c_s) 24)
  rw [hw1] at Aw1
  clear A0
  obtain ⟨w2, hw2⟩ : ∃ x, w1.alloc (.cells #[.int .i64 s_t, .slice a_t n_t c_t] 27) = x := ⟨_, rfl⟩
  have Aw2 := hide ((unhide Aw1).box (.int .i64 s_t) (.slice a_t n_t c_t) 27)
  rw [hw2] at Aw2
  clear Aw1
  have t3 := (unhide Aw2).t (w.heap.size) (.int .i64 s_s) (.slice a_s n_s c_s) (by simp)
  have t3a := t3.c0
  have t3b := t3.c1
  clear t3
  go_wp2_with fail
  clear t3a t3b
  have Kw4 := twin_any s_s a_s n_s c_s x_s w2 ((unhide Aw2).w (a_s) (n_s) c_s (x_s) (by simp)) b_s (unhide E_s)
  unfold setV at Kw4
  refine Kw4.mono ?_
  clear Kw4
  rintro _ w4 ⟨b_u, k_u, rfl, hs, hb⟩
  have Aw4 := hide (((unhide Aw2).step hb).add (fW (some ⟨b_u, 0, none⟩) (n_s + 1) k_u (x_s ++ [markN])) hs)
  clear Aw2 hs hb
  obtain ⟨w5, hw5⟩ : ∃ x, w4.alloc (.cells #[.int .i64 s_s, .slice (some ⟨b_u, 0, none⟩) n_s k_u] 24) = x := ⟨_, rfl⟩
  have Aw5 := hide ((unhide Aw4).box (.int .i64 s_s) (.slice (some ⟨b_u, 0, none⟩) n_s k_u) 24)
  rw [hw5] at Aw5
  clear Aw4
  have t6 := (unhide Aw5).t (w1.heap.size) (.int .i64 s_t) (.slice a_t n_t c_t) (by simp)
  have t6a := t6.c0
  have t6b := t6.c1
  clear t6
  go_wp2_with fail
  clear t6a t6b
  refine (twins_any a_t n_t c_t x_t w5 ((unhide Aw5).ss (a_t) (n_t) c_t (x_t) (by simp)) (unhide O_t) b_t).mono ?_
  rintro _ w7 ⟨g_l, k_l, t_l, rfl, hs, hb⟩
  have KY_l := hide (hs.key (unhide L_t))
  have Aw7 := hide (((unhide Aw5).step hb).add (fTw g_l k_l n_t x_t t_l) hs)
  clear Aw5 hs hb
  obtain ⟨m1, hm1⟩ : ∃ m, MayS s_s x_s = m := ⟨_, rfl⟩
  obtain ⟨m2, hm2⟩ : ∃ m, MayT s_t x_t = m := ⟨_, rfl⟩
  have HM1 := hide hm1
  have HM2 := hide hm2
  have HM3 := hide (show MayT s_t t_l = m2 by rw [mayT_key (unhide KY_l)]; exact hm2)
  have hr1 : (m1 == m1) = true := by simp
  have hr2 : (m2 == m2) = true := by simp
  clear hm1 hm2
  have t8 := (unhide Aw7).t (w.heap.size) (.int .i64 s_s) (.slice a_s n_s c_s) (by simp)
  have t8a := t8.c0
  have t8b := t8.c1
  clear t8
  have t9 := (unhide Aw7).t (w4.heap.size) (.int .i64 s_s) (.slice (some ⟨b_u, 0, none⟩) n_s k_u) (by simp)
  have t9a := t9.c0
  have t9b := t9.c1
  clear t9
  have t10 := (unhide Aw7).t (w1.heap.size) (.int .i64 s_t) (.slice a_t n_t c_t) (by simp)
  have t10a := t10.c0
  have t10b := t10.c1
  clear t10
  have AX11 := hide (fun x : Ext w7 => (unhide Aw7).step x.bel)
  have hNE11 := Ext.ne w7
  have Ft8a := fun x : Ext w7 => x.cell t8a
  have Ft8b := fun x : Ext w7 => x.cell t8b
  have Ft9a := fun x : Ext w7 => x.cell t9a
  have Ft9b := fun x : Ext w7 => x.cell t9b
  have Ft10a := fun x : Ext w7 => x.cell t10a
  have Ft10b := fun x : Ext w7 => x.cell t10b
  have K := fun x : Ext w7 => may_any s_s (some ⟨b_u, 0, none⟩) n_s k_u x_s x.w ((unhide AX11 x).w (some ⟨b_u, 0, none⟩) (n_s + 1) k_u (x_s ++ [markN]) (by simp)).init (unhide O_s)
  rw [unhide HM1] at K
  try unfold setV at K
  have HK11_0 := hide K
  clear K
  have K := fun x : Ext w7 => rmay_any s_s a_s n_s c_s x_s x.w ((unhide AX11 x).w (a_s) (n_s) c_s (x_s) (by simp))
  rw [unhide HM1] at K
  try unfold setV at K
  have HK11_1 := hide K
  clear K
  have K := fun x : Ext w7 => kept_any s_s b_u k_u a_s n_s c_s x_s x.w ((unhide AX11 x).w (some ⟨b_u, 0, none⟩) (n_s + 1) k_u (x_s ++ [markN]) (by simp)) ((unhide AX11 x).w (a_s) (n_s) c_s (x_s) (by simp))
  try unfold setV at K
  have HK11_2 := hide K
  clear K
  have K := fun x : Ext w7 => mayT_any s_t (some ⟨g_l, 0, none⟩) n_t k_l t_l x.w ((unhide AX11 x).tw g_l k_l (n_t) x_t t_l (by simp)).sl
  rw [unhide HM3] at K
  try unfold setV at K
  have HK11_3 := hide K
  clear K
  have K := fun x : Ext w7 => rmayT_any s_t a_t n_t c_t x_t x.w ((unhide AX11 x).ss (a_t) (n_t) c_t (x_t) (by simp))
  rw [unhide HM2] at K
  try unfold setV at K
  have HK11_4 := hide K
  clear K
  have K := fun x : Ext w7 => keptAll_any g_l k_l a_t n_t c_t x_t t_l x.w ((unhide AX11 x).tw g_l k_l (n_t) x_t t_l (by simp)) ((unhide AX11 x).ss (a_t) (n_t) c_t (x_t) (by simp))
  try unfold setV at K
  have HK11_5 := hide K
  clear K
  go_wp2_with fail
  clear t8a t8b t9a t9b t10a t10b
  refine wp_region_ext (by kernel_rfl) (by kernel_rfl) ?_
  repeat (go_big_quiet_step (first
    | (go_at_call 12; rename_i x; exact Ext.call (unhide HK11_0 x) (fun e w' h => h))
    | (go_at_call 13; rename_i x; exact Ext.call (unhide HK11_1 x) (fun e w' h => h))
    | (go_at_call 14; rename_i x; exact Ext.call (unhide HK11_2 x) (fun e w' h => h))
    | (go_at_call 15; rename_i x; exact Ext.call (unhide HK11_3 x) (fun e w' h => h))
    | (go_at_call 16; rename_i x; exact Ext.call (unhide HK11_4 x) (fun e w' h => h))
    | (go_at_call 17; rename_i x; exact Ext.call (unhide HK11_5 x) (fun e w' h => h))))
  refine wpQuiet_nil ?_
  rintro _ ⟨x11, rfl⟩
  have A11 := hide (unhide AX11 x11)
  clear AX11 Aw7 Ft8a Ft8b Ft9a Ft9b Ft10a Ft10b HK11_0 HK11_1 HK11_2 HK11_3 HK11_4 HK11_5
  go_wp2_with fail
  go_ret
  exact ⟨rfl, (unhide A11).bel⟩

set_option maxRecDepth 100000 in
theorem bitMay_lifted (os : Os) (started : os.Started) (H : Type) (enc : TypeId × Value → H) :
    ReturnsInHanded {} Try.checked os 3 .any (Rows.bitMaySpec.pre6 enc Try.prog Try.f3 Rows.bitMayRow.domain false) (Rows.bitMaySpec.post enc Try.prog Try.f3 false true false false) := by
  refine returnsInHanded_of_change_sized (C := Try.checked) law_own started (by kernel_rfl) Try.func3
    (ChangeSpec.witness6 (enc := enc) (C := Try.checked) false ⟨#[], #[.agg #[.int .i64 0, .slice none 0 0], .agg #[.int .i64 0, .slice none 0 0]], []⟩ 8 (by kernel_rfl) (by kernel_rfl) (by kernel_rfl) (by kernel_rfl)) ?_
  intro W base args ds gs before hval0 hW hcnd hsz _
  have hval : ∀ (j : Nat) t v, Try.f3.params[j]? = some t → args[j]? = some v → Value.okWide Try.prog W .any base t v := hval0
  have hW' := hW
  obtain ⟨p, q, hA0, hV, rfl, hfz, hnd⟩ := hW
  have hA : DataW.TrodAll enc Try.prog W 0 (fun _ => true) true Try.f3.params.toList args.toList ds p := hA0
  rw [Try.params3] at hA hval hsz
  obtain ⟨v0, vs0, d0, ds0, p0, q0, hargs, rfl, rfl, h0, r0⟩ := trodAll_cons hA
  obtain ⟨v1, vs1, d1, ds1, p1, q1, rfl, rfl, rfl, h1, r1⟩ := trodAll_cons r0
  obtain ⟨rfl, rfl, rfl⟩ := trodAll_nil r1
  obtain rfl : args = #[v0, v1] := by cases args; simp_all
  obtain ⟨rfl, rfl⟩ := trodVars_none hV
  have k0 := h0
  have lt0 : ∀ x ∈ p0, x.block < W.heap.size := by obtain ⟨m, hm⟩ := k0; exact DataW.trod_lt m _ _ _ hm
  obtain ⟨s0, a0, n0, c0, x0, rfl, l0, g0, y0, o0, b0, e0⟩ := arg_set (hval 0 24 v0 rfl rfl) h0 (fun k hk => by simpa using List.all_eq_true.1 hsz k (DataW.weights_mem_each (j := 0) rfl rfl k hk))
  have k1 := h1
  have lt1 : ∀ x ∈ p1, x.block < W.heap.size := by obtain ⟨m, hm⟩ := k1; exact DataW.trod_lt m _ _ _ hm
  obtain ⟨s1, a1, n1, c1, x1, rfl, l1, g1, y1, o1, b1, e1⟩ := arg_table (hval 1 27 v1 rfl rfl) h1 (fun k hk => by simpa using List.all_eq_true.1 hsz k (DataW.weights_mem_each (j := 1) rfl rfl k hk))
  clear hA0 hval0
  refine (bitMay_walk s0 a0 n0 c0 x0 s1 a1 n1 c1 x1 W y0 o0 b0 e0 l0 g0 y1 o1 b1 e1 l1 g1).mono fun e W' ⟨he, bel⟩ => ?_
  subst he
  exact ⟨_, rfl, _, _, _, [], _, [], hW', trodAll_mk1 (shut_bool Try.underlying4 _), (trodAll_cons_mk (Below.trod law_laid (by kernel_rfl) (of_decide_eq_true (by kernel_rfl)) k0 bel lt0) (trodAll_cons_mk (Below.trod law_laid (by kernel_rfl) (of_decide_eq_true (by kernel_rfl)) k1 bel lt1) trodAll_mk0)), rfl, bel.frame _, fun h => by cases h⟩

theorem bitMay_holds : Rows.BitMaySaid :=
  OpenClaim.holds_of_wide 3 Try.f3 rfl rfl rfl rfl rfl rfl rfl ⟨rfl, rfl, rfl, rfl, rfl⟩ rfl rfl rfl rfl rfl (by kernel_rfl) Try.func3 (by kernel_rfl)
    (of_decide_eq_true (by kernel_rfl)) (by unfold Func.isWrapper; first | (rw [if_pos (by decide +kernel)]; kernel_rfl) | (rw [if_neg (by decide +kernel)]; exact ⟨rfl, rfl⟩))
    (fun os started H enc _ => bitMay_lifted os started H enc)
#print axioms bitMay_holds
end Go.Proofs.Ytbendkndnojihaa
