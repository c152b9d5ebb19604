/-
  THE LAW BitPlaces: out of the contracts; the row's step.
-/
import Derived.Test.YtbendkndnojihaaDoorBz3
import Derived.Test.YtbendkndnojihaaDoorBz4
import Derived.Test.YtbendkndnojihaaDoorBz5
import Derived.Test.YtbendkndnojihaaDoorBz6
import Derived.Test.YtbendkndnojihaaDoorBz7
import Derived.Test.YtbendkndnojihaaDoorBz9
import Derived.Test.YtbendkndnojihaaDoorBu2
import Derived.Test.YtbendkndnojihaaDoorBu3
import Derived.Test.YtbendkndnojihaaDoorBq0
import Derived.Test.YtbendkndnojihaaDoorCards
import Derived.Test.YtbendkndnojihaaDoorTie
import Derived.SevenTiedAt
import Derived.LaidMore
import Derived.Stop.Joined
import Derived.Lib.LaidTab
namespace Go.Proofs.YtbendkndnojihaaDoor
open Go.ChangeShapes Go.WideShapes Go.ChangeAt Go.RowKit Go.Deep
set_option linter.unusedVariables false

set_option maxRecDepth 100000 in
set_option maxHeartbeats 64000000 in
theorem bitPlaces_walk (s_s : Int) (a_s : Option Addr) (n_s c_s : Nat) (x_s : List Nat) (e : Int) (w : World) (h_s : SlW w a_s n_s c_s x_s) (o_s : OkW x_s) (b_s : n_s ≤ 17592186043904) (e_s : a_s = none → n_s = 0 ∧ c_s = 0) (hl_s : -9223372036854775808 ≤ s_s) (hh_s : s_s ≤ 9223372036854775807) (hl_e : -9223372036854775808 ≤ e) (hh_e : e ≤ 9223372036854775807) (hT : Tab64 w) :
    Calls Tryd.prog 3 #[setV s_s a_s n_s c_s, .int .i64 e] w fun e w' => e = .returned (.bool true) ∧ Below w.heap.size w w' := by
  have A00 : Facts w w [] := ⟨Below.refl _ _, fun f hf => by cases hf⟩
  have A01 := A00.add (fW a_s n_s c_s x_s) h_s
  have A0 := hide A01
  have O_s := hide o_s
  have E_s := hide e_s
  have B_s := hide (And.intro hl_s hh_s)
  have B_e := hide (And.intro hl_e hh_e)
  have HT := hide hT
  clear hT
  obtain ⟨rk, hrk⟩ : ∃ r, rankR s_s x_s e = r := ⟨_, rfl⟩
  have Hrk := hide hrk
  clear hrk
  obtain ⟨sl, hsl⟩ : ∃ r, selR s_s x_s e = r := ⟨_, rfl⟩
  have Hsl := hide hsl
  clear hsl
  obtain ⟨nx, hnx⟩ : ∃ r, nextR s_s x_s e = r := ⟨_, rfl⟩
  have Hnx := hide hnx
  clear hnx
  obtain ⟨la, hla⟩ : ∃ r, lastR s_s x_s e = r := ⟨_, rfl⟩
  have Hla := hide hla
  clear hla
  clear A00 A01 h_s o_s e_s hl_s hh_s hl_e hh_e
  unfold setV
  go_enter Tryd.func3, Tryd.ntmps3
  obtain ⟨w1, hw1⟩ : ∃ x, w.alloc (.cells #[.int .i64 s_s, .slice a_s n_s c_s] 24) = x := ⟨_, rfl⟩
  have Aw1 := hide ((unhide A0).box (.int .i64 s_s) (.slice a_s n_s c_s) 24)
  rw [hw1] at Aw1
  clear A0
  have t2 := (unhide Aw1).t (w.heap.size) (.int .i64 s_s) (.slice a_s n_s c_s) (.head _)
  have t2a := t2.c0
  have t2b := t2.c1
  clear t2
  go_wp2_with fail
  clear t2a t2b
  have Kw3 := twin_any s_s a_s n_s c_s x_s w1 ((unhide Aw1).w (a_s) (n_s) c_s (x_s) (.tail _ (.head _))) b_s (unhide E_s)
  unfold setV at Kw3
  refine Kw3.mono ?_
  clear Kw3
  rintro _ w3 ⟨b_u, k_u, rfl, hs, hb⟩
  have Aw3 := hide (((unhide Aw1).step hb).add (fW (some ⟨b_u, 0, none⟩) (n_s + 1) k_u (x_s ++ [markN])) hs)
  clear Aw1 hs hb
  obtain ⟨w4, hw4⟩ : ∃ x, w3.alloc (.cells #[.int .i64 s_s, .slice (some ⟨b_u, 0, none⟩) n_s k_u] 24) = x := ⟨_, rfl⟩
  have Aw4 := hide ((unhide Aw3).box (.int .i64 s_s) (.slice (some ⟨b_u, 0, none⟩) n_s k_u) 24)
  rw [hw4] at Aw4
  clear Aw3
  have t5 := (unhide Aw4).t (w.heap.size) (.int .i64 s_s) (.slice a_s n_s c_s) (.tail _ (.tail _ (.head _)))
  have t5a := t5.c0
  have t5b := t5.c1
  clear t5
  go_wp2_with fail
  clear t5a t5b
  have K := rnext_any s_s a_s n_s c_s x_s e w4 ((unhide Aw4).w (a_s) (n_s) c_s (x_s) (.tail _ (.tail _ (.tail _ (.head _)))))
  rw [unhide Hnx, unhide Hla] at K
  unfold setV at K
  refine K.mono ?_
  clear K
  rintro _ w6 ⟨rfl, hb⟩
  have Aw6 := hide ((unhide Aw4).step hb)
  clear Aw4 hb
  have t7 := (unhide Aw6).t (w.heap.size) (.int .i64 s_s) (.slice a_s n_s c_s) (.tail _ (.tail _ (.head _)))
  have t7a := t7.c0
  have t7b := t7.c1
  clear t7
  have t8 := (unhide Aw6).t (w3.heap.size) (.int .i64 s_s) (.slice (some ⟨b_u, 0, none⟩) n_s k_u) (.head _)
  have t8a := t8.c0
  have t8b := t8.c1
  clear t8
  have AX9 := hide (fun x : Ext w6 => (unhide Aw6).step x.bel)
  have hNE9 := Ext.ne w6
  have Ft7a := fun x : Ext w6 => x.cell t7a
  have Ft7b := fun x : Ext w6 => x.cell t7b
  have Ft8a := fun x : Ext w6 => x.cell t8a
  have Ft8b := fun x : Ext w6 => x.cell t8b
  have K := fun x : Ext w6 => rank_any s_s (some ⟨b_u, 0, none⟩) n_s k_u x_s e x.w  ((unhide AX9 x).w (some ⟨b_u, 0, none⟩) (n_s + 1) k_u (x_s ++ [markN]) (.tail _ (.head _))).init (unhide O_s) (unhide B_e).1 (unhide B_e).2
  rw [unhide Hrk] at K
  try unfold setV at K
  have HK9_0 := hide K
  clear K
  have K := fun x : Ext w6 => rrank_any s_s a_s n_s c_s x_s e x.w ((unhide AX9 x).w (a_s) (n_s) c_s (x_s) (.tail _ (.tail _ (.tail _ (.head _)))))
  rw [unhide Hrk] at K
  try unfold setV at K
  have HK9_1 := hide K
  clear K
  have K := fun x : Ext w6 => select_any s_s (some ⟨b_u, 0, none⟩) n_s k_u x_s e x.w  ((unhide AX9 x).w (some ⟨b_u, 0, none⟩) (n_s + 1) k_u (x_s ++ [markN]) (.tail _ (.head _))).init (unhide O_s) (unhide B_e).1 (unhide B_e).2 ((unhide HT).below (unhide AX9 x).bel)
  rw [unhide Hsl] at K
  try unfold setV at K
  have HK9_2 := hide K
  clear K
  have K := fun x : Ext w6 => rselect_any s_s a_s n_s c_s x_s e x.w ((unhide AX9 x).w (a_s) (n_s) c_s (x_s) (.tail _ (.tail _ (.tail _ (.head _)))))
  rw [unhide Hsl] at K
  try unfold setV at K
  have HK9_3 := hide K
  clear K
  have K := fun x : Ext w6 => next_any s_s (some ⟨b_u, 0, none⟩) n_s k_u x_s e x.w  ((unhide AX9 x).w (some ⟨b_u, 0, none⟩) (n_s + 1) k_u (x_s ++ [markN]) (.tail _ (.head _))).init (unhide O_s) (unhide B_e).1 (unhide B_e).2 ((unhide HT).below (unhide AX9 x).bel)
  rw [unhide Hnx] at K
  try unfold setV at K
  have HK9_4 := hide K
  clear K
  have K := fun x : Ext w6 => last_any s_s (some ⟨b_u, 0, none⟩) n_s k_u x_s e x.w  ((unhide AX9 x).w (some ⟨b_u, 0, none⟩) (n_s + 1) k_u (x_s ++ [markN]) (.tail _ (.head _))).init (unhide O_s) (unhide B_e).1 (unhide B_e).2
  rw [unhide Hla] at K
  try unfold setV at K
  have HK9_5 := hide K
  clear K
  have K := fun x : Ext w6 => kept_any s_s b_u k_u a_s n_s c_s x_s x.w ((unhide AX9 x).w (some ⟨b_u, 0, none⟩) (n_s + 1) k_u (x_s ++ [markN]) (.tail _ (.head _))) ((unhide AX9 x).w (a_s) (n_s) c_s (x_s) (.tail _ (.tail _ (.tail _ (.head _)))))
  try unfold setV at K
  have HK9_6 := hide K
  clear K
  have q1 : ((rk : Int) == (rk : Int)) = true := by simp
  have q2 : (sl == sl) = true := by simp
  have q3 : (nx == nx) = true := by simp
  have q4 : (la == la) = true := by simp
  go_wp2_with fail
  clear t7a t7b t8a t8b
  refine wp_region_ext (by kernel_rfl) (by kernel_rfl) ?_
  repeat (go_big_quiet_step (first
    | (go_at_call 10; rename_i x; exact Ext.call (unhide HK9_0 x) (fun e w' h => h))
    | (go_at_call 11; rename_i x; exact Ext.call (unhide HK9_1 x) (fun e w' h => h))
    | (go_at_call 12; rename_i x; exact Ext.call (unhide HK9_2 x) (fun e w' h => h))
    | (go_at_call 13; rename_i x; exact Ext.call (unhide HK9_3 x) (fun e w' h => h))
    | (go_at_call 14; rename_i x; exact Ext.call (unhide HK9_4 x) (fun e w' h => h))
    | (go_at_call 15; rename_i x; exact Ext.call (unhide HK9_5 x) (fun e w' h => h))
    | (go_at_call 16; rename_i x; exact Ext.call (unhide HK9_6 x) (fun e w' h => h))))
  refine wpQuiet_nil ?_
  rintro _ ⟨x9, rfl⟩
  have A9 := hide (unhide AX9 x9)
  clear AX9 Aw6 Ft7a Ft7b Ft8a Ft8b HK9_0 HK9_1 HK9_2 HK9_3 HK9_4 HK9_5 HK9_6
  go_wp2_with fail
  go_ret
  exact ⟨rfl, (unhide A9).bel⟩

set_option maxRecDepth 100000 in
theorem bitPlaces_door (os : Os) (args : Array Value) : laidMetH Tryd.prog [("math/bits.deBruijn64tab", Rows.laid_math_bits_deBruijn64tab)] ((World.doorLaid Tryd.prog 400 os).forCall (fun _ _ => 0) ⟨#[], args, []⟩).memory :=
  laidMetH_of_parts3 (fuel := 8) (laidMet_of_run' 8 (by kernel_rfl) (by kernel_rfl)) (by kernel_rfl) (by kernel_rfl)

set_option maxRecDepth 100000 in
theorem bitPlaces_lifted (os : Os) (started : os.Started) (H : Type) (enc : TypeId × Value → H) :
    ReturnsInHanded {} Tryd.checked os 3 .any (fun w args => (Rows.bitPlacesSpec.pre enc Tryd.prog Tryd.f3 [] false w args ∧ laidMetH Tryd.prog [("math/bits.deBruijn64tab", Rows.laid_math_bits_deBruijn64tab)] w) ∧ sizedMet enc Tryd.prog Tryd.f3 (OpenSpec.ofChange Rows.bitPlacesSpec) false w args) (Rows.bitPlacesSpec.post enc Tryd.prog Tryd.f3 false true false false) := by
  refine returnsInHanded_of_change_and (C := Tryd.checked) (X := fun w _ => laidMetH Tryd.prog [("math/bits.deBruijn64tab", Rows.laid_math_bits_deBruijn64tab)] w) (fun _ _ _ hh h => h.of_heap hh) law_own started (by kernel_rfl) Tryd.func3
    (ChangeSpec.witness_shaped (enc := enc) (C := Tryd.checked) (os := os) (X := fun w _ => laidMetH Tryd.prog [("math/bits.deBruijn64tab", Rows.laid_math_bits_deBruijn64tab)] w) false (World.doorLaid Tryd.prog 400 os) #[.agg #[.int .i64 0, .slice none 0 0], .int .i64 0] 8 rfl (World.shaped_of_RefB (by kernel_rfl) (by kernel_rfl)) (by kernel_rfl) (by kernel_rfl) (by kernel_rfl) (bitPlaces_door os _)) ?_
  intro W base args ds gs before hval0 hW hcnd hsz hL _
  have hval : ∀ (j : Nat) t v, Tryd.f3.params[j]? = some t → args[j]? = some v → Value.okWide Tryd.prog W .any base t v := hval0
  have hW' := hW
  obtain ⟨p, q, hA0, hV, rfl, hfz, hnd⟩ := hW
  have hA : DataW.TrodAll enc Tryd.prog W 0 (fun _ => true) true Tryd.f3.params.toList args.toList ds p := hA0
  rw [Tryd.params3] at hA hval hsz
  obtain ⟨v0, vs0, d0, ds0, p0, q0, hargs, rfl, rfl, h0, r0⟩ := trodAll_cons hA
  obtain ⟨v1, vs1, d1, ds1, p1, q1, rfl, rfl, rfl, h1, r1⟩ := trodAll_cons r0
  obtain ⟨rfl, rfl, rfl⟩ := trodAll_nil r1
  obtain rfl : args = #[v0, v1] := by cases args; simp_all
  obtain ⟨rfl, rfl⟩ := trodVars_none hV
  have k0 := h0
  have lt0 : ∀ x ∈ p0, x.block < W.heap.size := by obtain ⟨m, hm⟩ := k0; exact DataW.trod_lt m _ _ _ hm
  obtain ⟨s0, a0, n0, c0, x0, rfl, l0, g0, y0, o0, b0, e0⟩ := arg_set (hval 0 24 v0 rfl rfl) h0 (fun k hk => by simpa using List.all_eq_true.1 hsz k (DataW.weights_mem_each (j := 0) rfl rfl k hk))
  obtain ⟨i1, rfl, rfl, rfl, wf1⟩ := open_int Tryd.underlying3 (hval 1 3 v1 rfl rfl) h1
  clear hA0 hval0
  have hT : Tab64 W := by
    rw [MakeChecks.laidMetH_plain _ _ _ (by kernel_rfl)] at hL
    have hI := Lib.tabIs_of_head (k := .u8) (zs := tab64) (rest := []) (show Tryd.prog.globalNamed "math/bits.deBruijn64tab" = some 0 by kernel_rfl) (show (Tryd.prog.globals[0]?).map (·.type) = some 82 by kernel_rfl) Tryd.underlying82 Tryd.underlying5 (by kernel_rfl) (by kernel_rfl) hL
    intro j hj
    exact hI.cell (by kernel_rfl) j hj
  refine (bitPlaces_walk s0 a0 n0 c0 x0 i1 W y0 o0 b0 e0 l0 g0 (bounds_i64 wf1).1 (bounds_i64 wf1).2 hT).mono fun e W' ⟨he, bel⟩ => ?_
  subst he
  exact ⟨_, rfl, _, _, _, [], _, [], hW', trodAll_mk1 (shut_bool Tryd.underlying4 _), (trodAll_cons_mk (Below.trod law_laid (by kernel_rfl) (of_decide_eq_true (by kernel_rfl)) k0 bel lt0) (trodAll_cons_mk (shut_int Tryd.underlying3 wf1) trodAll_mk0)), rfl, bel.frame _, fun h => by cases h⟩

theorem bitPlaces_row : Rows.BitPlacesSaid :=
  OpenClaim.holds_of_wide 3 Tryd.f3 rfl rfl rfl rfl rfl rfl rfl ⟨rfl, rfl, rfl, rfl, rfl⟩ rfl rfl rfl rfl rfl (by kernel_rfl) Tryd.func3 (by kernel_rfl)
    (of_decide_eq_true (by kernel_rfl)) (by unfold Func.isWrapper; first | (rw [if_pos (by decide +kernel)]; kernel_rfl) | (rw [if_neg (by decide +kernel)]; exact ⟨rfl, rfl⟩))
    (fun os started H enc _ => bitPlaces_lifted os started H enc)

theorem bitPlaces_holds : Rows.BitPlacesCardSaid :=
  Claim7.holds_tied_plain_at .later [] [.data] true Rows.bitPlacesCard.stood.harness false
    bitPlaces_row (fun _ h => by cases h) (by kernel_rfl) (fun _ h => by cases h) bitPlaces_row_tie rfl ⟨rfl, rfl⟩ (by kernel_rfl) rfl
    (fun f fn hf hfn => by
      obtain rfl : f = 3 := Option.some.inj ((show Tryd.prog.funcNamed "slope/slopelaw3.BitPlaces" = some 3 by kernel_rfl).symm.trans hf) |>.symm
      obtain rfl : fn = Tryd.f3 := (Option.some.inj (Tryd.func3.symm.trans hfn)).symm
      exact ⟨by kernel_rfl, fun j t ht => by
        rw [Tryd.params3] at ht
        have hm : t ∈ [24, 3] := by simpa using Array.mem_of_getElem? ht
        have hall : ([24, 3].all fun u => !Tryd.prog.wantsStandIn u) = true := by kernel_rfl
        exact (show Tryd.prog.wantsStandIn t = false by simpa using List.all_eq_true.1 hall t hm)⟩)
    (by kernel_rfl)
#print axioms bitPlaces_holds
end Go.Proofs.YtbendkndnojihaaDoor
