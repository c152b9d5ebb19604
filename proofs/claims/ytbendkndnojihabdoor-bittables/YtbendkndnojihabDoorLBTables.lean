/-
  THE LAW BitTables: out of the contracts; the row's step.
-/
import Derived.Test.YtbendkndnojihabDoorBye
import Derived.Test.YtbendkndnojihabDoorBu2
import Derived.Test.YtbendkndnojihabDoorBk7
import Derived.Test.YtbendkndnojihabDoorBtb
import Derived.Test.YtbendkndnojihabDoorBtm
import Derived.Test.YtbendkndnojihabDoorBtv
import Derived.Test.YtbendkndnojihabDoorBxc
import Derived.Test.YtbendkndnojihabDoorBv1
import Derived.Test.YtbendkndnojihabDoorCards
import Derived.Test.YtbendkndnojihabDoorTie
import Derived.SevenTiedAt
import Derived.LaidMore
import Derived.Stop.Joined
import Derived.Lib.LaidTab
namespace Go.Proofs.YtbendkndnojihabDoor
open Go.ChangeShapes Go.WideShapes Go.ChangeAt Go.RowKit Go.Deep
set_option linter.unusedVariables false

set_option maxRecDepth 100000 in
set_option maxHeartbeats 64000000 in
theorem bitTables_walk (size : Int) (a_sets : Option Addr) (n_sets c_sets : Nat) (x_sets : List SetC) (w : World) (hl_size : -9223372036854775808 ≤ size) (hh_size : size ≤ 9223372036854775807) (h_sets : SlS w a_sets n_sets c_sets x_sets) (o_sets : ∀ e ∈ x_sets, e.Arg) (b_sets : n_sets ≤ 4398046510976) (e_sets : a_sets = none → n_sets = 0 ∧ c_sets = 0) (hT : Tab64 w) :
    Calls Tryd.prog 5 #[.int .i64 size, .slice a_sets n_sets c_sets] w fun e w' => e = .returned (.bool true) ∧ Below w.heap.size w w' := by
  have A00 : Facts w w [] := ⟨Below.refl _ _, fun f hf => by cases hf⟩
  have A01 := A00.add (fS a_sets n_sets c_sets x_sets) h_sets
  have L_sets := hide h_sets.len
  have hle_sets := h_sets.le
  have hcap_sets := h_sets.cap
  unfold maxLen at hcap_sets
  have A0 := hide A01
  have B_size := hide (And.intro hl_size hh_size)
  have O_sets := hide o_sets
  have HT := hide hT
  clear hT
  obtain ⟨r1s, r1n, r1K, r1e, h1⟩ := mt_same size n_sets x_sets h_sets.len (fun e he => (h_sets.all e he).2)
  have H1 := hide h1
  obtain ⟨r2s, r2n, r2K, r2e, h2⟩ := tu_same size n_sets x_sets h_sets.len (fun e he => (h_sets.all e he).2)
  have H2 := hide h2
  obtain ⟨r3l, r3e, h3⟩ := fi_same size n_sets x_sets h_sets.len (fun e he => (h_sets.all e he).2)
  have H3 := hide h3
  clear h1 h2 h3
  have q1 : (r1e == r1e) = true := by simp
  have q2 : (r2e == r2e) = true := by simp
  have q3 : (r3e == r3e) = true := by simp
  clear A00 A01 h_sets o_sets e_sets hl_size hh_size
  go_enter Tryd.func5, Tryd.ntmps5
  go_wp2_with fail
  refine (twins_any a_sets n_sets c_sets x_sets w ((unhide A0).ss (a_sets) (n_sets) c_sets (x_sets) (.head _)) (unhide O_sets) b_sets).mono ?_
  rintro _ w1 ⟨g_l, k_l, t_l, rfl, hs, hb⟩
  have KY_l := hide (hs.key (unhide L_sets))
  have Aw1 := hide (((unhide A0).step hb).add (fTw g_l k_l n_sets x_sets t_l) hs)
  clear A0 hs hb
  go_wp2_with fail
  have Kw2 := (unhide H1 w1 (some ⟨g_l, 0, none⟩) k_l t_l ((unhide Aw1).tw g_l k_l (n_sets) x_sets t_l (.head _)).sl (unhide KY_l)).1
  try unfold setV at Kw2
  refine Kw2.mono ?_
  clear Kw2
  rintro _ w2 ⟨a_a, c_a, x_a, rfl, hs, hk, hb⟩
  have G_a := hide (hk)
  have hle_a := hs.le
  have hcap_a := hs.cap
  unfold maxLen at hcap_a
  have Aw2 := hide (((unhide Aw1).step hb).add (fS a_a (r1n) c_a x_a) hs)
  clear Aw1 hs hb hk
  unfold setV
  obtain ⟨w3, hw3⟩ : ∃ x, w2.alloc (.cells #[.int .i64 r1s, .slice a_a r1n c_a] 24) = x := ⟨_, rfl⟩
  have Aw3 := hide ((unhide Aw2).box (.int .i64 r1s) (.slice a_a r1n c_a) 24)
  rw [hw3] at Aw3
  clear Aw2
  go_wp2_with fail
  have Kw4 := (unhide H1 w3 a_sets c_sets x_sets ((unhide Aw3).ss (a_sets) (n_sets) c_sets (x_sets) (.tail _ (.tail _ (.tail _ (.head _))))) rfl).2 (unhide O_sets)
  try unfold setV at Kw4
  refine Kw4.mono ?_
  clear Kw4
  rintro _ w4 ⟨a_b, c_b, x_b, rfl, hs, hk, hb⟩
  have G_b := hide (hk)
  have hle_b := hs.le
  have hcap_b := hs.cap
  unfold maxLen at hcap_b
  have Aw4 := hide (((unhide Aw3).step hb).add (fS a_b (r1n) c_b x_b) hs)
  clear Aw3 hs hb hk
  unfold setV
  obtain ⟨w5, hw5⟩ : ∃ x, w4.alloc (.cells #[.int .i64 r1s, .slice a_b r1n c_b] 24) = x := ⟨_, rfl⟩
  have Aw5 := hide ((unhide Aw4).box (.int .i64 r1s) (.slice a_b r1n c_b) 24)
  rw [hw5] at Aw5
  clear Aw4
  obtain ⟨w6, hw6⟩ : ∃ x, w5.alloc (.cells #[.int .i64 size, .slice (some ⟨g_l, 0, none⟩) n_sets k_l] 24) = x := ⟨_, rfl⟩
  have Aw6 := hide ((unhide Aw5).box (.int .i64 size) (.slice (some ⟨g_l, 0, none⟩) n_sets k_l) 24)
  rw [hw6] at Aw6
  clear Aw5
  obtain ⟨w7, hw7⟩ : ∃ x, w6.alloc (.cells #[.int .i64 size, .slice a_sets n_sets c_sets] 24) = x := ⟨_, rfl⟩
  have Aw7 := hide ((unhide Aw6).box (.int .i64 size) (.slice a_sets n_sets c_sets) 24)
  rw [hw7] at Aw7
  clear Aw6
  have t8 := (unhide Aw7).t (w5.heap.size) (.int .i64 size) (.slice (some ⟨g_l, 0, none⟩) n_sets k_l) (.tail _ (.head _))
  have t8a := t8.c0
  have t8b := t8.c1
  clear t8
  have t9 := (unhide Aw7).t (w6.heap.size) (.int .i64 size) (.slice a_sets n_sets c_sets) (.head _)
  have t9a := t9.c0
  have t9b := t9.c1
  clear t9
  go_wp2_with fail
  clear t8a t8b t9a t9b
  have Kw10 := (unhide H2 w7 (some ⟨g_l, 0, none⟩) k_l t_l ((unhide Aw7).tw g_l k_l (n_sets) x_sets t_l (.tail _ (.tail _ (.tail _ (.tail _ (.tail _ (.tail _ (.head _)))))))).sl (unhide KY_l) ((unhide HT).below (unhide Aw7).bel)).1
  try unfold setV at Kw10
  refine Kw10.mono ?_
  clear Kw10
  rintro _ w10 ⟨a_c, c_c, x_c, rfl, hs, hk, hb⟩
  have G_c := hide (hk)
  have hle_c := hs.le
  have hcap_c := hs.cap
  unfold maxLen at hcap_c
  have Aw10 := hide (((unhide Aw7).step hb).add (fS a_c (r2n) c_c x_c) hs)
  clear Aw7 hs hb hk
  unfold setV
  obtain ⟨w11, hw11⟩ : ∃ x, w10.alloc (.cells #[.int .i64 r2s, .slice a_c r2n c_c] 24) = x := ⟨_, rfl⟩
  have Aw11 := hide ((unhide Aw10).box (.int .i64 r2s) (.slice a_c r2n c_c) 24)
  rw [hw11] at Aw11
  clear Aw10
  have t12 := (unhide Aw11).t (w6.heap.size) (.int .i64 size) (.slice a_sets n_sets c_sets) (.tail _ (.tail _ (.head _)))
  have t12a := t12.c0
  have t12b := t12.c1
  clear t12
  go_wp2_with fail
  clear t12a t12b
  have Kw13 := (unhide H2 w11 a_sets c_sets x_sets ((unhide Aw11).ss (a_sets) (n_sets) c_sets (x_sets) (.tail _ (.tail _ (.tail _ (.tail _ (.tail _ (.tail _ (.tail _ (.tail _ (.tail _ (.head _))))))))))) rfl ((unhide HT).below (unhide Aw11).bel)).2
  try unfold setV at Kw13
  refine Kw13.mono ?_
  clear Kw13
  rintro _ w13 ⟨a_d, c_d, x_d, rfl, hs, hk, hb⟩
  have G_d := hide (hk)
  have hle_d := hs.le
  have hcap_d := hs.cap
  unfold maxLen at hcap_d
  have Aw13 := hide (((unhide Aw11).step hb).add (fS a_d (r2n) c_d x_d) hs)
  clear Aw11 hs hb hk
  unfold setV
  obtain ⟨w14, hw14⟩ : ∃ x, w13.alloc (.cells #[.int .i64 r2s, .slice a_d r2n c_d] 24) = x := ⟨_, rfl⟩
  have Aw14 := hide ((unhide Aw13).box (.int .i64 r2s) (.slice a_d r2n c_d) 24)
  rw [hw14] at Aw14
  clear Aw13
  have t15 := (unhide Aw14).t (w5.heap.size) (.int .i64 size) (.slice (some ⟨g_l, 0, none⟩) n_sets k_l) (.tail _ (.tail _ (.tail _ (.tail _ (.tail _ (.head _))))))
  have t15a := t15.c0
  have t15b := t15.c1
  clear t15
  go_wp2_with fail
  clear t15a t15b
  have Kw16 := (unhide H3 w14 (some ⟨g_l, 0, none⟩) k_l t_l ((unhide Aw14).tw g_l k_l (n_sets) x_sets t_l (.tail _ (.tail _ (.tail _ (.tail _ (.tail _ (.tail _ (.tail _ (.tail _ (.tail _ (.tail _ (.head _)))))))))))).sl (unhide KY_l)).1
  try unfold setV at Kw16
  refine Kw16.mono ?_
  clear Kw16
  rintro _ w16 ⟨a_i, n_i, c_i, rfl, hs, hb⟩
  have Aw16 := hide (((unhide Aw14).step hb).add (fI a_i n_i c_i r3l) hs)
  clear Aw14 hs hb
  have t17 := (unhide Aw16).t (w6.heap.size) (.int .i64 size) (.slice a_sets n_sets c_sets) (.tail _ (.tail _ (.tail _ (.tail _ (.tail _ (.head _))))))
  have t17a := t17.c0
  have t17b := t17.c1
  clear t17
  go_wp2_with fail
  clear t17a t17b
  have Kw18 := (unhide H3 w16 a_sets c_sets x_sets ((unhide Aw16).ss (a_sets) (n_sets) c_sets (x_sets) (.tail _ (.tail _ (.tail _ (.tail _ (.tail _ (.tail _ (.tail _ (.tail _ (.tail _ (.tail _ (.tail _ (.tail _ (.head _)))))))))))))) rfl).2
  try unfold setV at Kw18
  refine Kw18.mono ?_
  clear Kw18
  rintro _ w18 ⟨a_k, n_k, c_k, rfl, hs, hb⟩
  have Aw18 := hide (((unhide Aw16).step hb).add (fI a_k n_k c_k r3l) hs)
  clear Aw16 hs hb
  have t19 := (unhide Aw18).t (w2.heap.size) (.int .i64 r1s) (.slice a_a r1n c_a) (.tail _ (.tail _ (.tail _ (.tail _ (.tail _ (.tail _ (.tail _ (.tail _ (.tail _ (.tail _ (.head _)))))))))))
  have t19a := t19.c0
  have t19b := t19.c1
  clear t19
  have t20 := (unhide Aw18).t (w4.heap.size) (.int .i64 r1s) (.slice a_b r1n c_b) (.tail _ (.tail _ (.tail _ (.tail _ (.tail _ (.tail _ (.tail _ (.tail _ (.head _)))))))))
  have t20a := t20.c0
  have t20b := t20.c1
  clear t20
  go_wp2_with fail
  clear t19a t19b t20a t20b
  have K := sameTable_eq r1s (a_a) (a_b) r1n c_a c_b x_a x_b w18 ((unhide Aw18).ss (a_a) (r1n) c_a (x_a) (.tail _ (.tail _ (.tail _ (.tail _ (.tail _ (.tail _ (.tail _ (.tail _ (.tail _ (.tail _ (.tail _ (.head _))))))))))))) ((unhide Aw18).ss (a_b) (r1n) c_b (x_b) (.tail _ (.tail _ (.tail _ (.tail _ (.tail _ (.tail _ (.tail _ (.tail _ (.tail _ (.head _))))))))))) ((unhide G_b).trans (unhide G_a).symm)
  try unfold setV at K
  refine K.mono ?_
  clear K
  rintro _ w21 ⟨rfl, hb⟩
  have Aw21 := hide ((unhide Aw18).step hb)
  clear Aw18 hb
  go_wp2_with fail
  refine (num_any r1e w21).mono ?_
  rintro _ w' ⟨rfl, hw⟩
  obtain rfl := hw.symm
  have t22 := (unhide Aw21).t (w10.heap.size) (.int .i64 r2s) (.slice a_c r2n c_c) (.tail _ (.tail _ (.tail _ (.tail _ (.head _)))))
  have t22a := t22.c0
  have t22b := t22.c1
  clear t22
  have t23 := (unhide Aw21).t (w13.heap.size) (.int .i64 r2s) (.slice a_d r2n c_d) (.tail _ (.tail _ (.head _)))
  have t23a := t23.c0
  have t23b := t23.c1
  clear t23
  go_wp2_with fail
  clear t22a t22b t23a t23b
  have K := sameTable_eq r2s (a_c) (a_d) r2n c_c c_d x_c x_d w21 ((unhide Aw21).ss (a_c) (r2n) c_c (x_c) (.tail _ (.tail _ (.tail _ (.tail _ (.tail _ (.head _))))))) ((unhide Aw21).ss (a_d) (r2n) c_d (x_d) (.tail _ (.tail _ (.tail _ (.head _))))) ((unhide G_d).trans (unhide G_c).symm)
  try unfold setV at K
  refine K.mono ?_
  clear K
  rintro _ w24 ⟨rfl, hb⟩
  have Aw24 := hide ((unhide Aw21).step hb)
  clear Aw21 hb
  go_wp2_with fail
  refine (num_any r2e w24).mono ?_
  rintro _ w' ⟨rfl, hw⟩
  obtain rfl := hw.symm
  have EL : n_k = n_i := by rw [← ((unhide Aw24).i (a_k) (n_k) c_k (r3l) (.head _)).len, ← ((unhide Aw24).i (a_i) (n_i) c_i (r3l) (.tail _ (.head _))).len]
  subst EL
  go_wp2_with fail
  refine (sameInts_eq a_i a_k n_k c_i c_k r3l w24 ((unhide Aw24).i (a_i) (n_k) c_i (r3l) (.tail _ (.head _))) ((unhide Aw24).i (a_k) (n_k) c_k (r3l) (.head _))).mono ?_
  rintro _ w25 ⟨rfl, qw25, hqw25⟩
  have hb : Below w24.heap.size w24 w25 := by rw [hqw25]; exact bel_drewN (Below.refl _ _) _
  have Aw25 := hide ((unhide Aw24).step hb)
  clear Aw24 hb hqw25
  go_wp2_with fail
  refine (num_any r3e w25).mono ?_
  rintro _ w' ⟨rfl, hw⟩
  obtain rfl := hw.symm
  go_wp2_with fail
  refine (keptAll_any g_l k_l a_sets n_sets c_sets x_sets t_l w25 ((unhide Aw25).tw g_l k_l (n_sets) x_sets t_l (.tail _ (.tail _ (.tail _ (.tail _ (.tail _ (.tail _ (.tail _ (.tail _ (.tail _ (.tail _ (.tail _ (.tail _ (.head _)))))))))))))) ((unhide Aw25).ss (a_sets) (n_sets) c_sets (x_sets) (.tail _ (.tail _ (.tail _ (.tail _ (.tail _ (.tail _ (.tail _ (.tail _ (.tail _ (.tail _ (.tail _ (.tail _ (.tail _ (.head _)))))))))))))))).mono ?_
  rintro _ w26 ⟨rfl, hb⟩
  have Aw26 := hide ((unhide Aw25).step hb)
  clear Aw25 hb
  go_wp2_with fail
  go_ret
  exact ⟨rfl, (unhide Aw26).bel⟩

set_option maxRecDepth 100000 in
theorem bitTables_door (os : Os) (args : Array Value) : laidMetH Tryd.prog [("math/bits.deBruijn64tab", Rows.laid_math_bits_deBruijn64tab)] ((World.doorLaid Tryd.prog 400 os).forCall (fun _ _ => 0) ⟨#[], args, []⟩).memory :=
  laidMetH_of_parts3 (fuel := 8) (laidMet_of_run' 8 (by kernel_rfl) (by kernel_rfl)) (by kernel_rfl) (by kernel_rfl)

set_option maxRecDepth 100000 in
theorem bitTables_lifted (os : Os) (started : os.Started) (H : Type) (enc : TypeId × Value → H) :
    ReturnsInHanded {} Tryd.checked os 5 .any (fun w args => (Rows.bitTablesSpec.pre enc Tryd.prog Tryd.f5 [] false w args ∧ laidMetH Tryd.prog [("math/bits.deBruijn64tab", Rows.laid_math_bits_deBruijn64tab)] w) ∧ sizedMet enc Tryd.prog Tryd.f5 (OpenSpec.ofChange Rows.bitTablesSpec) false w args) (Rows.bitTablesSpec.post enc Tryd.prog Tryd.f5 false true false false) := by
  refine returnsInHanded_of_change_and (C := Tryd.checked) (X := fun w _ => laidMetH Tryd.prog [("math/bits.deBruijn64tab", Rows.laid_math_bits_deBruijn64tab)] w) (fun _ _ _ hh h => h.of_heap hh) law_own started (by kernel_rfl) Tryd.func5
    (ChangeSpec.witness_shaped (enc := enc) (C := Tryd.checked) (os := os) (X := fun w _ => laidMetH Tryd.prog [("math/bits.deBruijn64tab", Rows.laid_math_bits_deBruijn64tab)] w) false (World.doorLaid Tryd.prog 400 os) #[.int .i64 0, .slice none 0 0] 8 rfl (World.shaped_of_RefB (by kernel_rfl) (by kernel_rfl)) (by kernel_rfl) (by kernel_rfl) (by kernel_rfl) (bitTables_door os _)) ?_
  intro W base args ds gs before hval0 hW hcnd hsz hL _
  have hval : ∀ (j : Nat) t v, Tryd.f5.params[j]? = some t → args[j]? = some v → Value.okWide Tryd.prog W .any base t v := hval0
  have hW' := hW
  obtain ⟨p, q, hA0, hV, rfl, hfz, hnd⟩ := hW
  have hA : DataW.TrodAll enc Tryd.prog W 0 (fun _ => true) true Tryd.f5.params.toList args.toList ds p := hA0
  rw [Tryd.params5] at hA hval hsz
  obtain ⟨v0, vs0, d0, ds0, p0, q0, hargs, rfl, rfl, h0, r0⟩ := trodAll_cons hA
  obtain ⟨v1, vs1, d1, ds1, p1, q1, rfl, rfl, rfl, h1, r1⟩ := trodAll_cons r0
  obtain ⟨rfl, rfl, rfl⟩ := trodAll_nil r1
  obtain rfl : args = #[v0, v1] := by cases args; simp_all
  obtain ⟨rfl, rfl⟩ := trodVars_none hV
  obtain ⟨i0, rfl, rfl, rfl, wf0⟩ := open_int Tryd.underlying3 (hval 0 3 v0 rfl rfl) h0
  have k1 := h1
  have lt1 : ∀ x ∈ p1, x.block < W.heap.size := by obtain ⟨m, hm⟩ := k1; exact DataW.trod_lt m _ _ _ hm
  obtain ⟨a1, n1, c1, rfl⟩ := okWide_slice Tryd.underlying22 (hval 1 22 v1 rfl rfl)
  obtain ⟨x1, y1, o1, b1, e1⟩ := arg_sets h1 (fun k hk => by simpa using List.all_eq_true.1 hsz k (DataW.weights_mem_each (j := 1) rfl rfl k hk))
  clear hA0 hval0
  have hT : Tab64 W := by
    rw [MakeChecks.laidMetH_plain _ _ _ (by kernel_rfl)] at hL
    have hI := Lib.tabIs_of_head (k := .u8) (zs := tab64) (rest := []) (show Tryd.prog.globalNamed "math/bits.deBruijn64tab" = some 0 by kernel_rfl) (show (Tryd.prog.globals[0]?).map (·.type) = some 115 by kernel_rfl) Tryd.underlying115 Tryd.underlying5 (by kernel_rfl) (by kernel_rfl) hL
    intro j hj
    exact hI.cell (by kernel_rfl) j hj
  refine (bitTables_walk i0 a1 n1 c1 x1 W (bounds_i64 wf0).1 (bounds_i64 wf0).2 y1 o1 b1 e1 hT).mono fun e W' ⟨he, bel⟩ => ?_
  subst he
  exact ⟨_, rfl, _, _, _, [], _, [], hW', trodAll_mk1 (shut_bool Tryd.underlying4 _), (trodAll_cons_mk (shut_int Tryd.underlying3 wf0) (trodAll_cons_mk (Below.trod law_laid (by kernel_rfl) (of_decide_eq_true (by kernel_rfl)) k1 bel lt1) trodAll_mk0)), rfl, bel.frame _, fun h => by cases h⟩

theorem bitTables_row : Rows.BitTablesSaid :=
  OpenClaim.holds_of_wide 5 Tryd.f5 rfl rfl rfl rfl rfl rfl rfl ⟨rfl, rfl, rfl, rfl, rfl⟩ rfl rfl rfl rfl rfl (by kernel_rfl) Tryd.func5 (by kernel_rfl)
    (of_decide_eq_true (by kernel_rfl)) (by unfold Func.isWrapper; first | (rw [if_pos (by decide +kernel)]; kernel_rfl) | (rw [if_neg (by decide +kernel)]; exact ⟨rfl, rfl⟩))
    (fun os started H enc _ => bitTables_lifted os started H enc)

theorem bitTables_holds : Rows.BitTablesCardSaid :=
  Claim7.holds_tied_plain_at .later [] [.data] true Rows.bitTablesCard.stood.harness false
    bitTables_row (fun _ h => by cases h) (by kernel_rfl) (fun _ h => by cases h) bitTables_row_tie rfl ⟨rfl, rfl⟩ (by kernel_rfl) rfl
    (fun f fn hf hfn => by
      obtain rfl : f = 5 := Option.some.inj ((show Tryd.prog.funcNamed "slope/slopelaw3.BitTables" = some 5 by kernel_rfl).symm.trans hf) |>.symm
      obtain rfl : fn = Tryd.f5 := (Option.some.inj (Tryd.func5.symm.trans hfn)).symm
      exact ⟨by kernel_rfl, fun j t ht => by
        rw [Tryd.params5] at ht
        have hm : t ∈ [3, 22] := by simpa using Array.mem_of_getElem? ht
        have hall : ([3, 22].all fun u => !Tryd.prog.wantsStandIn u) = true := by kernel_rfl
        exact (show Tryd.prog.wantsStandIn t = false by simpa using List.all_eq_true.1 hall t hm)⟩)
    (by kernel_rfl)
#print axioms bitTables_holds
end Go.Proofs.YtbendkndnojihabDoor
