/-
  THE LAW BitPrints: out of the contracts; the row's step.
-/
import Derived.Test.YtbendkndnojihabDoorBs0
import Derived.Test.YtbendkndnojihabDoorBs2
import Derived.Test.YtbendkndnojihabDoorBt8
import Derived.Test.YtbendkndnojihabDoorBtg0
import Derived.Test.YtbendkndnojihabDoorBtb
import Derived.Test.YtbendkndnojihabDoorBtc
import Derived.Test.YtbendkndnojihabDoorBu3
import Derived.Test.YtbendkndnojihabDoorBq0
import Derived.Test.YtbendkndnojihabDoorCards
import Derived.Test.YtbendkndnojihabDoorTie
import Derived.Stop.LaidErr
import Derived.SevenTiedAt
import Derived.LaidMore
import Derived.Stop.Joined
import Derived.Lib.LaidTab
namespace Go.Proofs.YtbendkndnojihabDoor
open Go.ChangeShapes Go.WideShapes Go.ChangeAt Go.RowKit Go.Deep
set_option linter.unusedVariables false

set_option maxRecDepth 100000 in
set_option maxHeartbeats 64000000 in
theorem bitPrints_walk (s_s : Int) (a_s : Option Addr) (n_s c_s : Nat) (x_s : List Nat) (w : World) (h_s : SlW w a_s n_s c_s x_s) (o_s : OkW x_s) (b_s : n_s ≤ 17592186043904) (e_s : a_s = none → n_s = 0 ∧ c_s = 0) (hl_s : -9223372036854775808 ≤ s_s) (hh_s : s_s ≤ 9223372036854775807) (hT : Tab64 w) (hP : Lib.TabBelow Tryd.prog w.heap.size w "internal/strconv.uint64pow10" .u64 Lib.pow10Tab) :
    Calls Tryd.prog 4 #[setV s_s a_s n_s c_s] w fun e w' => e = .returned (.bool true) ∧ Below w.heap.size w w' := by
  have A00 : Facts w w [] := ⟨Below.refl _ _, fun f hf => by cases hf⟩
  have A01 := A00.add (fW a_s n_s c_s x_s) h_s
  have A0 := hide A01
  have O_s := hide o_s
  have E_s := hide e_s
  have B_s := hide (And.intro hl_s hh_s)
  have HT := hide hT
  have HP := hide hP
  clear hT hP
  obtain ⟨pr, hpr⟩ : ∃ r, prT s_s x_s = r := ⟨_, rfl⟩
  have HPr := hide hpr
  clear hpr
  obtain ⟨T, er⟩ := pr
  obtain ⟨ST, hST⟩ : ∃ S, strL T = S := ⟨_, rfl⟩
  have HST := hide hST
  clear hST
  have q2 : (er == er) = true := by simp
  clear A00 A01 h_s o_s e_s hl_s hh_s
  unfold setV
  go_enter Tryd.func4, Tryd.ntmps4
  obtain ⟨w1, hw1⟩ : ∃ x, w.alloc (.cells #[.int .i64 s_s, .slice a_s n_s c_s] 35) = x := ⟨_, rfl⟩
  have Aw1 := hide ((unhide A0).box (.int .i64 s_s) (.slice a_s n_s c_s) 35)
  rw [hw1] at Aw1
  clear A0
  have t2 := (unhide Aw1).t (w.heap.size) (.int .i64 s_s) (.slice a_s n_s c_s) (.head _)
  have t2a := t2.c0
  have t2b := t2.c1
  clear t2
  go_wp2_with fail
  clear t2a t2b
  have Kw3 := twin_any s_s a_s n_s c_s x_s w1 ((unhide Aw1).w (a_s) (n_s) c_s (x_s) (.tail _ (.head _))) b_s (unhide E_s)
  unfold setV at Kw3
  refine Kw3.mono ?_
  clear Kw3
  rintro _ w3 ⟨b_u, k_u, rfl, hs, hb⟩
  have Aw3 := hide (((unhide Aw1).step hb).add (fW (some ⟨b_u, 0, none⟩) (n_s + 1) k_u (x_s ++ [markN])) hs)
  clear Aw1 hs hb
  obtain ⟨w4, hw4⟩ : ∃ x, w3.alloc (.cells #[.int .i64 s_s, .slice (some ⟨b_u, 0, none⟩) n_s k_u] 35) = x := ⟨_, rfl⟩
  have Aw4 := hide ((unhide Aw3).box (.int .i64 s_s) (.slice (some ⟨b_u, 0, none⟩) n_s k_u) 35)
  rw [hw4] at Aw4
  clear Aw3
  have t5 := (unhide Aw4).t (w3.heap.size) (.int .i64 s_s) (.slice (some ⟨b_u, 0, none⟩) n_s k_u) (.head _)
  have t5a := t5.c0
  have t5b := t5.c1
  clear t5
  go_wp2_with fail
  clear t5a t5b
  have K := sprint_any ai_lies s_s (some ⟨b_u, 0, none⟩) n_s k_u x_s w4 ((unhide Aw4).w (some ⟨b_u, 0, none⟩) (n_s + 1) k_u (x_s ++ [markN]) (.tail _ (.head _))).init (unhide O_s) ((unhide HT).below (unhide Aw4).bel) (tabOn (unhide HP) (unhide Aw4).bel)
  rw [unhide HPr] at K
  simp only at K
  rw [unhide HST] at K
  unfold setV at K
  refine K.mono ?_
  clear K
  rintro _ w6 ⟨rfl, hb⟩
  have Aw6 := hide ((unhide Aw4).step hb)
  clear Aw4 hb
  have t7 := (unhide Aw6).t (w.heap.size) (.int .i64 s_s) (.slice a_s n_s c_s) (.tail _ (.tail _ (.head _)))
  have t7a := t7.c0
  have t7b := t7.c1
  clear t7
  go_wp2_with fail
  clear t7a t7b
  have K := rsprint_any s_s a_s n_s c_s x_s w6 ((unhide Aw6).w (a_s) (n_s) c_s (x_s) (.tail _ (.tail _ (.tail _ (.head _)))))
  rw [unhide HPr] at K
  simp only at K
  rw [unhide HST] at K
  unfold setV at K
  refine K.mono ?_
  clear K
  rintro _ w8 ⟨rfl, hb⟩
  have Aw8 := hide ((unhide Aw6).step hb)
  clear Aw6 hb
  go_wp2_with fail
  refine (num_any er w8).mono ?_
  rintro _ w' ⟨rfl, hw⟩
  obtain rfl := hw.symm
  have t9 := (unhide Aw8).t (w3.heap.size) (.int .i64 s_s) (.slice (some ⟨b_u, 0, none⟩) n_s k_u) (.head _)
  have t9a := t9.c0
  have t9b := t9.c1
  clear t9
  have t10 := (unhide Aw8).t (w.heap.size) (.int .i64 s_s) (.slice a_s n_s c_s) (.tail _ (.tail _ (.head _)))
  have t10a := t10.c0
  have t10b := t10.c1
  clear t10
  go_wp2_with fail
  clear t9a t9b t10a t10b
  have Kw11 := kept_any s_s b_u k_u a_s n_s c_s x_s w8 ((unhide Aw8).w (some ⟨b_u, 0, none⟩) (n_s + 1) k_u (x_s ++ [markN]) (.tail _ (.head _))) ((unhide Aw8).w (a_s) (n_s) c_s (x_s) (.tail _ (.tail _ (.tail _ (.head _)))))
  unfold setV at Kw11
  refine Kw11.mono ?_
  clear Kw11
  rintro _ w11 ⟨rfl, hb⟩
  have Aw11 := hide ((unhide Aw8).step hb)
  clear Aw8 hb
  go_wp2_with fail
  go_ret
  exact ⟨rfl, (unhide Aw11).bel⟩

set_option maxRecDepth 100000 in
theorem bitPrints_door (os : Os) (args : Array Value) : laidMetH Tryd.prog [("math/bits.deBruijn32tab", Rows.laid_math_bits_deBruijn32tab), ("math/bits.deBruijn64tab", Rows.laid_math_bits_deBruijn64tab), ("internal/strconv.uint64pow10", Rows.laid_internal_strconv_uint64pow10)] ((World.doorLaid Tryd.prog 400 os).forCall (fun _ _ => 0) ⟨#[], args, []⟩).memory :=
  laidMetH_of_parts3 (fuel := 8) (laidMet_of_run' 8 (by kernel_rfl) (by kernel_rfl)) (by kernel_rfl) (by kernel_rfl)

set_option maxRecDepth 100000 in
theorem bitPrints_lifted (os : Os) (started : os.Started) (H : Type) (enc : TypeId × Value → H) :
    ReturnsInHanded {} Tryd.checked os 4 .any (fun w args => (Rows.bitPrintsSpec.pre enc Tryd.prog Tryd.f4 [] false w args ∧ laidMetH Tryd.prog [("math/bits.deBruijn32tab", Rows.laid_math_bits_deBruijn32tab), ("math/bits.deBruijn64tab", Rows.laid_math_bits_deBruijn64tab), ("internal/strconv.uint64pow10", Rows.laid_internal_strconv_uint64pow10)] w) ∧ sizedMet enc Tryd.prog Tryd.f4 (OpenSpec.ofChange Rows.bitPrintsSpec) false w args) (Rows.bitPrintsSpec.post enc Tryd.prog Tryd.f4 false true false false) := by
  refine returnsInHanded_of_change_and (C := Tryd.checked) (X := fun w _ => laidMetH Tryd.prog [("math/bits.deBruijn32tab", Rows.laid_math_bits_deBruijn32tab), ("math/bits.deBruijn64tab", Rows.laid_math_bits_deBruijn64tab), ("internal/strconv.uint64pow10", Rows.laid_internal_strconv_uint64pow10)] w) (fun _ _ _ hh h => h.of_heap hh) law_own started (by kernel_rfl) Tryd.func4
    (ChangeSpec.witness_shaped (enc := enc) (C := Tryd.checked) (os := os) (X := fun w _ => laidMetH Tryd.prog [("math/bits.deBruijn32tab", Rows.laid_math_bits_deBruijn32tab), ("math/bits.deBruijn64tab", Rows.laid_math_bits_deBruijn64tab), ("internal/strconv.uint64pow10", Rows.laid_internal_strconv_uint64pow10)] w) false (World.doorLaid Tryd.prog 400 os) #[.agg #[.int .i64 0, .slice none 0 0]] 8 rfl (World.shaped_of_RefB (by kernel_rfl) (by kernel_rfl)) (by kernel_rfl) (by kernel_rfl) (by kernel_rfl) (bitPrints_door os _)) ?_
  intro W base args ds gs before hval0 hW hcnd hsz hL _
  have hval : ∀ (j : Nat) t v, Tryd.f4.params[j]? = some t → args[j]? = some v → Value.okWide Tryd.prog W .any base t v := hval0
  have hW' := hW
  obtain ⟨p, q, hA0, hV, rfl, hfz, hnd⟩ := hW
  have hA : DataW.TrodAll enc Tryd.prog W 0 (fun _ => true) true Tryd.f4.params.toList args.toList ds p := hA0
  rw [Tryd.params4] at hA hval hsz
  obtain ⟨v0, vs0, d0, ds0, p0, q0, hargs, rfl, rfl, h0, r0⟩ := trodAll_cons hA
  obtain ⟨rfl, rfl, rfl⟩ := trodAll_nil r0
  obtain rfl : args = #[v0] := by cases args; simp_all
  obtain ⟨rfl, rfl⟩ := trodVars_none hV
  have k0 := h0
  have lt0 : ∀ x ∈ p0, x.block < W.heap.size := by obtain ⟨m, hm⟩ := k0; exact DataW.trod_lt m _ _ _ hm
  obtain ⟨s0, a0, n0, c0, x0, rfl, l0, g0, y0, o0, b0, e0⟩ := arg_set (hval 0 35 v0 rfl rfl) h0 (fun k hk => by simpa using List.all_eq_true.1 hsz k (DataW.weights_mem_each (j := 0) rfl rfl k hk))
  clear hA0 hval0
  have hT : Tab64 W := by
    rw [MakeChecks.laidMetH_plain _ _ _ (by kernel_rfl)] at hL
    have hI := Lib.tabIs_of_head (k := .u8) (zs := tab64) (rest := [("internal/strconv.uint64pow10", Rows.laid_internal_strconv_uint64pow10)]) (show Tryd.prog.globalNamed "math/bits.deBruijn64tab" = some 0 by kernel_rfl) (show (Tryd.prog.globals[0]?).map (·.type) = some 115 by kernel_rfl) Tryd.underlying115 Tryd.underlying5 (by kernel_rfl) (by kernel_rfl) hL.tail
    intro j hj
    exact hI.cell (by kernel_rfl) j hj
  have hP : Lib.TabBelow Tryd.prog W.heap.size W "internal/strconv.uint64pow10" .u64 Lib.pow10Tab := by
    rw [MakeChecks.laidMetH_plain _ _ _ (by kernel_rfl)] at hL
    exact tabB (Lib.tabIs_of_head (k := .u64) (zs := Lib.pow10Tab) (rest := []) (show Tryd.prog.globalNamed "internal/strconv.uint64pow10" = some 1 by kernel_rfl) (show (Tryd.prog.globals[1]?).map (·.type) = some 122 by kernel_rfl) Tryd.underlying122 Tryd.underlying65 (by kernel_rfl) (by kernel_rfl) hL.tail.tail)
  refine (bitPrints_walk s0 a0 n0 c0 x0 W y0 o0 b0 e0 l0 g0 hT hP).mono fun e W' ⟨he, bel⟩ => ?_
  subst he
  exact ⟨_, rfl, _, _, _, [], _, [], hW', trodAll_mk1 (shut_bool Tryd.underlying4 _), (trodAll_cons_mk (Below.trod law_laid (by kernel_rfl) (of_decide_eq_true (by kernel_rfl)) k0 bel lt0) trodAll_mk0), rfl, bel.frame _, fun h => by cases h⟩

theorem bitPrints_row : Rows.BitPrintsSaid :=
  OpenClaim.holds_of_wide 4 Tryd.f4 rfl rfl rfl rfl rfl rfl rfl ⟨rfl, rfl, rfl, rfl, rfl⟩ rfl rfl rfl rfl rfl (by kernel_rfl) Tryd.func4 (by kernel_rfl)
    (of_decide_eq_true (by kernel_rfl)) (by unfold Func.isWrapper; first | (rw [if_pos (by decide +kernel)]; kernel_rfl) | (rw [if_neg (by decide +kernel)]; exact ⟨rfl, rfl⟩))
    (fun os started H enc _ => bitPrints_lifted os started H enc)

theorem bitPrints_holds : Rows.BitPrintsCardSaid :=
  Claim7.holds_tied_plain_at .later [] [.data, .data, .data] true Rows.bitPrintsCard.stood.harness false
    bitPrints_row (fun _ h => by cases h) (by kernel_rfl) (fun _ h => by cases h) bitPrints_row_tie rfl ⟨rfl, rfl⟩ (by kernel_rfl) rfl
    (fun f fn hf hfn => by
      obtain rfl : f = 4 := Option.some.inj ((show Tryd.prog.funcNamed "slope/slopelaw3.BitPrints" = some 4 by kernel_rfl).symm.trans hf) |>.symm
      obtain rfl : fn = Tryd.f4 := (Option.some.inj (Tryd.func4.symm.trans hfn)).symm
      exact ⟨by kernel_rfl, fun j t ht => by
        rw [Tryd.params4] at ht
        have hm : t ∈ [35] := by simpa using Array.mem_of_getElem? ht
        have hall : ([35].all fun u => !Tryd.prog.wantsStandIn u) = true := by kernel_rfl
        exact (show Tryd.prog.wantsStandIn t = false by simpa using List.all_eq_true.1 hall t hm)⟩)
    (by kernel_rfl)
#print axioms bitPrints_holds
end Go.Proofs.YtbendkndnojihabDoor
