/-
  THE LAW NatMay: out of the contracts; the row's step.
-/
import Derived.Test.YtokgcpnnbajlkaaDoorOpen
import Derived.Test.YtokgcpnnbajlkaaDoorMy3
import Derived.Test.YtokgcpnnbajlkaaDoorCards
import Derived.Test.YtokgcpnnbajlkaaDoorTie
import Derived.SevenTiedAt
import Derived.LaidMore
import Derived.Stop.Joined
import Derived.Lib.LaidTab
namespace Go.Proofs.YtokgcpnnbajlkaaDoor
open Go.ChangeShapes Go.WideShapes Go.ChangeAt Go.RowKit Go.Deep
set_option linter.unusedVariables false

set_option maxHeartbeats 8000000 in
theorem natMay_walk (a1 : Option Addr) (n1 c1 : Nat) (xs : List Nat) (i : Int) (w : World) (h1 : Sl w a1 n1 c1 xs) (ox : Ok xs) (hb1 : n1 ≤ 35184372088000) (hi : i ≤ 9223372036854775807) (hT : Tab32 w) :
    Calls Tryd.prog 3 #[.slice a1 n1 c1, .int .i64 i] w fun e w' => e = .returned (.bool true) ∧ Below w.heap.size w w' := by
  have HS0 := hide (LawSt.begin (w := w) (L := [⟨a1, n1, c1, xs⟩]) _ rfl (by intro p hp; simp at hp; subst hp; exact h1))
  have HT := hide hT
  clear h1 hT
  go_enter Tryd.func3, Tryd.ntmps3
  go_wp2_with fail
  refine ((unhide HS0).nat ⟨a1, n1, c1, xs⟩ (by simp) hb1 (by simp)).mono ?_
  rintro e w1 ⟨v01, v11, E1, rfl, hst⟩
  have HS1 := hide hst
  clear hst HS0
  go_wp2_with fail
  refine (nuint_all (some ⟨E1.b, 0, none⟩) n1 (E1.c) xs _ ((unhide HS1).sl ⟨some ⟨E1.b, 0, none⟩, n1, E1.c, xs⟩ (by simp)) ox).mono ?_
  rintro e w' ⟨rfl, hw⟩
  obtain rfl := hw.symm
  clear hw
  go_wp2_with fail
  refine (ruint_all (a1) n1 (c1) xs _ ((unhide HS1).sl ⟨a1, n1, c1, xs⟩ (by simp)) ox).mono ?_
  rintro e w' ⟨rfl, hw⟩
  obtain rfl := hw.symm
  clear hw
  go_wp2_with fail
  refine ((unhide HS1).nat ⟨a1, n1, c1, xs⟩ (by simp) hb1 (by simp)).mono ?_
  rintro e w2 ⟨v02, v12, E2, rfl, hst⟩
  have HS2 := hide hst
  clear hst HS1
  go_wp2_with fail
  refine (may_any (some ⟨E2.b, 0, none⟩) n1 (E2.c) xs _ ((unhide HS2).sl ⟨some ⟨E2.b, 0, none⟩, n1, E2.c, xs⟩ (by simp))).mono ?_
  rintro e w' ⟨rfl, hw⟩
  obtain rfl := hw.symm
  clear hw
  go_wp2_with fail
  refine (rmay_any (a1) n1 (c1) xs _ ((unhide HS2).sl ⟨a1, n1, c1, xs⟩ (by simp))).mono ?_
  rintro e w' ⟨rfl, hw⟩
  obtain rfl := hw.symm
  clear hw
  go_wp2_with fail
  refine ((unhide HS2).nat ⟨a1, n1, c1, xs⟩ (by simp) hb1 (by simp)).mono ?_
  rintro e w3 ⟨v03, v13, E3, rfl, hst⟩
  have HS3 := hide hst
  clear hst HS2
  go_wp2_with fail
  refine (nbits_all (some ⟨E3.b, 0, none⟩) n1 (E3.c) xs _ ((unhide HS3).sl ⟨some ⟨E3.b, 0, none⟩, n1, E3.c, xs⟩ (by simp)) ox).mono ?_
  rintro e w' ⟨rfl, hw⟩
  obtain rfl := hw.symm
  clear hw
  go_wp2_with fail
  refine (rbits_all (a1) n1 (c1) xs _ ((unhide HS3).sl ⟨a1, n1, c1, xs⟩ (by simp)) ox).mono ?_
  rintro e w' ⟨rfl, hw⟩
  obtain rfl := hw.symm
  clear hw
  go_wp2_with fail
  refine ((unhide HS3).nat ⟨a1, n1, c1, xs⟩ (by simp) hb1 (by simp)).mono ?_
  rintro e w4 ⟨v04, v14, E4, rfl, hst⟩
  have HS4 := hide hst
  clear hst HS3
  go_wp2_with fail
  refine ((unhide HS4).quiet (nones_all (some ⟨E4.b, 0, none⟩) n1 (E4.c) xs _ ((unhide HS4).sl ⟨some ⟨E4.b, 0, none⟩, n1, E4.c, xs⟩ (by simp)) ox)).mono ?_
  rintro e w5 ⟨rfl, hst⟩
  have HS5 := hide hst
  clear hst HS4
  go_wp2_with fail
  refine (rones_all (a1) n1 (c1) xs _ ((unhide HS5).sl ⟨a1, n1, c1, xs⟩ (by simp)) ox).mono ?_
  rintro e w' ⟨rfl, hw⟩
  obtain rfl := hw.symm
  clear hw
  go_wp2_with fail
  refine ((unhide HS5).nat ⟨a1, n1, c1, xs⟩ (by simp) hb1 (by simp)).mono ?_
  rintro e w6 ⟨v06, v16, E6, rfl, hst⟩
  have HS6 := hide hst
  clear hst HS5
  go_wp2_with fail
  refine (ntail_all (some ⟨E6.b, 0, none⟩) n1 (E6.c) xs _ ((unhide HS6).sl ⟨some ⟨E6.b, 0, none⟩, n1, E6.c, xs⟩ (by simp)) ox ((unhide HT).below (unhide HS6).bel)).mono ?_
  rintro e w7 ⟨tt, hbtt, hItt, rfl, kk, hw⟩
  have Htt := hide hItt
  have HS7 := hide (show LawSt w7 _ _ _ _ _ _ from by rw [hw]; exact (unhide HS6).drewN kk)
  clear hw hItt HS6
  go_wp2_with fail
  refine (rtail_all (a1) n1 (c1) xs _ ((unhide HS7).sl ⟨a1, n1, c1, xs⟩ (by simp)) ox).mono ?_
  rintro e w8 ⟨ts, hbts, hIts, rfl, kk, hw⟩
  have Hts := hide hIts
  have HS8 := hide (show LawSt w8 _ _ _ _ _ _ from by rw [hw]; exact (unhide HS7).drewN kk)
  clear hw hIts HS7
  obtain rfl : tt = ts := (unhide Htt).unique (unhide Hts)
  clear Htt Hts
  go_wp2_with fail
  refine ((unhide HS8).nat ⟨a1, n1, c1, xs⟩ (by simp) hb1 (by simp)).mono ?_
  rintro e w9 ⟨v09, v19, E9, rfl, hst⟩
  have HS9 := hide hst
  clear hst HS8
  go_wp2_with fail
  refine (nbit_all (some ⟨E9.b, 0, none⟩) n1 (E9.c) xs i _ ((unhide HS9).sl ⟨some ⟨E9.b, 0, none⟩, n1, E9.c, xs⟩ (by simp)) ox hi).mono ?_
  rintro e w' ⟨rfl, hw⟩
  obtain rfl := hw.symm
  clear hw
  go_wp2_with fail
  refine (rbit_all (a1) n1 (c1) xs i _ ((unhide HS9).sl ⟨a1, n1, c1, xs⟩ (by simp)) ox hi).mono ?_
  rintro e w' ⟨rfl, hw⟩
  obtain rfl := hw.symm
  clear hw
  go_wp2_with fail
  refine ((unhide HS9).intact).mono ?_
  rintro e w10 ⟨rfl, hst⟩
  have HS10 := hide hst
  clear hst HS9
  go_wp2
  go_ret
  exact ⟨rfl, (unhide HS10).bel⟩

theorem natMay_door (os : Os) (args : Array Value) : laidMetH Tryd.prog [("math/bits.deBruijn32tab", Rows.laid_math_bits_deBruijn32tab)] ((World.doorLaid Tryd.prog 400 os).forCall (fun _ _ => 0) ⟨#[], args, []⟩).memory :=
  laidMetH_of_parts3 (fuel := 8) (laidMet_of_run' 8 (by kernel_rfl) (by kernel_rfl)) (by kernel_rfl) (by kernel_rfl)

set_option maxRecDepth 100000 in
theorem natMay_lifted (os : Os) (started : os.Started) (H : Type) (enc : TypeId × Value → H) :
    ReturnsInHanded {} Tryd.checked os 3 .any (fun w args => (Rows.natMaySpec.pre enc Tryd.prog Tryd.f3 [] false w args ∧ laidMetH Tryd.prog [("math/bits.deBruijn32tab", Rows.laid_math_bits_deBruijn32tab)] w) ∧ sizedMet enc Tryd.prog Tryd.f3 (OpenSpec.ofChange Rows.natMaySpec) false w args) (Rows.natMaySpec.post enc Tryd.prog Tryd.f3 false true false false) := by
  refine returnsInHanded_of_change_and (C := Tryd.checked) (X := fun w _ => laidMetH Tryd.prog [("math/bits.deBruijn32tab", Rows.laid_math_bits_deBruijn32tab)] w) (fun _ _ _ hh h => h.of_heap hh) law_own started (by kernel_rfl) Tryd.func3
    (ChangeSpec.witness_shaped (enc := enc) (C := Tryd.checked) (os := os) (X := fun w _ => laidMetH Tryd.prog [("math/bits.deBruijn32tab", Rows.laid_math_bits_deBruijn32tab)] w) false (World.doorLaid Tryd.prog 400 os) #[.slice none 0 0, .int .i64 0] 8 rfl (World.shaped_of_RefB (by kernel_rfl) (by kernel_rfl)) (by kernel_rfl) (by kernel_rfl) (by kernel_rfl) (natMay_door os _)) ?_
  intro W base args ds gs before hval0 hW hcnd hsz hL _
  have hval : ∀ (j : Nat) t v, Tryd.f3.params[j]? = some t → args[j]? = some v → Value.okWide Tryd.prog W .any base t v := hval0
  have hW' := hW
  obtain ⟨p, q, hA0, hV, rfl, hfz, hnd⟩ := hW
  have hA : DataW.TrodAll enc Tryd.prog W 0 (fun _ => true) true Tryd.f3.params.toList args.toList ds p := hA0
  rw [Tryd.params3] at hA hval hsz
  have r := hA
  obtain ⟨v0, vs0, d0, ds0, p0, q0, hargs, rfl, rfl, h0, r0⟩ := trodAll_cons hA
  obtain ⟨v1, vs1, d1, ds1, p1, q1, rfl, rfl, rfl, h1, r1⟩ := trodAll_cons r0
  obtain ⟨rfl, rfl, rfl⟩ := trodAll_nil r1
  obtain rfl : args = #[v0, v1] := by cases args; simp_all
  obtain ⟨rfl, rfl⟩ := trodVars_none hV
  obtain ⟨a0, n0, c0, rfl⟩ := okWide_slice Tryd.underlying23 (hval 0 23 v0 rfl rfl)
  have k0 := h0
  have lt0 : ∀ x ∈ p0, x.block < W.heap.size := by obtain ⟨m, hm⟩ := k0; exact DataW.trod_lt m _ _ _ hm
  obtain ⟨x0, s0, o0, b0⟩ := arg_limbs h0 (fun el sp e => by subst e; exact sized_slice (j := 0) hsz rfl rfl Tryd.underlying23)
  obtain ⟨i1, rfl, rfl, rfl, w1⟩ := open_int Tryd.underlying3 (hval 1 3 v1 rfl rfl) h1
  clear hA0 hval0
  have hi := (bounds_i64 w1).2
  have hT : Tab32 W := by
    rw [MakeChecks.laidMetH_plain _ _ _ (by kernel_rfl)] at hL
    have hI := Lib.tabIs_of_head (k := .u8) (zs := tab32) (rest := []) (show Tryd.prog.globalNamed "math/bits.deBruijn32tab" = some 0 by kernel_rfl) (show (Tryd.prog.globals[0]?).map (·.type) = some 62 by kernel_rfl) Tryd.underlying62 Tryd.underlying5 (by kernel_rfl) (by kernel_rfl) hL
    intro j hj
    exact hI.cell (by kernel_rfl) j hj
  refine (natMay_walk a0 n0 c0 x0 i1 W s0 o0 b0 hi hT).mono fun e W' ⟨he, bel⟩ => ?_
  subst he
  exact ⟨_, rfl, _, _, _, [], _, [], hW', trodAll_mk1 (shut_bool Tryd.underlying4 _), (trodAll_cons_mk (Below.trod law_laid (by kernel_rfl) (of_decide_eq_true (by kernel_rfl)) k0 bel lt0) (trodAll_cons_mk (shut_int Tryd.underlying3 w1) trodAll_mk0)), rfl, bel.frame _, fun h => by cases h⟩

theorem natMay_row : Rows.NatMaySaid :=
  OpenClaim.holds_of_wide 3 Tryd.f3 rfl rfl rfl rfl rfl rfl rfl ⟨rfl, rfl, rfl, rfl, rfl⟩ rfl rfl rfl rfl rfl (by kernel_rfl) Tryd.func3 (by kernel_rfl)
    (of_decide_eq_true (by kernel_rfl)) (by unfold Func.isWrapper; first | (rw [if_pos (by decide +kernel)]; kernel_rfl) | (rw [if_neg (by decide +kernel)]; exact ⟨rfl, rfl⟩))
    (fun os started H enc _ => natMay_lifted os started H enc)

theorem natMay_holds : Rows.NatMayCardSaid :=
  Claim7.holds_tied_plain_at .later [] [.data] true Rows.natMayCard.stood.harness false
    natMay_row (fun _ h => by cases h) (by kernel_rfl) (fun _ h => by cases h) natMay_row_tie rfl ⟨rfl, rfl⟩ (by kernel_rfl) rfl
    (fun f fn hf hfn => by
      obtain rfl : f = 3 := Option.some.inj ((show Tryd.prog.funcNamed "slope/slopelaw1.NatMay" = some 3 by kernel_rfl).symm.trans hf) |>.symm
      obtain rfl : fn = Tryd.f3 := (Option.some.inj (Tryd.func3.symm.trans hfn)).symm
      exact ⟨by kernel_rfl, fun j t ht => by
        rw [Tryd.params3] at ht
        have hm : t ∈ [23, 3] := by simpa using Array.mem_of_getElem? ht
        have hall : ([23, 3].all fun u => !Tryd.prog.wantsStandIn u) = true := by kernel_rfl
        exact (show Tryd.prog.wantsStandIn t = false by simpa using List.all_eq_true.1 hall t hm)⟩)
    (by kernel_rfl)
#print axioms natMay_holds
end Go.Proofs.YtokgcpnnbajlkaaDoor
