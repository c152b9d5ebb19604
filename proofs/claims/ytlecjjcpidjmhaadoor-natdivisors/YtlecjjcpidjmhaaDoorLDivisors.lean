/-
  THE LAW NatDivisors: out of the contracts; the row's step.
-/
import Derived.Test.YtlecjjcpidjmhaaDoorOpen
import Derived.Test.YtlecjjcpidjmhaaDoorGi
import Derived.Test.YtlecjjcpidjmhaaDoorCards
import Derived.Test.YtlecjjcpidjmhaaDoorTie
import Derived.SevenTiedAt
import Derived.LaidMore
import Derived.Stop.Joined
import Derived.Lib.LaidTab
namespace Go.Proofs.YtlecjjcpidjmhaaDoor
open Go.ChangeShapes Go.WideShapes Go.ChangeAt Go.RowKit Go.Deep
set_option linter.unusedVariables false

set_option maxHeartbeats 8000000 in
theorem natDivisors_walk (a1 a2 : Option Addr) (n1 c1 n2 c2 : Nat) (xs ys : List Nat) (w : World) (h1 : Sl w a1 n1 c1 xs) (h2 : Sl w a2 n2 c2 ys) (ox : Ok xs) (oy : Ok ys) (hb1 : n1 ≤ 35184372088000) (hb2 : n2 ≤ 35184372088000) (hT : Tab64 w) :
    Calls Tryd.prog 4 #[.slice a1 n1 c1, .slice a2 n2 c2] w fun e w' => e = .returned (.bool true) ∧ Below w.heap.size w w' := by
  have HS0 := hide (LawSt.begin (w := w) (L := [⟨a1, n1, c1, xs⟩, ⟨a2, n2, c2, ys⟩]) _ rfl (by intro p hp; simp at hp; rcases hp with rfl | rfl <;> assumption))
  have HT := hide hT
  clear h1 h2 hT
  go_enter Tryd.func4, Tryd.ntmps4
  go_wp2_with fail
  refine ((unhide HS0).nat ⟨a1, n1, c1, xs⟩ (by simp) hb1 (by simp)).mono ?_
  rintro e w1 ⟨v01, v11, E1, rfl, hst⟩
  have HS1 := hide hst
  clear hst HS0
  go_wp2_with fail
  refine ((unhide HS1).nat ⟨a2, n2, c2, ys⟩ (by simp) hb2 (by simp)).mono ?_
  rintro e w2 ⟨v02, v12, E2, rfl, hst⟩
  have HS2 := hide hst
  clear hst HS1
  go_wp2_with fail
  refine (ngcd_any (some ⟨E1.b, 0, none⟩) (some ⟨E2.b, 0, none⟩) n1 (E1.c) n2 (E2.c) xs ys _ ((unhide HS2).sl ⟨some ⟨E1.b, 0, none⟩, n1, E1.c, xs⟩ (by simp)) ((unhide HS2).sl ⟨some ⟨E2.b, 0, none⟩, n2, E2.c, ys⟩ (by simp)) ox oy ((unhide HT).below (unhide HS2).bel)).mono ?_
  intro e w3 hres
  obtain ⟨a3, m3, c3, rfl, hst⟩ := (unhide HS2).res2 hres
  have HS3 := hide hst
  clear hst hres HS2
  go_wp2_with fail
  refine (rgcd_any (a1) (a2) n1 (c1) n2 (c2) xs ys _ ((unhide HS3).sl ⟨a1, n1, c1, xs⟩ (by simp)) ((unhide HS3).sl ⟨a2, n2, c2, ys⟩ (by simp)) ox oy).mono ?_
  intro e w4 hres
  obtain ⟨a4, m4, c4, rfl, hst⟩ := (unhide HS3).res2 hres
  have HS4 := hide hst
  clear hst hres HS3
  go_wp2_with fail
  refine ((unhide HS4).nat ⟨a1, n1, c1, xs⟩ (by simp) hb1 (by simp)).mono ?_
  rintro e w5 ⟨v05, v15, E5, rfl, hst⟩
  have HS5 := hide hst
  clear hst HS4
  go_wp2_with fail
  refine ((unhide HS5).nat ⟨a2, n2, c2, ys⟩ (by simp) hb2 (by simp)).mono ?_
  rintro e w6 ⟨v06, v16, E6, rfl, hst⟩
  have HS6 := hide hst
  clear hst HS5
  go_wp2_with fail
  refine (nlcm_any (some ⟨E5.b, 0, none⟩) (some ⟨E6.b, 0, none⟩) n1 (E5.c) n2 (E6.c) xs ys _ ((unhide HS6).sl ⟨some ⟨E5.b, 0, none⟩, n1, E5.c, xs⟩ (by simp)) ((unhide HS6).sl ⟨some ⟨E6.b, 0, none⟩, n2, E6.c, ys⟩ (by simp)) ox oy ((unhide HT).below (unhide HS6).bel)).mono ?_
  intro e w7 hres
  obtain ⟨a7, m7, c7, rfl, hst⟩ := (unhide HS6).res2 hres
  have HS7 := hide hst
  clear hst hres HS6
  go_wp2_with fail
  refine (rlcm_any (a1) (a2) n1 (c1) n2 (c2) xs ys _ ((unhide HS7).sl ⟨a1, n1, c1, xs⟩ (by simp)) ((unhide HS7).sl ⟨a2, n2, c2, ys⟩ (by simp)) ox oy).mono ?_
  intro e w8 hres
  obtain ⟨a8, m8, c8, rfl, hst⟩ := (unhide HS7).res2 hres
  have HS8 := hide hst
  clear hst hres HS7
  go_wp2_with fail
  refine (num_any _ _).mono ?_
  rintro e w' ⟨rfl, hw⟩
  obtain rfl := hw.symm
  go_wp2_with fail
  refine (num_any _ _).mono ?_
  rintro e w' ⟨rfl, hw⟩
  obtain rfl := hw.symm
  go_wp2_with fail
  refine ((unhide HS8).same ⟨a3, m3, c3, (gcdL xs ys).1⟩ ⟨a4, m4, c4, (gcdL xs ys).1⟩ (by simp) (by simp) rfl).mono ?_
  rintro e w9 ⟨rfl, hst⟩
  have HS9 := hide hst
  clear hst HS8
  go_wp2_with fail
  refine ((unhide HS9).same ⟨a7, m7, c7, (lcmL xs ys).1⟩ ⟨a8, m8, c8, (lcmL xs ys).1⟩ (by simp) (by simp) rfl).mono ?_
  rintro e w10 ⟨rfl, hst⟩
  have HS10 := hide hst
  clear hst HS9
  go_wp2_with fail
  refine ((unhide HS10).intact).mono ?_
  rintro e w11 ⟨rfl, hst⟩
  have HS11 := hide hst
  clear hst HS10
  go_wp2
  go_ret
  exact ⟨rfl, (unhide HS11).bel⟩

theorem natDivisors_door (os : Os) (args : Array Value) : laidMetH Tryd.prog [("math/bits.deBruijn64tab", Rows.laid_math_bits_deBruijn64tab)] ((World.doorLaid Tryd.prog 400 os).forCall (fun _ _ => 0) ⟨#[], args, []⟩).memory :=
  laidMetH_of_parts3 (fuel := 8) (laidMet_of_run' 8 (by kernel_rfl) (by kernel_rfl)) (by kernel_rfl) (by kernel_rfl)

set_option maxRecDepth 100000 in
theorem natDivisors_lifted (os : Os) (started : os.Started) (H : Type) (enc : TypeId × Value → H) :
    ReturnsInHanded {} Tryd.checked os 4 .any (fun w args => (Rows.natDivisorsSpec.pre enc Tryd.prog Tryd.f4 [] false w args ∧ laidMetH Tryd.prog [("math/bits.deBruijn64tab", Rows.laid_math_bits_deBruijn64tab)] w) ∧ sizedMet enc Tryd.prog Tryd.f4 (OpenSpec.ofChange Rows.natDivisorsSpec) false w args) (Rows.natDivisorsSpec.post enc Tryd.prog Tryd.f4 false true false false) := by
  refine returnsInHanded_of_change_and (C := Tryd.checked) (X := fun w _ => laidMetH Tryd.prog [("math/bits.deBruijn64tab", Rows.laid_math_bits_deBruijn64tab)] w) (fun _ _ _ hh h => h.of_heap hh) law_own started (by kernel_rfl) Tryd.func4
    (ChangeSpec.witness_shaped (enc := enc) (C := Tryd.checked) (os := os) (X := fun w _ => laidMetH Tryd.prog [("math/bits.deBruijn64tab", Rows.laid_math_bits_deBruijn64tab)] w) false (World.doorLaid Tryd.prog 400 os) #[.slice none 0 0, .slice none 0 0] 8 rfl (World.shaped_of_RefB (by kernel_rfl) (by kernel_rfl)) (by kernel_rfl) (by kernel_rfl) (by kernel_rfl) (natDivisors_door os _)) ?_
  intro W base args ds gs before hval0 hW hcnd hsz hL _
  have hval : ∀ (j : Nat) t v, Tryd.f4.params[j]? = some t → args[j]? = some v → Value.okWide Tryd.prog W .any base t v := hval0
  have hW' := hW
  obtain ⟨p, q, hA0, hV, rfl, hfz, hnd⟩ := hW
  have hA : DataW.TrodAll enc Tryd.prog W 0 (fun _ => true) true Tryd.f4.params.toList args.toList ds p := hA0
  rw [Tryd.params4] at hA hval hsz
  have r := hA
  obtain ⟨v0, vs0, d0, ds0, p0, q0, hargs, rfl, rfl, h0, r0⟩ := trodAll_cons hA
  obtain ⟨v1, vs1, d1, ds1, p1, q1, rfl, rfl, rfl, h1, r1⟩ := trodAll_cons r0
  obtain ⟨rfl, rfl, rfl⟩ := trodAll_nil r1
  obtain rfl : args = #[v0, v1] := by cases args; simp_all
  obtain ⟨rfl, rfl⟩ := trodVars_none hV
  obtain ⟨a0, n0, c0, rfl⟩ := okWide_slice Tryd.underlying23 (hval 0 23 v0 rfl rfl)
  have k0 := h0
  have lt0 : ∀ x ∈ p0, x.block < W.heap.size := by obtain ⟨m, hm⟩ := k0; exact DataW.trod_lt m _ _ _ hm
  obtain ⟨x0, s0, o0, b0⟩ := arg_limbs h0 (fun el sp e => by subst e; exact sized_slice (j := 0) hsz rfl rfl Tryd.underlying23)
  obtain ⟨a1, n1, c1, rfl⟩ := okWide_slice Tryd.underlying23 (hval 1 23 v1 rfl rfl)
  have k1 := h1
  have lt1 : ∀ x ∈ p1, x.block < W.heap.size := by obtain ⟨m, hm⟩ := k1; exact DataW.trod_lt m _ _ _ hm
  obtain ⟨x1, s1, o1, b1⟩ := arg_limbs h1 (fun el sp e => by subst e; exact sized_slice (j := 1) hsz rfl rfl Tryd.underlying23)
  clear hA0 hval0
  have hT : Tab64 W := by
    rw [MakeChecks.laidMetH_plain _ _ _ (by kernel_rfl)] at hL
    have hI := Lib.tabIs_of_head (k := .u8) (zs := tab64) (rest := []) (show Tryd.prog.globalNamed "math/bits.deBruijn64tab" = some 0 by kernel_rfl) (show (Tryd.prog.globals[0]?).map (·.type) = some 142 by kernel_rfl) Tryd.underlying142 Tryd.underlying5 (by kernel_rfl) (by kernel_rfl) hL
    intro j hj
    exact hI.cell (by kernel_rfl) j hj
  refine (natDivisors_walk a0 a1 n0 c0 n1 c1 x0 x1 W s0 s1 o0 o1 b0 b1 hT).mono fun e W' ⟨he, bel⟩ => ?_
  subst he
  exact ⟨_, rfl, _, _, _, [], _, [], hW', trodAll_mk1 (shut_bool Tryd.underlying4 _), (trodAll_cons_mk (Below.trod law_laid (by kernel_rfl) (of_decide_eq_true (by kernel_rfl)) k0 bel lt0) (trodAll_cons_mk (Below.trod law_laid (by kernel_rfl) (of_decide_eq_true (by kernel_rfl)) k1 bel lt1) trodAll_mk0)), rfl, bel.frame _, fun h => by cases h⟩

theorem natDivisors_row : Rows.NatDivisorsSaid :=
  OpenClaim.holds_of_wide 4 Tryd.f4 rfl rfl rfl rfl rfl rfl rfl ⟨rfl, rfl, rfl, rfl, rfl⟩ rfl rfl rfl rfl rfl (by kernel_rfl) Tryd.func4 (by kernel_rfl)
    (of_decide_eq_true (by kernel_rfl)) (by unfold Func.isWrapper; first | (rw [if_pos (by decide +kernel)]; kernel_rfl) | (rw [if_neg (by decide +kernel)]; exact ⟨rfl, rfl⟩))
    (fun os started H enc _ => natDivisors_lifted os started H enc)

theorem natDivisors_holds : Rows.NatDivisorsCardSaid :=
  Claim7.holds_tied_plain_at .later [] [.data] true Rows.natDivisorsCard.stood.harness false
    natDivisors_row (fun _ h => by cases h) (by kernel_rfl) (fun _ h => by cases h) natDivisors_row_tie rfl ⟨rfl, rfl⟩ (by kernel_rfl) rfl
    (fun f fn hf hfn => by
      obtain rfl : f = 4 := Option.some.inj ((show Tryd.prog.funcNamed "slope/slopelaw1.NatDivisors" = some 4 by kernel_rfl).symm.trans hf) |>.symm
      obtain rfl : fn = Tryd.f4 := (Option.some.inj (Tryd.func4.symm.trans hfn)).symm
      exact ⟨by kernel_rfl, fun j t ht => by
        rw [Tryd.params4] at ht
        have hm : t ∈ [23, 23] := by simpa using Array.mem_of_getElem? ht
        have hall : ([23, 23].all fun u => !Tryd.prog.wantsStandIn u) = true := by kernel_rfl
        exact (show Tryd.prog.wantsStandIn t = false by simpa using List.all_eq_true.1 hall t hm)⟩)
    (by kernel_rfl)
#print axioms natDivisors_holds
end Go.Proofs.YtlecjjcpidjmhaaDoor
