/-
  THE LAW NatPrints: out of the contracts; the row's step.
-/
import Derived.Test.YtlecjjcpidjmhaaOpen
import Derived.Test.YtlecjjcpidjmhaaPr9
namespace Go.Proofs.Ytlecjjcpidjmhaa
open Go.ChangeShapes Go.WideShapes Go.ChangeAt Go.RowKit Go.Deep
set_option linter.unusedVariables false

set_option maxHeartbeats 4000000 in
theorem natPrints_walk (a1 : Option Addr) (n1 c1 : Nat) (xs : List Nat) (k : Int) (w : World) (h1 : Sl w a1 n1 c1 xs) (ox : Ok xs) (hb1 : n1 ≤ 35184372088000) :
    Calls Try.prog 4 #[.slice a1 n1 c1, .int .i64 k] w fun e w' => e = .returned (.bool true) ∧ Below w.heap.size w w' := by
  have HS0 := hide (LawSt.begin (w := w) (L := [⟨a1, n1, c1, xs⟩]) _ rfl (by intro p hp; simp at hp; subst hp; exact h1))
  clear h1
  go_enter Try.func4, Try.ntmps4
  go_wp2_with fail
  refine ((unhide HS0).nat ⟨a1, n1, c1, xs⟩ (by simp) hb1 (by simp)).mono ?_
  rintro e w1 ⟨v01, v11, E1, rfl, hst⟩
  have HS1 := hide hst
  clear hst HS0
  go_wp2_with fail
  refine (nprint_any (some ⟨E1.b, 0, none⟩) n1 (E1.c) xs k _ ((unhide HS1).sl ⟨some ⟨E1.b, 0, none⟩, n1, E1.c, xs⟩ (by simp)) ox).mono ?_
  rintro _ wp ⟨s1, e1, rfl, hi1, hb⟩
  have HI := hide hi1
  have HSp := hide ((unhide HS1).keep hb)
  clear hb hi1 HS1
  go_wp2_with fail
  refine (rprint_any a1 n1 c1 xs k _ ((unhide HSp).sl ⟨a1, n1, c1, xs⟩ (by simp)) ox).mono ?_
  rintro _ wr ⟨s2, e2, rfl, hi2, hb⟩
  obtain ⟨hs2, he2⟩ := (unhide HI).uniq hi2
  subst hs2 he2
  have HSr := hide ((unhide HSp).keep hb)
  clear hb hi2 HI HSp
  go_wp2_with fail
  refine (num_any _ _).mono ?_
  rintro e w' ⟨rfl, hw⟩
  obtain rfl := hw.symm
  go_wp2_with fail
  refine ((unhide HSr).intact).mono ?_
  rintro e w2 ⟨rfl, hst⟩
  have HS2 := hide hst
  clear hst HSr
  go_wp2
  go_ret
  exact ⟨rfl, (unhide HS2).bel⟩

set_option maxRecDepth 100000 in
theorem natPrints_lifted (os : Os) (started : os.Started) (H : Type) (enc : TypeId × Value → H) :
    ReturnsInHanded {} Try.checked os 4 .any (Rows.natPrintsSpec.pre6 enc Try.prog Try.f4 Rows.natPrintsRow.domain false) (Rows.natPrintsSpec.post enc Try.prog Try.f4 false true false false) := by
  refine returnsInHanded_of_change_sized (C := Try.checked) law_own started (by kernel_rfl) Try.func4
    (ChangeSpec.witness6 (enc := enc) (C := Try.checked) false ⟨#[], #[.slice none 0 0, .int .i64 0], []⟩ 8 (by kernel_rfl) (by kernel_rfl) (by kernel_rfl) (by kernel_rfl)) ?_
  intro W base args ds gs before hval0 hW hcnd hsz _
  have hval : ∀ (j : Nat) t v, Try.f4.params[j]? = some t → args[j]? = some v → Value.okWide Try.prog W .any base t v := hval0
  have hW' := hW
  obtain ⟨p, q, hA0, hV, rfl, hfz, hnd⟩ := hW
  have hA : DataW.TrodAll enc Try.prog W 0 (fun _ => true) true Try.f4.params.toList args.toList ds p := hA0
  rw [Try.params4] at hA hval hsz
  have r := hA
  obtain ⟨v0, vs0, d0, ds0, p0, q0, hargs, rfl, rfl, h0, r0⟩ := trodAll_cons hA
  obtain ⟨v1, vs1, d1, ds1, p1, q1, rfl, rfl, rfl, h1, r1⟩ := trodAll_cons r0
  obtain ⟨rfl, rfl, rfl⟩ := trodAll_nil r1
  obtain rfl : args = #[v0, v1] := by cases args; simp_all
  obtain ⟨rfl, rfl⟩ := trodVars_none hV
  obtain ⟨a0, n0, c0, rfl⟩ := okWide_slice Try.underlying23 (hval 0 23 v0 rfl rfl)
  have k0 := h0
  have lt0 : ∀ x ∈ p0, x.block < W.heap.size := by obtain ⟨m, hm⟩ := k0; exact DataW.trod_lt m _ _ _ hm
  obtain ⟨x0, s0, o0, b0⟩ := arg_limbs h0 (fun el sp e => by subst e; exact sized_slice (j := 0) hsz rfl rfl Try.underlying23)
  obtain ⟨i1, rfl, rfl, rfl, w1⟩ := open_int Try.underlying3 (hval 1 3 v1 rfl rfl) h1
  clear hA0 hval0
  refine (natPrints_walk a0 n0 c0 x0 i1 W s0 o0 b0).mono fun e W' ⟨he, bel⟩ => ?_
  subst he
  exact ⟨_, rfl, _, _, _, [], _, [], hW', trodAll_mk1 (shut_bool Try.underlying4 _), (trodAll_cons_mk (Below.trod law_laid (by kernel_rfl) (of_decide_eq_true (by kernel_rfl)) k0 bel lt0) (trodAll_cons_mk (shut_int Try.underlying3 w1) trodAll_mk0)), rfl, bel.frame _, fun h => by cases h⟩

theorem natPrints_holds : Rows.NatPrintsSaid :=
  OpenClaim.holds_of_wide 4 Try.f4 rfl rfl rfl rfl rfl rfl rfl ⟨rfl, rfl, rfl, rfl, rfl⟩ rfl rfl rfl rfl rfl (by kernel_rfl) Try.func4 (by kernel_rfl)
    (of_decide_eq_true (by kernel_rfl)) (by unfold Func.isWrapper; first | (rw [if_pos (by decide +kernel)]; kernel_rfl) | (rw [if_neg (by decide +kernel)]; exact ⟨rfl, rfl⟩))
    (fun os started H enc _ => natPrints_lifted os started H enc)
#print axioms natPrints_holds
end Go.Proofs.Ytlecjjcpidjmhaa
