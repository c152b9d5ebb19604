/-
  THE LAW NatParses: out of the contracts; the row's step.
-/
import Derived.Test.YtlecjjcpidjmhaaPa7
import Derived.Test.YtlecjjcpidjmhaaLawSt
import Derived.Test.YtlecjjcpidjmhaaOpen
import Derived.ChangeMaps5
namespace Go.Proofs.Ytlecjjcpidjmhaa
open Go.ChangeShapes Go.WideShapes Go.ChangeAt Go.RowKit Go.Deep
set_option linter.unusedVariables false
set_option maxHeartbeats 4000000 in
theorem natParses_walk (s : ByteArray) (b : Int) (w : World) :
    Calls Try.prog 3 #[.string s, .int .i64 b] w fun e w' => e = .returned (.bool true) ∧ Below w.heap.size w w' := by
  go_enter Try.func3, Try.ntmps3
  go_wp2_with fail
  refine (nparse_any s b w).mono ?_
  rintro _ w1 ⟨a1, n1, c1, x1, p1, e1, rfl, s1, b1, h1⟩
  have H1 := hide (And.intro s1 (And.intro b1 h1))
  clear s1 b1 h1
  go_wp2_with fail
  refine (rparse_any s b w1).mono ?_
  rintro _ w2 ⟨a2, n2, c2, x2, p2, e2, rfl, s2, b2, h2⟩
  obtain ⟨hx, hp, he⟩ := (unhide H1).2.2.uniq h2
  subst hx hp he
  have hb : Below w.heap.size w w2 := (unhide H1).2.1.trans (b2.mono (unhide H1).2.1.size)
  have H2 := hide (And.intro ((unhide H1).1.below b2) (And.intro s2 hb))
  clear s2 b2 h2 hb H1
  go_wp2_with fail
  refine (num_any _ _).mono ?_
  rintro _ _ ⟨rfl, hw⟩
  obtain rfl := hw.symm
  clear hw
  go_wp2_with fail
  refine (same_any a1 a2 n1 c1 n2 c2 x1 x1 w2 (unhide H2).1 (unhide H2).2.1).mono ?_
  rintro _ w3 ⟨rfl, k, rfl⟩
  rw [decide_eq_true (rfl : x1 = x1)]
  go_wp2
  go_ret
  exact ⟨rfl, bel_drewN (unhide H2).2.2 k⟩

set_option maxRecDepth 100000 in
theorem natParses_lifted (os : Os) (started : os.Started) (H : Type) (enc : TypeId × Value → H) :
    ReturnsInHanded {} Try.checked os 3 .any (Rows.natParsesSpec.pre6 enc Try.prog Try.f3 Rows.natParsesRow.domain false) (Rows.natParsesSpec.post enc Try.prog Try.f3 false true false false) := by
  refine returnsInHanded_of_change_sized (C := Try.checked) law_own started (by kernel_rfl) Try.func3
    (ChangeSpec.witness6 (enc := enc) (C := Try.checked) false ⟨#[], #[.string ByteArray.empty, .int .i64 0], []⟩ 8 (by kernel_rfl) (by kernel_rfl) (by kernel_rfl) (by kernel_rfl)) ?_
  intro W base args ds gs before hval0 hW hcnd hsz _
  have hval : ∀ (j : Nat) t v, Try.f3.params[j]? = some t → args[j]? = some v → Value.okWide Try.prog W .any base t v := hval0
  have hW' := hW
  obtain ⟨p, q, hA0, hV, rfl, hfz, hnd⟩ := hW
  have hA : DataW.TrodAll enc Try.prog W 0 (fun _ => true) true Try.f3.params.toList args.toList ds p := hA0
  rw [Try.params3] at hA hval hsz
  have r := hA
  obtain ⟨v0, vs0, d0, ds0, p0, q0, hargs, rfl, rfl, h0, r0⟩ := trodAll_cons hA
  obtain ⟨v1, vs1, d1, ds1, p1, q1, rfl, rfl, rfl, h1, r1⟩ := trodAll_cons r0
  obtain ⟨rfl, rfl, rfl⟩ := trodAll_nil r1
  obtain rfl : args = #[v0, v1] := by cases args; simp_all
  obtain ⟨rfl, rfl⟩ := trodVars_none hV
  obtain ⟨t0, rfl, rfl, rfl, w0⟩ := ChangeMaps.open_string Try.underlying9 (hval 0 9 v0 rfl rfl) h0
  obtain ⟨i1, rfl, rfl, rfl, w1⟩ := open_int Try.underlying3 (hval 1 3 v1 rfl rfl) h1
  clear hA0 hval0
  refine (natParses_walk t0 i1 W).mono fun e W' ⟨he, bel⟩ => ?_
  subst he
  exact ⟨_, rfl, _, _, _, [], _, [], hW', trodAll_mk1 (shut_bool Try.underlying4 _), (trodAll_cons_mk (ChangeMaps.shut_string Try.underlying9 w0) (trodAll_cons_mk (shut_int Try.underlying3 w1) trodAll_mk0)), rfl, bel.frame _, fun h => by cases h⟩

theorem natParses_holds : Rows.NatParsesSaid :=
  OpenClaim.holds_of_wide 3 Try.f3 rfl rfl rfl rfl rfl rfl rfl ⟨rfl, rfl, rfl, rfl, rfl⟩ rfl rfl rfl rfl rfl (by kernel_rfl) Try.func3 (by kernel_rfl)
    (of_decide_eq_true (by kernel_rfl)) (by unfold Func.isWrapper; first | (rw [if_pos (by decide +kernel)]; kernel_rfl) | (rw [if_neg (by decide +kernel)]; exact ⟨rfl, rfl⟩))
    (fun os started H enc _ => natParses_lifted os started H enc)
#print axioms natParses_holds
end Go.Proofs.Ytlecjjcpidjmhaa
