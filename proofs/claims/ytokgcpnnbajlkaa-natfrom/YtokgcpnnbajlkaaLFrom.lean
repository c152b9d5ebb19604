/-
  THE LAW NatFrom: out of the contracts; the row's step.
-/
import Derived.Test.YtokgcpnnbajlkaaFrom
import Derived.ProofKit
import Derived.OpenShut
import Derived.ShutString
import Derived.ChangeOld
import Derived.Below
namespace Go.Proofs.Ytokgcpnnbajlkaa
open Go.ChangeShapes Go.WideShapes Go.ChangeAt Go.RowKit Go.Deep
set_option linter.unusedVariables false

set_option maxHeartbeats 800000 in
theorem natFrom_walk (v : Nat) (hv : v < 18446744073709551616) (w : World) :
    Calls Try.prog 3 #[.int .u64 (v : Nat)] w fun e w' => e = .returned (.bool true) ∧ Below w.heap.size w w' := by
  have K1 := hide (from_any v w hv)
  go_enter Try.func3, Try.ntmps3
  go_wp2_with fail
  refine (unhide K1).mono ?_
  rintro e w1 ⟨a1, m1, ys, rfl, hs, hr, ha, hb⟩
  have K2 := hide (uint_any a1 m1 m1 v ys w1 hs hr hv)
  have K3 := hide (rfrom_any v w1 hv)
  have HS := hide hs
  have HR := hide hr
  have HB := hide hb
  clear K1 hs hr ha hb
  go_wp2_with fail
  refine (unhide K2).mono ?_
  rintro e w' ⟨rfl, rfl⟩
  clear K2
  go_wp2_with fail
  refine (unhide K3).mono ?_
  rintro e w2 ⟨a2, m2, zs, rfl, hs2, hr2, ha2, hb2⟩
  have e1 : ys = zs := (unhide HR).unique hr2
  have hs1 : Sl w2 a1 m1 m1 ys := (unhide HS).below hb2
  have K4 := same_any a1 a2 m1 m1 m2 m2 ys zs w2 hs1 hs2
  rw [show decide (ys = zs) = true from by simp [e1]] at K4
  have K4' := hide K4
  have HB2 := hide ((unhide HB).trans (hb2.mono (unhide HB).size))
  clear K3 hs2 hr2 ha2 hb2 e1 hs1 HS HR HB K4
  go_wp2_with fail
  refine (unhide K4').mono ?_
  rintro e w' ⟨rfl, k, rfl⟩
  go_wp2
  go_ret
  exact ⟨rfl, bel_drewN (unhide HB2) k⟩

theorem law_own : ownKnob Try.prog.godebug = none := by kernel_rfl

set_option maxRecDepth 100000 in
theorem natFrom_lifted (os : Os) (started : os.Started) (H : Type) (enc : TypeId × Value → H) :
    ReturnsInHanded {} Try.checked os 3 .any (Rows.natFromSpec.pre6 enc Try.prog Try.f3 Rows.natFromRow.domain false) (Rows.natFromSpec.post enc Try.prog Try.f3 false true false false) := by
  refine returnsInHanded_of_change (C := Try.checked) law_own started (by kernel_rfl) Try.func3
    (ChangeSpec.witness6 (enc := enc) (C := Try.checked) false ⟨#[], #[.int .u64 0], []⟩ 8 (by kernel_rfl) (by kernel_rfl) (by kernel_rfl) (by kernel_rfl)) ?_
  intro W base args ds gs before hval0 hW hcnd _
  have hval : ∀ (j : Nat) t v, Try.f3.params[j]? = some t → args[j]? = some v → Value.okWide Try.prog W .any base t v := hval0
  have hW' := hW
  obtain ⟨p, q, hA0, hV, rfl, hfz, hnd⟩ := hW
  have hA : DataW.TrodAll enc Try.prog W 0 (fun _ => true) true Try.f3.params.toList args.toList ds p := hA0
  rw [Try.params3] at hA hval
  obtain ⟨v0, vs0, d0, ds0, p0, q0, hargs, rfl, rfl, h0, r0⟩ := trodAll_cons hA
  obtain ⟨rfl, rfl, rfl⟩ := trodAll_nil r0
  obtain rfl : args = #[v0] := by cases args; simp_all
  obtain ⟨rfl, rfl⟩ := trodVars_none hV
  obtain ⟨a0, rfl, rfl, rfl, w0⟩ := open_int Try.underlying22 (hval 0 22 v0 rfl rfl) h0
  clear hA0 hval0
  obtain ⟨b1, b2⟩ := bounds_u64 w0
  obtain ⟨v, rfl⟩ := Int.eq_ofNat_of_zero_le b1
  refine (natFrom_walk v (by omega) W).mono fun e W' ⟨he, bel⟩ => ?_
  subst he
  exact ⟨_, rfl, _, _, _, [], _, [], hW', trodAll_mk1 (shut_bool Try.underlying4 _), (trodAll_cons_mk (shut_int Try.underlying22 w0) trodAll_mk0), rfl, bel.frame _, fun h => by cases h⟩

theorem natFrom_holds : Rows.NatFromSaid :=
  OpenClaim.holds_of_wide 3 Try.f3 rfl rfl rfl rfl rfl rfl rfl ⟨rfl, rfl, rfl, rfl, rfl⟩ rfl rfl rfl rfl rfl (by kernel_rfl) Try.func3 (by kernel_rfl)
    (of_decide_eq_true (by kernel_rfl)) (by unfold Func.isWrapper; first | (rw [if_pos (by decide +kernel)]; kernel_rfl) | (rw [if_neg (by decide +kernel)]; exact ⟨rfl, rfl⟩))
    (fun os started H enc _ => natFrom_lifted os started H enc)
#print axioms natFrom_holds
end Go.Proofs.Ytokgcpnnbajlkaa
