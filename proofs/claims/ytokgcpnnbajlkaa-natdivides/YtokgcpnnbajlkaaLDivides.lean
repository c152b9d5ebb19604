/-
  THE LAW NatDivides: out of the contracts; the row's step.
-/
import Derived.Test.YtokgcpnnbajlkaaOpen
import Derived.Test.YtokgcpnnbajlkaaRd3
namespace Go.Proofs.Ytokgcpnnbajlkaa
open Go.ChangeShapes Go.WideShapes Go.ChangeAt Go.RowKit Go.Deep
set_option linter.unusedVariables false

theorem LawSt.res4 {w w' : World} {B : Nat} {v0 v1 : Value} {es : List Ent} {w0 : World} {L : List Pc} (h : LawSt w B v0 v1 es w0 L) {r : List Nat × List Nat × Int} {e : Ending} (hr : Res4w w w' r e) :
    ∃ aq mq cq ar mr cr, e = .returned (.tuple #[.slice aq mq cq, .slice ar mr cr, .int .i64 r.2.2]) ∧ LawSt w' B v0 v1 es w0 (⟨aq, mq, cq, r.1⟩ :: ⟨ar, mr, cr, r.2.1⟩ :: L) := by
  obtain ⟨aq, mq, cq, ar, mr, cr, rfl, hs, hn, hs2, hn2, hb⟩ := hr
  refine ⟨aq, mq, cq, ar, mr, cr, rfl, ?_⟩
  have H1 := h.res hb hs2 hn2
  have H2 := h.res hb hs hn
  refine ⟨H1.giv, H1.bel, H1.base, ?_⟩
  intro p hp
  rcases List.mem_cons.1 hp with rfl | hp
  · exact H2.all _ (by simp)
  · exact H1.all p hp

set_option maxHeartbeats 4000000 in
theorem natDivides_walk (a1 a2 : Option Addr) (n1 c1 n2 c2 : Nat) (xs ys : List Nat) (w : World) (h1 : Sl w a1 n1 c1 xs) (h2 : Sl w a2 n2 c2 ys) (ox : Ok xs) (oy : Ok ys) (hb1 : n1 ≤ 35184372088000) (hb2 : n2 ≤ 35184372088000) :
    Calls Try.prog 8 #[.slice a1 n1 c1, .slice a2 n2 c2] w fun e w' => e = .returned (.bool true) ∧ Below w.heap.size w w' := by
  have HS0 := hide (LawSt.begin (w := w) (L := [⟨a1, n1, c1, xs⟩, ⟨a2, n2, c2, ys⟩]) _ rfl (by intro p hp; simp at hp; rcases hp with rfl | rfl <;> assumption))
  clear h1 h2
  go_enter Try.func8, Try.ntmps8
  go_wp2_with fail
  refine ((unhide HS0).nat ⟨a1, n1, c1, xs⟩ (by simp) hb1 (by simp)).mono ?_
  rintro e w1 ⟨v01, v11, E1, rfl, hst⟩
  have HS1 := hide hst
  clear hst HS0
  go_wp2_with fail
  refine ((unhide HS1).nat ⟨a2, n2, c2, ys⟩ (by simp) hb2 (by simp)).mono ?_
  rintro e w2 ⟨v02, v12, E2, rfl, hst⟩
  have HS2 := hide hst
  clear hst HS1
  go_wp2_with fail
  refine (ndivmod_any (some ⟨E1.b, 0, none⟩) (some ⟨E2.b, 0, none⟩) n1 (E1.c) n2 (E2.c) xs ys _ ((unhide HS2).sl ⟨some ⟨E1.b, 0, none⟩, n1, E1.c, xs⟩ (by simp)) ((unhide HS2).sl ⟨some ⟨E2.b, 0, none⟩, n2, E2.c, ys⟩ (by simp)) ox oy).mono ?_
  intro e w3 hres
  obtain ⟨a3, m3, c3, a3r, m3r, c3r, rfl, hst⟩ := (unhide HS2).res4 hres.weak
  have HS3 := hide hst
  clear hst hres HS2
  go_wp2_with fail
  refine (rdivmod_any (a1) (a2) n1 (c1) n2 (c2) xs ys _ ((unhide HS3).sl ⟨a1, n1, c1, xs⟩ (by simp)) ((unhide HS3).sl ⟨a2, n2, c2, ys⟩ (by simp)) ox oy).mono ?_
  intro e w4 hres
  obtain ⟨a4, m4, c4, a4r, m4r, c4r, rfl, hst⟩ := (unhide HS3).res4 hres
  have HS4 := hide hst
  clear hst hres HS3
  go_wp2_with fail
  refine (num_any _ _).mono ?_
  rintro e w' ⟨rfl, hw⟩
  obtain rfl := hw.symm
  go_wp2_with fail
  refine ((unhide HS4).same ⟨a3, m3, c3, (divL xs ys).1⟩ ⟨a4, m4, c4, (divL xs ys).1⟩ (by simp) (by simp) rfl).mono ?_
  rintro e w5 ⟨rfl, hst⟩
  have HS5 := hide hst
  clear hst HS4
  go_wp2_with fail
  refine ((unhide HS5).same ⟨a3r, m3r, c3r, (divL xs ys).2.1⟩ ⟨a4r, m4r, c4r, (divL xs ys).2.1⟩ (by simp) (by simp) rfl).mono ?_
  rintro e w6 ⟨rfl, hst⟩
  have HS6 := hide hst
  clear hst HS5
  go_wp2_with fail
  refine ((unhide HS6).intact).mono ?_
  rintro e w7 ⟨rfl, hst⟩
  have HS7 := hide hst
  clear hst HS6
  go_wp2
  go_ret
  exact ⟨rfl, (unhide HS7).bel⟩

set_option maxRecDepth 100000 in
theorem natDivides_lifted (os : Os) (started : os.Started) (H : Type) (enc : TypeId × Value → H) :
    ReturnsInHanded {} Try.checked os 8 .any (Rows.natDividesSpec.pre6 enc Try.prog Try.f8 Rows.natDividesRow.domain false) (Rows.natDividesSpec.post enc Try.prog Try.f8 false true false false) := by
  refine returnsInHanded_of_change_sized (C := Try.checked) law_own started (by kernel_rfl) Try.func8
    (ChangeSpec.witness6 (enc := enc) (C := Try.checked) false ⟨#[], #[.slice none 0 0, .slice none 0 0], []⟩ 8 (by kernel_rfl) (by kernel_rfl) (by kernel_rfl) (by kernel_rfl)) ?_
  intro W base args ds gs before hval0 hW hcnd hsz _
  have hval : ∀ (j : Nat) t v, Try.f8.params[j]? = some t → args[j]? = some v → Value.okWide Try.prog W .any base t v := hval0
  have hW' := hW
  obtain ⟨p, q, hA0, hV, rfl, hfz, hnd⟩ := hW
  have hA : DataW.TrodAll enc Try.prog W 0 (fun _ => true) true Try.f8.params.toList args.toList ds p := hA0
  rw [Try.params8] at hA hval hsz
  have r := hA
  obtain ⟨v0, vs0, d0, ds0, p0, q0, hargs, rfl, rfl, h0, r0⟩ := trodAll_cons hA
  obtain ⟨v1, vs1, d1, ds1, p1, q1, rfl, rfl, rfl, h1, r1⟩ := trodAll_cons r0
  obtain ⟨rfl, rfl, rfl⟩ := trodAll_nil r1
  obtain rfl : args = #[v0, v1] := by cases args; simp_all
  obtain ⟨rfl, rfl⟩ := trodVars_none hV
  obtain ⟨a0, n0, c0, rfl⟩ := okWide_slice Try.underlying24 (hval 0 24 v0 rfl rfl)
  have k0 := h0
  have lt0 : ∀ x ∈ p0, x.block < W.heap.size := by obtain ⟨m, hm⟩ := k0; exact DataW.trod_lt m _ _ _ hm
  obtain ⟨x0, s0, o0, b0⟩ := arg_limbs h0 (fun el sp e => by subst e; exact sized_slice (j := 0) hsz rfl rfl Try.underlying24)
  obtain ⟨a1, n1, c1, rfl⟩ := okWide_slice Try.underlying24 (hval 1 24 v1 rfl rfl)
  have k1 := h1
  have lt1 : ∀ x ∈ p1, x.block < W.heap.size := by obtain ⟨m, hm⟩ := k1; exact DataW.trod_lt m _ _ _ hm
  obtain ⟨x1, s1, o1, b1⟩ := arg_limbs h1 (fun el sp e => by subst e; exact sized_slice (j := 1) hsz rfl rfl Try.underlying24)
  clear hA0 hval0
  refine (natDivides_walk a0 a1 n0 c0 n1 c1 x0 x1 W s0 s1 o0 o1 b0 b1).mono fun e W' ⟨he, bel⟩ => ?_
  subst he
  exact ⟨_, rfl, _, _, _, [], _, [], hW', trodAll_mk1 (shut_bool Try.underlying4 _), (trodAll_cons_mk (Below.trod law_laid (by kernel_rfl) (of_decide_eq_true (by kernel_rfl)) k0 bel lt0) (trodAll_cons_mk (Below.trod law_laid (by kernel_rfl) (of_decide_eq_true (by kernel_rfl)) k1 bel lt1) trodAll_mk0)), rfl, bel.frame _, fun h => by cases h⟩

theorem natDivides_holds : Rows.NatDividesSaid :=
  OpenClaim.holds_of_wide 8 Try.f8 rfl rfl rfl rfl rfl rfl rfl ⟨rfl, rfl, rfl, rfl, rfl⟩ rfl rfl rfl rfl rfl (by kernel_rfl) Try.func8 (by kernel_rfl)
    (of_decide_eq_true (by kernel_rfl)) (by unfold Func.isWrapper; first | (rw [if_pos (by decide +kernel)]; kernel_rfl) | (rw [if_neg (by decide +kernel)]; exact ⟨rfl, rfl⟩))
    (fun os started H enc _ => natDivides_lifted os started H enc)
#print axioms natDivides_holds
end Go.Proofs.Ytokgcpnnbajlkaa
