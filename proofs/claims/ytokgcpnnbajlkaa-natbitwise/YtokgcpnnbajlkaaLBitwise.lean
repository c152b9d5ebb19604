/-
  THE LAW NatBitwise: out of the contracts; the row's step.
-/
import Derived.Test.YtokgcpnnbajlkaaOpen
import Derived.Test.YtokgcpnnbajlkaaAlive
import Derived.Test.YtokgcpnnbajlkaaRBw
namespace Go.Proofs.Ytokgcpnnbajlkaa
open Go.ChangeShapes Go.WideShapes Go.ChangeAt Go.RowKit Go.Deep
set_option linter.unusedVariables false

set_option maxHeartbeats 8000000 in
theorem natBitwise_walk (a1 a2 : Option Addr) (n1 c1 n2 c2 : Nat) (xs ys : List Nat) (w : World) (h1 : Sl w a1 n1 c1 xs) (h2 : Sl w a2 n2 c2 ys) (ox : Ok xs) (oy : Ok ys) (hb1 : n1 ≤ 35184372088000) (hb2 : n2 ≤ 35184372088000) :
    Calls Try.prog 10 #[.slice a1 n1 c1, .slice a2 n2 c2] w fun e w' => e = .returned (.bool true) ∧ Below w.heap.size w w' := by
  have HS0 := hide (LawSt.begin (w := w) (L := [⟨a1, n1, c1, xs⟩, ⟨a2, n2, c2, ys⟩]) _ rfl (by intro p hp; simp at hp; rcases hp with rfl | rfl <;> assumption))
  clear h1 h2
  go_enter Try.func10, Try.ntmps10
  go_wp2_with fail
  refine ((unhide HS0).nat ⟨a1, n1, c1, xs⟩ (by simp) hb1 (by simp)).mono ?_
  rintro e w1 ⟨v01, v11, E1, rfl, hst⟩
  have HS1 := hide hst
  clear hst HS0
  go_wp2_with fail
  refine ((unhide HS1).nat ⟨a2, n2, c2, ys⟩ (by simp) hb2 (by simp)).mono ?_
  rintro e w2 ⟨v02, v12, E2, rfl, hst⟩
  have HS2 := hide hst
  clear hst HS1
  go_wp2_with fail
  refine (nand_any (some ⟨E1.b, 0, none⟩) (some ⟨E2.b, 0, none⟩) n1 (E1.c) n2 (E2.c) xs ys _ ((unhide HS2).sl ⟨some ⟨E1.b, 0, none⟩, n1, E1.c, xs⟩ (by simp)) ((unhide HS2).sl ⟨some ⟨E2.b, 0, none⟩, n2, E2.c, ys⟩ (by simp)) ox oy).mono ?_
  intro e w3 hres
  obtain ⟨a3, m3, c3, rfl, hst⟩ := (unhide HS2).res2 hres
  have HS3 := hide hst
  clear hst hres HS2
  go_wp2_with fail
  refine (rbitAnd_any (a1) (a2) n1 (c1) n2 (c2) xs ys _ ((unhide HS3).sl ⟨a1, n1, c1, xs⟩ (by simp)) ((unhide HS3).sl ⟨a2, n2, c2, ys⟩ (by simp)) ox oy).mono ?_
  intro e w4 hres
  obtain ⟨a4, m4, c4, rfl, hst⟩ := (unhide HS3).res2 hres
  have HS4 := hide hst
  clear hst hres HS3
  go_wp2_with fail
  refine (num_any _ _).mono ?_
  rintro e w' ⟨rfl, hw⟩
  obtain rfl := hw.symm
  go_wp2_with fail
  refine ((unhide HS4).same ⟨a3, m3, c3, (bwL bwAnd xs ys).1⟩ ⟨a4, m4, c4, (bwL bwAnd xs ys).1⟩ (by simp) (by simp) rfl).mono ?_
  rintro e w5 ⟨rfl, hst⟩
  have HS5 := hide hst
  clear hst HS4
  go_wp2_with fail
  refine ((unhide HS5).nat ⟨a1, n1, c1, xs⟩ (by simp) hb1 (by simp)).mono ?_
  rintro e w6 ⟨v06, v16, E6, rfl, hst⟩
  have HS6 := hide hst
  clear hst HS5
  go_wp2_with fail
  refine ((unhide HS6).nat ⟨a2, n2, c2, ys⟩ (by simp) hb2 (by simp)).mono ?_
  rintro e w7 ⟨v07, v17, E7, rfl, hst⟩
  have HS7 := hide hst
  clear hst HS6
  go_wp2_with fail
  refine (nor_any (some ⟨E6.b, 0, none⟩) (some ⟨E7.b, 0, none⟩) n1 (E6.c) n2 (E7.c) xs ys _ ((unhide HS7).sl ⟨some ⟨E6.b, 0, none⟩, n1, E6.c, xs⟩ (by simp)) ((unhide HS7).sl ⟨some ⟨E7.b, 0, none⟩, n2, E7.c, ys⟩ (by simp)) ox oy).mono ?_
  intro e w8 hres
  obtain ⟨a8, m8, c8, rfl, hst⟩ := (unhide HS7).res2 hres
  have HS8 := hide hst
  clear hst hres HS7
  go_wp2_with fail
  refine (rbitOr_any (a1) (a2) n1 (c1) n2 (c2) xs ys _ ((unhide HS8).sl ⟨a1, n1, c1, xs⟩ (by simp)) ((unhide HS8).sl ⟨a2, n2, c2, ys⟩ (by simp)) ox oy).mono ?_
  intro e w9 hres
  obtain ⟨a9, m9, c9, rfl, hst⟩ := (unhide HS8).res2 hres
  have HS9 := hide hst
  clear hst hres HS8
  go_wp2_with fail
  refine (num_any _ _).mono ?_
  rintro e w' ⟨rfl, hw⟩
  obtain rfl := hw.symm
  go_wp2_with fail
  refine ((unhide HS9).same ⟨a8, m8, c8, (bwL bwOr xs ys).1⟩ ⟨a9, m9, c9, (bwL bwOr xs ys).1⟩ (by simp) (by simp) rfl).mono ?_
  rintro e w10 ⟨rfl, hst⟩
  have HS10 := hide hst
  clear hst HS9
  go_wp2_with fail
  refine ((unhide HS10).nat ⟨a1, n1, c1, xs⟩ (by simp) hb1 (by simp)).mono ?_
  rintro e w11 ⟨v011, v111, E11, rfl, hst⟩
  have HS11 := hide hst
  clear hst HS10
  go_wp2_with fail
  refine ((unhide HS11).nat ⟨a2, n2, c2, ys⟩ (by simp) hb2 (by simp)).mono ?_
  rintro e w12 ⟨v012, v112, E12, rfl, hst⟩
  have HS12 := hide hst
  clear hst HS11
  go_wp2_with fail
  refine (nxor_any (some ⟨E11.b, 0, none⟩) (some ⟨E12.b, 0, none⟩) n1 (E11.c) n2 (E12.c) xs ys _ ((unhide HS12).sl ⟨some ⟨E11.b, 0, none⟩, n1, E11.c, xs⟩ (by simp)) ((unhide HS12).sl ⟨some ⟨E12.b, 0, none⟩, n2, E12.c, ys⟩ (by simp)) ox oy).mono ?_
  intro e w13 hres
  obtain ⟨a13, m13, c13, rfl, hst⟩ := (unhide HS12).res2 hres
  have HS13 := hide hst
  clear hst hres HS12
  go_wp2_with fail
  refine (rbitXor_any (a1) (a2) n1 (c1) n2 (c2) xs ys _ ((unhide HS13).sl ⟨a1, n1, c1, xs⟩ (by simp)) ((unhide HS13).sl ⟨a2, n2, c2, ys⟩ (by simp)) ox oy).mono ?_
  intro e w14 hres
  obtain ⟨a14, m14, c14, rfl, hst⟩ := (unhide HS13).res2 hres
  have HS14 := hide hst
  clear hst hres HS13
  go_wp2_with fail
  refine (num_any _ _).mono ?_
  rintro e w' ⟨rfl, hw⟩
  obtain rfl := hw.symm
  go_wp2_with fail
  refine ((unhide HS14).same ⟨a13, m13, c13, (bwL bwXor xs ys).1⟩ ⟨a14, m14, c14, (bwL bwXor xs ys).1⟩ (by simp) (by simp) rfl).mono ?_
  rintro e w15 ⟨rfl, hst⟩
  have HS15 := hide hst
  clear hst HS14
  go_wp2_with fail
  refine ((unhide HS15).nat ⟨a1, n1, c1, xs⟩ (by simp) hb1 (by simp)).mono ?_
  rintro e w16 ⟨v016, v116, E16, rfl, hst⟩
  have HS16 := hide hst
  clear hst HS15
  go_wp2_with fail
  refine ((unhide HS16).nat ⟨a2, n2, c2, ys⟩ (by simp) hb2 (by simp)).mono ?_
  rintro e w17 ⟨v017, v117, E17, rfl, hst⟩
  have HS17 := hide hst
  clear hst HS16
  go_wp2_with fail
  refine (nnot_any (some ⟨E16.b, 0, none⟩) (some ⟨E17.b, 0, none⟩) n1 (E16.c) n2 (E17.c) xs ys _ ((unhide HS17).sl ⟨some ⟨E16.b, 0, none⟩, n1, E16.c, xs⟩ (by simp)) ((unhide HS17).sl ⟨some ⟨E17.b, 0, none⟩, n2, E17.c, ys⟩ (by simp)) ox oy).mono ?_
  intro e w18 hres
  obtain ⟨a18, m18, c18, rfl, hst⟩ := (unhide HS17).res2 hres
  have HS18 := hide hst
  clear hst hres HS17
  go_wp2_with fail
  refine (rbitNot_any (a1) (a2) n1 (c1) n2 (c2) xs ys _ ((unhide HS18).sl ⟨a1, n1, c1, xs⟩ (by simp)) ((unhide HS18).sl ⟨a2, n2, c2, ys⟩ (by simp)) ox oy).mono ?_
  intro e w19 hres
  obtain ⟨a19, m19, c19, rfl, hst⟩ := (unhide HS18).res2 hres
  have HS19 := hide hst
  clear hst hres HS18
  go_wp2_with fail
  refine (num_any _ _).mono ?_
  rintro e w' ⟨rfl, hw⟩
  obtain rfl := hw.symm
  go_wp2_with fail
  refine ((unhide HS19).same ⟨a18, m18, c18, (bwL bwNot xs ys).1⟩ ⟨a19, m19, c19, (bwL bwNot xs ys).1⟩ (by simp) (by simp) rfl).mono ?_
  rintro e w20 ⟨rfl, hst⟩
  have HS20 := hide hst
  clear hst HS19
  go_wp2_with fail
  refine ((unhide HS20).intact).mono ?_
  rintro e w21 ⟨rfl, hst⟩
  have HS21 := hide hst
  clear hst HS20
  go_wp2_with fail
  refine (alive_any _).mono ?_
  rintro e w22 ⟨rfl, hb⟩
  have HS22 := hide ((unhide HS21).keep hb)
  clear hb HS21
  go_wp2
  go_ret
  exact ⟨rfl, (unhide HS22).bel⟩

set_option maxRecDepth 100000 in
theorem natBitwise_lifted (os : Os) (started : os.Started) (H : Type) (enc : TypeId × Value → H) :
    ReturnsInHanded {} Try.checked os 10 .any (Rows.natBitwiseSpec.pre6 enc Try.prog Try.f10 Rows.natBitwiseRow.domain false) (Rows.natBitwiseSpec.post enc Try.prog Try.f10 false true false false) := by
  refine returnsInHanded_of_change_sized (C := Try.checked) law_own started (by kernel_rfl) Try.func10
    (ChangeSpec.witness6 (enc := enc) (C := Try.checked) false ⟨#[], #[.slice none 0 0, .slice none 0 0], []⟩ 8 (by kernel_rfl) (by kernel_rfl) (by kernel_rfl) (by kernel_rfl)) ?_
  intro W base args ds gs before hval0 hW hcnd hsz _
  have hval : ∀ (j : Nat) t v, Try.f10.params[j]? = some t → args[j]? = some v → Value.okWide Try.prog W .any base t v := hval0
  have hW' := hW
  obtain ⟨p, q, hA0, hV, rfl, hfz, hnd⟩ := hW
  have hA : DataW.TrodAll enc Try.prog W 0 (fun _ => true) true Try.f10.params.toList args.toList ds p := hA0
  rw [Try.params10] at hA hval hsz
  have r := hA
  obtain ⟨v0, vs0, d0, ds0, p0, q0, hargs, rfl, rfl, h0, r0⟩ := trodAll_cons hA
  obtain ⟨v1, vs1, d1, ds1, p1, q1, rfl, rfl, rfl, h1, r1⟩ := trodAll_cons r0
  obtain ⟨rfl, rfl, rfl⟩ := trodAll_nil r1
  obtain rfl : args = #[v0, v1] := by cases args; simp_all
  obtain ⟨rfl, rfl⟩ := trodVars_none hV
  obtain ⟨a0, n0, c0, rfl⟩ := okWide_slice Try.underlying24 (hval 0 24 v0 rfl rfl)
  have k0 := h0
  have lt0 : ∀ x ∈ p0, x.block < W.heap.size := by obtain ⟨m, hm⟩ := k0; exact DataW.trod_lt m _ _ _ hm
  obtain ⟨x0, s0, o0, b0⟩ := arg_limbs h0 (fun el sp e => by subst e; exact sized_slice (j := 0) hsz rfl rfl Try.underlying24)
  obtain ⟨a1, n1, c1, rfl⟩ := okWide_slice Try.underlying24 (hval 1 24 v1 rfl rfl)
  have k1 := h1
  have lt1 : ∀ x ∈ p1, x.block < W.heap.size := by obtain ⟨m, hm⟩ := k1; exact DataW.trod_lt m _ _ _ hm
  obtain ⟨x1, s1, o1, b1⟩ := arg_limbs h1 (fun el sp e => by subst e; exact sized_slice (j := 1) hsz rfl rfl Try.underlying24)
  clear hA0 hval0
  refine (natBitwise_walk a0 a1 n0 c0 n1 c1 x0 x1 W s0 s1 o0 o1 b0 b1).mono fun e W' ⟨he, bel⟩ => ?_
  subst he
  exact ⟨_, rfl, _, _, _, [], _, [], hW', trodAll_mk1 (shut_bool Try.underlying4 _), (trodAll_cons_mk (Below.trod law_laid (by kernel_rfl) (of_decide_eq_true (by kernel_rfl)) k0 bel lt0) (trodAll_cons_mk (Below.trod law_laid (by kernel_rfl) (of_decide_eq_true (by kernel_rfl)) k1 bel lt1) trodAll_mk0)), rfl, bel.frame _, fun h => by cases h⟩

theorem natBitwise_holds : Rows.NatBitwiseSaid :=
  OpenClaim.holds_of_wide 10 Try.f10 rfl rfl rfl rfl rfl rfl rfl ⟨rfl, rfl, rfl, rfl, rfl⟩ rfl rfl rfl rfl rfl (by kernel_rfl) Try.func10 (by kernel_rfl)
    (of_decide_eq_true (by kernel_rfl)) (by unfold Func.isWrapper; first | (rw [if_pos (by decide +kernel)]; kernel_rfl) | (rw [if_neg (by decide +kernel)]; exact ⟨rfl, rfl⟩))
    (fun os started H enc _ => natBitwise_lifted os started H enc)
#print axioms natBitwise_holds
end Go.Proofs.Ytokgcpnnbajlkaa
