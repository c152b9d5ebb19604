/- LCLeast -/
import Derived.Test.YtgjokididdffhaaGreatCy9
import Derived.Test.YtgjokididdffhaaGreatSjp
import Derived.Test.YtgjokididdffhaaGreatRows
import Derived.Deep.DeepHandedRow
import Derived.Deep.RegionHeld3
namespace Go.Proofs.YtgjokididdffhaaGreat
open Go.ChangeShapes Go.WideShapes Go.ChangeAt Go.RowKit Go.Deep
set_option linter.unusedVariables false
set_option maxRecDepth 100000 in
set_option maxHeartbeats 64000000 in
theorem colourLeast_walk (k rows width : Int) (a1 : Option Addr) (n1 c1 : Nat) (st : List Int) (a2 : Option Addr) (n2 c2 : Nat) (cols : List Int) (w : World) (hP : PatZ w a1 n1 c1 st a2 n2 c2 cols) :
    Calls Tryz.prog 7 #[.int .i64 k, patV rows width a1 n1 c1 a2 n2 c2] w fun e w' => e = .returned (.bool true) ∧ Below w.heap.size w w' := by
  obtain ⟨d, er, hBT⟩ := lsT_two k rows width n1 n2 st cols hP.h1.len hP.h2.len hP.l1 hP.l2
  obtain ⟨w1, hw1⟩ : ∃ x, w.alloc (.cells #[.int .i64 rows, .int .i64 width, .slice a1 n1 c1, .slice a2 n2 c2] 25) = x := ⟨_, rfl⟩
  have bb : Below w.heap.size w w1 := by rw [← hw1]; exact (Below.refl _ _).alloc (Nat.le_refl _) _
  have hBP : BoxP w1 w.heap.size [.int .i64 rows, .int .i64 width, .slice a1 n1 c1, .slice a2 n2 c2] := by have := BoxP.made w #[.int .i64 rows, .int .i64 width, .slice a1 n1 c1, .slice a2 n2 c2] 25; rw [hw1] at this; exact this
  obtain ⟨B, hBe⟩ : ∃ B, w1.heap.size = B := ⟨_, rfl⟩
  have hG := GivI.made w1
  rw [hBe] at hG
  have bg : Below w1.heap.size w1 (w1.alloc givO) := (Below.refl _ _).alloc (Nat.le_refl _) _
  obtain ⟨wg, hwg⟩ : ∃ x, w1.alloc givO = x := ⟨_, rfl⟩
  rw [hwg] at hG bg
  unfold givO at hwg
  have HBPg := hide (hBP.below bg)
  have g0 := ((unhide HBPg).all 0 _ rfl).1
  have g1 := ((unhide HBPg).all 1 _ rfl).1
  have g2 := ((unhide HBPg).all 2 _ rfl).1
  have g3 := ((unhide HBPg).all 3 _ rfl).1
  have HLO1 := hide (show ∀ z, a2 = some z → cols ≠ [] → z.block < B from fun z hz hne => by have := hP.h2.block_lt hne z hz; have := bb.size; omega)
  have HBT := hide hBT
  have HP := hide hP
  have HG0 := hide hG
  have HK0 := hide bg
  have HBP := hide hBP
  have HW1 := hide bb
  have HBE := hide hBe
  clear hP hG bg bb hBP hBT
  unfold patV
  go_enter Tryz.func7, Tryz.ntmps7
  go_wp2_with fail
  have K1 := gpat_any B (.slice none 0 0) (.slice none 0 0) [] (fun _ => .slice none 0 0) rows width a1 n1 c1 st a2 n2 c2 cols wg (unhide HG0) (((unhide HP).h1.below (unhide HW1)).below (unhide HK0)) (((unhide HP).h2.below (unhide HW1)).below (unhide HK0)) (unhide HLO1) (unhide HP).l1 (unhide HP).l2 (by simp)
  unfold patV at K1
  refine K1.mono ?_
  clear K1 g0 g1 g2 g3
  rintro _ wp1 ⟨_, rfl, v1, u1, E1, E2, rfl, GP⟩
  try unfold patV
  have hK : Below w1.heap.size w1 wp1 := (unhide HK0).trans (GP.chg.below (unhide HK0).size (fun k hk e => by have := (unhide HG0).own_ge e; have := unhide HBE; omega))
  have HG1 := hide GP.giv
  have HE1 := hide (And.intro GP.x1 GP.x2)
  have HK1 := hide hK
  clear GP hK
  have KB := (unhide HBT).one (some ⟨EntI.b E1, 0, none⟩) (some ⟨EntI.b E2, 0, none⟩) (EntI.c E1) (EntI.c E2) wp1 ((unhide HG1).sli (by simp) (unhide HE1).1 (unhide HP).h1.len) ((unhide HG1).sli (by simp) (unhide HE1).2 (unhide HP).h2.len)
  unfold patV at KB
  have HKB := hide KB
  clear KB
  go_wp2_with fail
  refine (unhide HKB).mono ?_
  rintro _ w3 ⟨b3, rfl⟩
  have hK3 := (unhide HK1).trans (b3.mono (unhide HK1).size)
  have HG3 := hide ((unhide HG1).below b3)
  have HB3 := hide ((unhide HBP).below hK3)
  have HK3 := hide hK3
  clear HKB b3 hK3
  have g0 := ((unhide HB3).all 0 _ rfl).1
  have g1 := ((unhide HB3).all 1 _ rfl).1
  have g2 := ((unhide HB3).all 2 _ rfl).1
  have g3 := ((unhide HB3).all 3 _ rfl).1
  have KW := (unhide HBT).two a1 a2 c1 c2 w3 (((unhide HP).h1.below (unhide HW1)).below (unhide HK3)) (((unhide HP).h2.below (unhide HW1)).below (unhide HK3))
  unfold patV at KW
  have HKW := hide KW
  clear KW
  go_wp2_with fail
  refine (unhide HKW).mono ?_
  rintro _ w4 ⟨b4, rfl⟩
  have hK4 := (unhide HK3).trans (b4.mono (unhide HK3).size)
  have HG4 := hide ((unhide HG3).below b4)
  have HK4 := hide hK4
  clear HKW b4 hK4 g0 g1 g2 g3
  have e1 : (er == er) = true := by simp
  have e2 : ((d : Int) == (d : Int)) = true := by simp
  go_wp2_with fail
  refine (num12_any er w4).mono ?_
  rintro _ wn ⟨rfl, hwn⟩
  rw [hwn]
  clear hwn wn
  go_wp2_with fail
  refine (intactI_any w4 B v1 u1 ([] ++ [E1] ++ [E2]) (unhide HG4) (by simp) (fun e he => by
    have l1 := (unhide HP).h1.len
    have l2 := (unhide HP).h2.len
    have := (unhide HP).l1
    have := (unhide HP).l2
    simp at he
    rcases he with rfl | rfl
    · rw [(unhide HE1).1]; omega
    · rw [(unhide HE1).2]; omega)).mono ?_
  rintro _ w8 ⟨rfl, kx, hkx⟩
  have HB8 := hide (show Below w4.heap.size w4 w8 by rw [hkx]; exact bel_drewN (Below.refl _ _) kx)
  clear hkx
  go_wp2_with fail
  refine (calive_any w8).mono ?_
  rintro _ w9 ⟨rfl, b9⟩
  have t1 := (unhide HW1).trans ((unhide HK4).mono (unhide HW1).size)
  have t2 := t1.trans ((unhide HB8).mono t1.size)
  have HB9 := hide (t2.trans (b9.mono t2.size))
  clear t1 t2 b9
  go_wp2_with fail
  try go_ret
  exact ⟨rfl, unhide HB9⟩
theorem law_own : ownKnob Tryz.prog.godebug = none := by kernel_rfl
theorem law_laid : laidOutB Tryz.prog = true := by kernel_rfl
set_option maxRecDepth 100000 in
theorem colourLeast_lifted (os : Os) (started : os.Started) (H : Type) (enc : TypeId × Value → H) :
    ReturnsInHanded {} Tryz.checked os 7 .any (Rows.colourLeastSpec.pre6 enc Tryz.prog Tryz.f7 Rows.colourLeastRow.domain false) (Rows.colourLeastSpec.post enc Tryz.prog Tryz.f7 false true false false) := by
  refine returnsInHanded_of_change_sized (C := Tryz.checked) law_own started (by kernel_rfl) Tryz.func7
    (ChangeSpec.witness6 (enc := enc) (C := Tryz.checked) false ⟨#[], #[.int .i64 0, .agg #[.int .i64 0, .int .i64 0, .slice none 0 0, .slice none 0 0]], []⟩ 8 (by kernel_rfl) (by kernel_rfl) (by kernel_rfl) (by kernel_rfl)) ?_
  intro W base args ds gs before hval0 hW hcnd hsz _
  have hval : ∀ (j : Nat) t v, Tryz.f7.params[j]? = some t → args[j]? = some v → Value.okWide Tryz.prog W .any base t v := hval0
  have hW' := hW
  obtain ⟨p, q, hA0, hV, rfl, hfz, hnd⟩ := hW
  have hA : DataW.TrodAll enc Tryz.prog W 0 (fun _ => true) true Tryz.f7.params.toList args.toList ds p := hA0
  rw [Tryz.params7] at hA hval hsz
  obtain ⟨v0, vs0, d0, ds0, p0, q0, hargs, rfl, rfl, h0, r0⟩ := trodAll_cons hA
  obtain ⟨v1, vs1, d1, ds1, p1, q1, rfl, rfl, rfl, h1, r1⟩ := trodAll_cons r0
  obtain ⟨rfl, rfl, rfl⟩ := trodAll_nil r1
  obtain rfl : args = #[v0, v1] := by cases args; simp_all
  obtain ⟨rfl, rfl⟩ := trodVars_none hV
  have k1 := h1
  have lt1 : ∀ x ∈ p1, x.block < W.heap.size := by obtain ⟨m, hm⟩ := k1; exact DataW.trod_lt m _ _ _ hm
  obtain ⟨k, rfl, rfl, rfl, wf0⟩ := open_int Tryz.underlying22 (hval 0 22 v0 rfl rfl) h0
  obtain ⟨rows, width, a1, n1, c1, st, a2, n2, c2, cols, rfl, ho1⟩ := arg_patZ (hval 1 25 v1 rfl rfl) h1 (fun k hk => by simpa using List.all_eq_true.1 hsz k (DataW.weights_mem_each (j := 1) rfl rfl k hk))
  clear hA0 hval0
  refine (colourLeast_walk k rows width a1 n1 c1 st a2 n2 c2 cols W ho1).mono fun e W' ⟨he, bel⟩ => ?_
  subst he
  exact ⟨_, rfl, _, _, _, [], _, [], hW', trodAll_mk1 (shut_bool Tryz.underlying4 _), (trodAll_cons_mk (shut_int Tryz.underlying22 wf0) (trodAll_cons_mk (Below.trod law_laid (by kernel_rfl) (of_decide_eq_true (by kernel_rfl)) k1 bel lt1) trodAll_mk0)), rfl, bel.frame _, fun h => by cases h⟩

theorem colourLeast_holds : Rows.ColourLeastSaid :=
  OpenClaim.holds_of_wide 7 Tryz.f7 rfl rfl rfl rfl rfl rfl rfl ⟨rfl, rfl, rfl, rfl, rfl⟩ rfl rfl rfl rfl rfl (by kernel_rfl) Tryz.func7 (by kernel_rfl)
    (of_decide_eq_true (by kernel_rfl)) (by unfold Func.isWrapper; first | (rw [if_pos (by decide +kernel)]; kernel_rfl) | (rw [if_neg (by decide +kernel)]; exact ⟨rfl, rfl⟩))
    (fun os started H enc _ => colourLeast_lifted os started H enc)
#print axioms colourLeast_holds
end Go.Proofs.YtgjokididdffhaaGreat
