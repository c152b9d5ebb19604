/-
  THE LAW ColourGreedy: the walk, the row.
-/
import Derived.Test.YtohamaiobhikiaaGreatCw5
import Derived.Test.YtohamaiobhikiaaGreatSjp
import Derived.Test.YtohamaiobhikiaaGreatRows
import Derived.Deep.DeepHandedRow
import Derived.Deep.RegionHeld3
namespace Go.Proofs.YtohamaiobhikiaaGreat
open Go.ChangeShapes Go.WideShapes Go.ChangeAt Go.RowKit Go.Deep
set_option linter.unusedVariables false

theorem own_nilP {B k : Nat} (hk : k ≠ B) : ¬ Own B (.slice none 0 0) (.slice none 0 0) k := fun e => by
  rcases e with e | e | e
  · exact hk e
  · simp [Value.ownBlock] at e
  · simp [Value.ownBlock] at e
set_option maxRecDepth 100000 in
theorem arg_intsZ {H : Type} {enc : TypeId × Value → H} {W : World} {v : Value} {d : DataW H} {p : List MemPlace} {r : Reach} {b0 : Nat}
    (hv : Value.okWide Tryz.prog W r b0 23 v) (h : DataW.Trod enc Tryz.prog W 0 (fun _ => true) true 23 v d p) (hz : ∀ k ∈ d.weights Tryz.prog 23, k ≤ reachBytes) :
    ∃ a n c xs, v = .slice a n c ∧ SlI W a n c xs ∧ n ≤ 17592186044000 := by
  obtain ⟨a, n, c, rfl⟩ := okWide_slice Tryz.underlying23 hv
  obtain ⟨fuel, hf⟩ := h
  obtain ⟨a', n', c', xs, e, h1, h2⟩ := trod_intsZ hf hz
  simp [Value.cells] at e
  obtain ⟨rfl, rfl, rfl⟩ := e
  exact ⟨a, n, c, xs, rfl, h1, h2⟩
set_option maxRecDepth 100000 in
set_option maxHeartbeats 64000000 in
theorem colourGreedy_walk (k rows width : Int) (a1 : Option Addr) (n1 c1 : Nat) (st : List Int) (a2 : Option Addr) (n2 c2 : Nat) (cols : List Int) (a : Option Addr) (n c : Nat) (xs : List Int) (w : World) (hP : PatZ w a1 n1 c1 st a2 n2 c2 cols) (hX : SlI w a n c xs) (hn : n ≤ 17592186044000) :
    Calls Tryz.prog 3 #[.int .i64 k, patV rows width a1 n1 c1 a2 n2 c2, .slice a n c] w fun e w' => e = .returned (.bool true) ∧ Below w.heap.size w w' := by
  obtain ⟨o, er, hBT⟩ := greedy_two k rows width n1 n2 n st cols xs hP.h1.len hP.h2.len hP.l1 hP.l2 hn
  obtain ⟨w1, hw1⟩ : ∃ x, w.alloc (.cells #[.int .i64 rows, .int .i64 width, .slice a1 n1 c1, .slice a2 n2 c2] 25) = x := ⟨_, rfl⟩
  have bb : Below w.heap.size w w1 := by rw [← hw1]; exact (Below.refl _ _).alloc (Nat.le_refl _) _
  have hBP : BoxP w1 w.heap.size [.int .i64 rows, .int .i64 width, .slice a1 n1 c1, .slice a2 n2 c2] := by have := BoxP.made w #[.int .i64 rows, .int .i64 width, .slice a1 n1 c1, .slice a2 n2 c2] 25; rw [hw1] at this; exact this
  obtain ⟨B, hBe⟩ : ∃ B, w1.heap.size = B := ⟨_, rfl⟩
  have hG := GivI.made w1
  rw [hBe] at hG
  have bg : Below w1.heap.size w1 (w1.alloc givO) := (Below.refl _ _).alloc (Nat.le_refl _) _
  obtain ⟨wg, hwg⟩ : ∃ x, w1.alloc givO = x := ⟨_, rfl⟩
  rw [hwg] at hG bg
  unfold givO at hwg
  have HBPg := hide (hBP.below bg)
  have g0 := ((unhide HBPg).all 0 _ rfl).1
  have g1 := ((unhide HBPg).all 1 _ rfl).1
  have g2 := ((unhide HBPg).all 2 _ rfl).1
  have g3 := ((unhide HBPg).all 3 _ rfl).1
  have HLO1 := hide (show ∀ z, a2 = some z → cols ≠ [] → z.block < B from fun z hz hne => by have := hP.h2.block_lt hne z hz; have := bb.size; omega)
  have HBT := hide hBT
  have HP := hide hP
  have HX := hide hX
  have HG0 := hide hG
  have HK0 := hide bg
  have HBP := hide hBP
  have HW1 := hide bb
  have HBE := hide hBe
  clear hP hX hG bg bb hBP hBT
  unfold patV
  go_enter Tryz.func3, Tryz.ntmps3
  go_wp2_with fail
  have K1 := gpat_any B (.slice none 0 0) (.slice none 0 0) [] (fun _ => .slice none 0 0) rows width a1 n1 c1 st a2 n2 c2 cols wg (unhide HG0) (((unhide HP).h1.below (unhide HW1)).below (unhide HK0)) (((unhide HP).h2.below (unhide HW1)).below (unhide HK0)) (unhide HLO1) (unhide HP).l1 (unhide HP).l2 (by simp)
  unfold patV at K1
  refine K1.mono ?_
  clear K1 g0 g1 g2 g3
  rintro _ wp1 ⟨_, rfl, v1, u1, E1, E2, rfl, GP⟩
  try unfold patV
  have hK : Below w1.heap.size w1 wp1 := (unhide HK0).trans (GP.chg.below (unhide HK0).size (fun k hk e => by have := (unhide HG0).own_ge e; have := unhide HBE; omega))
  have HG1 := hide GP.giv
  have HE1 := hide (And.intro GP.x1 GP.x2)
  have HK1 := hide hK
  clear GP hK
  have K2 := hide (gints_any B v1 u1 ([] ++ [E1] ++ [E2]) (fun _ => .slice none 0 0) a n c xs wp1 (unhide HG1) (((unhide HX).below (unhide HW1)).below (unhide HK1)) hn (by simp))
  go_wp2_with fail
  refine (unhide K2).mono ?_
  rintro _ wp2 ⟨v2, u2, E3, rfl, hE3, hE3n, hG2, hC2, hO2⟩
  have hK2 : Below w1.heap.size w1 wp2 := (unhide HK1).trans (hC2.below (unhide HK1).size (fun k hk e => by have := (unhide HG1).own_ge e; have := unhide HBE; omega))
  have KB := (unhide HBT).one (some ⟨EntI.b E1, 0, none⟩) (some ⟨EntI.b E2, 0, none⟩) (some ⟨EntI.b E3, 0, none⟩) (EntI.c E1) (EntI.c E2) (EntI.c E3) wp2 (hG2.sli (by simp) (unhide HE1).1 (unhide HP).h1.len) (hG2.sli (by simp) (unhide HE1).2 (unhide HP).h2.len) (hG2.sli (by simp) hE3 (unhide HX).len)
  unfold patV at KB
  have HKB := hide KB
  have HG2 := hide hG2
  have HE3 := hide hE3
  have HK2 := hide hK2
  clear K2 hG2 hC2 hO2 hE3 hE3n hK2 KB
  have HSM9 := hide (unhide HBT).small
  cases o with
  | none =>
    go_wp2_with fail
    refine (unhide HKB).mono ?_
    rintro _ w3 ⟨b3, rfl⟩
    have hK3 := (unhide HK2).trans (b3.mono (unhide HK2).size)
    have HG3 := hide ((unhide HG2).below b3)
    have HB3 := hide ((unhide HBP).below hK3)
    have HK3 := hide hK3
    clear HKB b3 hK3
    have g0 := ((unhide HB3).all 0 _ rfl).1
    have g1 := ((unhide HB3).all 1 _ rfl).1
    have g2 := ((unhide HB3).all 2 _ rfl).1
    have g3 := ((unhide HB3).all 3 _ rfl).1
    have KW := (unhide HBT).two a1 a2 a c1 c2 c w3 (((unhide HP).h1.below (unhide HW1)).below (unhide HK3)) (((unhide HP).h2.below (unhide HW1)).below (unhide HK3)) (((unhide HX).below (unhide HW1)).below (unhide HK3))
    unfold patV at KW
    have HKW := hide KW
    clear KW
    go_wp2_with fail
    refine (unhide HKW).mono ?_
    rintro _ w4 ⟨b4, rfl⟩
    have hK4 := (unhide HK3).trans (b4.mono (unhide HK3).size)
    have HG4 := hide ((unhide HG3).below b4)
    have HK4 := hide hK4
    clear HKW b4 hK4 g0 g1 g2 g3
    have KS := hide (fun W (k : Below w4.heap.size w4 W) => sameInts_eq none none 0 0 0 [] W ⟨rfl, Nat.le_refl _, by unfold maxLen; omega, .inl rfl⟩ ⟨rfl, Nat.le_refl _, by unfold maxLen; omega, .inl rfl⟩ (by omega))
    have e1 : (er == er) = true := by simp
    go_wp2_with fail
    refine (num12_any er w4).mono ?_
    rintro _ wn ⟨rfl, hwn⟩
    rw [hwn]
    clear hwn wn
    go_wp2_with fail
    refine (unhide KS _ (Below.refl _ _)).mono ?_
    rintro _ w5 ⟨rfl, kx, hkx⟩
    have b5 : Below w4.heap.size w4 w5 := by rw [hkx]; exact bel_drewN (Below.refl _ _) kx
    have hK5 := (unhide HK4).trans (b5.mono (unhide HK4).size)
    have HG7 := hide ((unhide HG4).below b5)
    have HK7 := hide hK5
    clear KS hkx b5 hK5
    go_wp2_with fail
    refine (intactI_any w5 B v2 u2 ([] ++ [E1] ++ [E2] ++ [E3]) (unhide HG7) (by simp) (fun e he => by
      have l1 := (unhide HP).h1.len
      have l2 := (unhide HP).h2.len
      have l3 := (unhide HX).len
      have := (unhide HP).l1
      have := (unhide HP).l2
      simp at he
      rcases he with rfl | rfl | rfl
      · rw [(unhide HE1).1]; omega
      · rw [(unhide HE1).2]; omega
      · rw [unhide HE3]; omega)).mono ?_
    rintro _ w8 ⟨rfl, kx, hkx⟩
    have HB8 := hide (show Below w5.heap.size w5 w8 by rw [hkx]; exact bel_drewN (Below.refl _ _) kx)
    clear hkx
    go_wp2_with fail
    try go_ret
    have t1 := (unhide HW1).trans ((unhide HK7).mono (unhide HW1).size)
    exact ⟨rfl, t1.trans ((unhide HB8).mono t1.size)⟩
  | some y =>
    obtain ⟨m, cs, z⟩ := y
    have HSM := hide (unhide HSM9 m cs z rfl)
    have he0 := (unhide HSM).2
    subst he0
    go_wp2_with fail
    refine (unhide HKB).mono ?_
    rintro _ w3 ⟨b3, ga, rfl, hra, _⟩
    have hK3 := (unhide HK2).trans (b3.mono (unhide HK2).size)
    have HG3 := hide ((unhide HG2).below b3)
    have HB3 := hide ((unhide HBP).below hK3)
    have HK3 := hide hK3
    clear HKB b3 hK3
    have g0 := ((unhide HB3).all 0 _ rfl).1
    have g1 := ((unhide HB3).all 1 _ rfl).1
    have g2 := ((unhide HB3).all 2 _ rfl).1
    have g3 := ((unhide HB3).all 3 _ rfl).1
    have KW := (unhide HBT).two a1 a2 a c1 c2 c w3 (((unhide HP).h1.below (unhide HW1)).below (unhide HK3)) (((unhide HP).h2.below (unhide HW1)).below (unhide HK3)) (((unhide HX).below (unhide HW1)).below (unhide HK3))
    unfold patV at KW
    have HKW := hide KW
    clear KW
    go_wp2_with fail
    refine (unhide HKW).mono ?_
    rintro _ w4 ⟨b4, gx, rfl, hrx, _⟩
    have HRA := hide (hra.below b4)
    have HRX := hide hrx
    clear hra hrx
    have hK4 := (unhide HK3).trans (b4.mono (unhide HK3).size)
    have HG4 := hide ((unhide HG3).below b4)
    have HK4 := hide hK4
    clear HKW b4 hK4 g0 g1 g2 g3
    have KS := hide (fun W (k : Below w4.heap.size w4 W) => sameInts_eq (some ⟨ga, 0, none⟩) (some ⟨gx, 0, none⟩) m m m (csL cs m) W (((unhide HRA).below k).sli (unhide HSM).1) (((unhide HRX).below k).sli (unhide HSM).1) (by have := (unhide HSM).1; omega))
    have e1 : ((0 : Int) == 0) = true := by simp
    have e2 : ((z : Int) == (z : Int)) = true := by simp
    go_wp2_with fail
    refine (num12_any 0 w4).mono ?_
    rintro _ wn ⟨rfl, hwn⟩
    rw [hwn]
    clear hwn wn
    go_wp2_with fail
    refine (unhide KS _ (Below.refl _ _)).mono ?_
    rintro _ w5 ⟨rfl, kx, hkx⟩
    have b5 : Below w4.heap.size w4 w5 := by rw [hkx]; exact bel_drewN (Below.refl _ _) kx
    have hK5 := (unhide HK4).trans (b5.mono (unhide HK4).size)
    have HG7 := hide ((unhide HG4).below b5)
    have HK7 := hide hK5
    clear KS hkx b5 hK5
    go_wp2_with fail
    refine (intactI_any w5 B v2 u2 ([] ++ [E1] ++ [E2] ++ [E3]) (unhide HG7) (by simp) (fun e he => by
      have l1 := (unhide HP).h1.len
      have l2 := (unhide HP).h2.len
      have l3 := (unhide HX).len
      have := (unhide HP).l1
      have := (unhide HP).l2
      simp at he
      rcases he with rfl | rfl | rfl
      · rw [(unhide HE1).1]; omega
      · rw [(unhide HE1).2]; omega
      · rw [unhide HE3]; omega)).mono ?_
    rintro _ w8 ⟨rfl, kx, hkx⟩
    have HB8 := hide (show Below w5.heap.size w5 w8 by rw [hkx]; exact bel_drewN (Below.refl _ _) kx)
    clear hkx
    go_wp2_with fail
    try go_ret
    have t1 := (unhide HW1).trans ((unhide HK7).mono (unhide HW1).size)
    exact ⟨rfl, t1.trans ((unhide HB8).mono t1.size)⟩
theorem law_own : ownKnob Tryz.prog.godebug = none := by kernel_rfl
theorem law_laid : laidOutB Tryz.prog = true := by kernel_rfl
set_option maxRecDepth 100000 in
theorem colourGreedy_lifted (os : Os) (started : os.Started) (H : Type) (enc : TypeId × Value → H) :
    ReturnsInHanded {} Tryz.checked os 3 .any (Rows.colourGreedySpec.pre6 enc Tryz.prog Tryz.f3 Rows.colourGreedyRow.domain false) (Rows.colourGreedySpec.post enc Tryz.prog Tryz.f3 false true false false) := by
  refine returnsInHanded_of_change_sized (C := Tryz.checked) law_own started (by kernel_rfl) Tryz.func3
    (ChangeSpec.witness6 (enc := enc) (C := Tryz.checked) false ⟨#[], #[.int .i64 0, .agg #[.int .i64 0, .int .i64 0, .slice none 0 0, .slice none 0 0], .slice none 0 0], []⟩ 8 (by kernel_rfl) (by kernel_rfl) (by kernel_rfl) (by kernel_rfl)) ?_
  intro W base args ds gs before hval0 hW hcnd hsz _
  have hval : ∀ (j : Nat) t v, Tryz.f3.params[j]? = some t → args[j]? = some v → Value.okWide Tryz.prog W .any base t v := hval0
  have hW' := hW
  obtain ⟨p, q, hA0, hV, rfl, hfz, hnd⟩ := hW
  have hA : DataW.TrodAll enc Tryz.prog W 0 (fun _ => true) true Tryz.f3.params.toList args.toList ds p := hA0
  rw [Tryz.params3] at hA hval hsz
  obtain ⟨v0, vs0, d0, ds0, p0, q0, hargs, rfl, rfl, h0, r0⟩ := trodAll_cons hA
  obtain ⟨v1, vs1, d1, ds1, p1, q1, rfl, rfl, rfl, h1, r1⟩ := trodAll_cons r0
  obtain ⟨v2, vs2, d2, ds2, p2, q2, rfl, rfl, rfl, h2, r2⟩ := trodAll_cons r1
  obtain ⟨rfl, rfl, rfl⟩ := trodAll_nil r2
  obtain rfl : args = #[v0, v1, v2] := by cases args; simp_all
  obtain ⟨rfl, rfl⟩ := trodVars_none hV
  have k1 := h1
  have k2 := h2
  have lt1 : ∀ x ∈ p1, x.block < W.heap.size := by obtain ⟨m, hm⟩ := k1; exact DataW.trod_lt m _ _ _ hm
  have lt2 : ∀ x ∈ p2, x.block < W.heap.size := by obtain ⟨m, hm⟩ := k2; exact DataW.trod_lt m _ _ _ hm
  obtain ⟨k, rfl, rfl, rfl, wf0⟩ := open_int Tryz.underlying22 (hval 0 22 v0 rfl rfl) h0
  obtain ⟨rows, width, a1, n1, c1, st, a2, n2, c2, cols, rfl, ho1⟩ := arg_patZ (hval 1 25 v1 rfl rfl) h1 (fun k hk => by simpa using List.all_eq_true.1 hsz k (DataW.weights_mem_each (j := 1) rfl rfl k hk))
  obtain ⟨a, n, c, xs, rfl, ho2, hn2⟩ := arg_intsZ (hval 2 23 v2 rfl rfl) h2 (fun k hk => by simpa using List.all_eq_true.1 hsz k (DataW.weights_mem_each (j := 2) rfl rfl k hk))
  clear hA0 hval0
  refine (colourGreedy_walk k rows width a1 n1 c1 st a2 n2 c2 cols a n c xs W ho1 ho2 hn2).mono fun e W' ⟨he, bel⟩ => ?_
  subst he
  exact ⟨_, rfl, _, _, _, [], _, [], hW', trodAll_mk1 (shut_bool Tryz.underlying4 _), (trodAll_cons_mk (shut_int Tryz.underlying22 wf0) (trodAll_cons_mk (Below.trod law_laid (by kernel_rfl) (of_decide_eq_true (by kernel_rfl)) k1 bel lt1) (trodAll_cons_mk (Below.trod law_laid (by kernel_rfl) (of_decide_eq_true (by kernel_rfl)) k2 bel lt2) trodAll_mk0))), rfl, bel.frame _, fun h => by cases h⟩

theorem colourGreedy_holds : Rows.ColourGreedySaid :=
  OpenClaim.holds_of_wide 3 Tryz.f3 rfl rfl rfl rfl rfl rfl rfl ⟨rfl, rfl, rfl, rfl, rfl⟩ rfl rfl rfl rfl rfl (by kernel_rfl) Tryz.func3 (by kernel_rfl)
    (of_decide_eq_true (by kernel_rfl)) (by unfold Func.isWrapper; first | (rw [if_pos (by decide +kernel)]; kernel_rfl) | (rw [if_neg (by decide +kernel)]; exact ⟨rfl, rfl⟩))
    (fun os started H enc _ => colourGreedy_lifted os started H enc)
#print axioms colourGreedy_holds
end Go.Proofs.YtohamaiobhikiaaGreat
