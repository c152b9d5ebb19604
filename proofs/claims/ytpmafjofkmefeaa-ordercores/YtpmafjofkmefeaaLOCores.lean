/-
  THE LAW OrderCores: the walk, the row.
-/
import Derived.Test.YtpmafjofkmefeaaCr5
import Derived.Test.YtpmafjofkmefeaaSi8
import Derived.Test.YtpmafjofkmefeaaRows
import Derived.Deep.DeepHandedRow
import Derived.Deep.RegionHeld3
namespace Go.Proofs.Ytpmafjofkmefeaa
open Go.ChangeShapes Go.WideShapes Go.ChangeAt Go.RowKit Go.Deep
set_option linter.unusedVariables false

theorem own_nilP {B k : Nat} (hk : k ≠ B) : ¬ Own B (.slice none 0 0) (.slice none 0 0) k := fun e => by
  rcases e with e | e | e
  · exact hk e
  · simp [Value.ownBlock] at e
  · simp [Value.ownBlock] at e
set_option maxRecDepth 100000 in
theorem arg_intsZ {H : Type} {enc : TypeId × Value → H} {W : World} {v : Value} {d : DataW H} {p : List MemPlace} {r : Reach} {b0 : Nat}
    (hv : Value.okWide Try.prog W r b0 22 v) (h : DataW.Trod enc Try.prog W 0 (fun _ => true) true 22 v d p) (hz : ∀ k ∈ d.weights Try.prog 22, k ≤ reachBytes) :
    ∃ a n c xs, v = .slice a n c ∧ SlI W a n c xs ∧ n ≤ 17592186044000 := by
  obtain ⟨a, n, c, rfl⟩ := okWide_slice Try.underlying22 hv
  obtain ⟨fuel, hf⟩ := h
  obtain ⟨a', n', c', xs, e, h1, h2⟩ := trod_intsZ hf hz
  simp [Value.cells] at e
  obtain ⟨rfl, rfl, rfl⟩ := e
  exact ⟨a, n, c, xs, rfl, h1, h2⟩
set_option maxRecDepth 100000 in
set_option maxHeartbeats 64000000 in
theorem orderCores_walk (rows width : Int) (a1 : Option Addr) (n1 c1 : Nat) (st : List Int) (a2 : Option Addr) (n2 c2 : Nat) (cols : List Int) (w : World) (hP : PatZ w a1 n1 c1 st a2 n2 c2 cols) :
    Calls Try.prog 3 #[patV rows width a1 n1 c1 a2 n2 c2] w fun e w' => e = .returned (.bool true) ∧ Below w.heap.size w w' := by
  obtain ⟨w1, hw1⟩ : ∃ x, w.alloc (.cells #[.int .i64 rows, .int .i64 width, .slice a1 n1 c1, .slice a2 n2 c2] 24) = x := ⟨_, rfl⟩
  have bb : Below w.heap.size w w1 := by rw [← hw1]; exact (Below.refl _ _).alloc (Nat.le_refl _) _
  have hBP : BoxP w1 w.heap.size [.int .i64 rows, .int .i64 width, .slice a1 n1 c1, .slice a2 n2 c2] := by have := BoxP.made w #[.int .i64 rows, .int .i64 width, .slice a1 n1 c1, .slice a2 n2 c2] 24; rw [hw1] at this; exact this
  obtain ⟨B, hBe⟩ : ∃ B, w1.heap.size = B := ⟨_, rfl⟩
  have hG := GivI.made w1
  rw [hBe] at hG
  have bg : Below w1.heap.size w1 (w1.alloc givO) := (Below.refl _ _).alloc (Nat.le_refl _) _
  obtain ⟨wg, hwg⟩ : ∃ x, w1.alloc givO = x := ⟨_, rfl⟩
  rw [hwg] at hG bg
  unfold givO at hwg
  have HBPg := hide (hBP.below bg)
  have g0 := ((unhide HBPg).all 0 _ rfl).1
  have g1 := ((unhide HBPg).all 1 _ rfl).1
  have g2 := ((unhide HBPg).all 2 _ rfl).1
  have g3 := ((unhide HBPg).all 3 _ rfl).1
  have HLO1 := hide (show ∀ z, a2 = some z → cols ≠ [] → z.block < B from fun z hz hne => by have := hP.h2.block_lt hne z hz; have := bb.size; omega)
  have HP := hide hP
  have HG0 := hide hG
  have HK0 := hide bg
  have HBP := hide hBP
  have HW1 := hide bb
  have HBE := hide hBe
  clear hP hG bg bb hBP
  unfold patV
  go_enter Try.func3, Try.ntmps3
  go_wp2_with fail
  have hHeld : (fun w' => w'.cell? ⟨w.heap.size, 0, none⟩ = some (.int .i64 rows) ∧ w'.cell? ⟨w.heap.size, 1, none⟩ = some (.int .i64 width) ∧ w'.cell? ⟨w.heap.size, 2, none⟩ = some (.slice a1 n1 c1) ∧ w'.cell? ⟨w.heap.size, 3, none⟩ = some (.slice a2 n2 c2)) wg.drew := ⟨g0, g1, g2, g3⟩
  refine anyTill_region (fun w' => w'.cell? ⟨w.heap.size, 0, none⟩ = some (.int .i64 rows) ∧ w'.cell? ⟨w.heap.size, 1, none⟩ = some (.int .i64 width) ∧ w'.cell? ⟨w.heap.size, 2, none⟩ = some (.slice a1 n1 c1) ∧ w'.cell? ⟨w.heap.size, 3, none⟩ = some (.slice a2 n2 c2)) 12 (by kernel_rfl) ?_
  refine anyTill_take (i := 0) (v := ?_) rfl rfl (by kernel_rfl) (by kernel_rfl) (by kernel_rfl) (by kernel_rfl) (fun _ _ _ h => h) (Or.inl ⟨by rfl, ?_⟩) (by assumption) ?_
  rotate_left 1
  · intro W hSw
    try dsimp only at hSw
    go_simp
    try with_reducible rfl
  refine anyTill_take (i := 1) (v := ?_) rfl rfl (by kernel_rfl) (by kernel_rfl) (by kernel_rfl) (by kernel_rfl) (fun _ _ _ h => h) (Or.inl ⟨by rfl, ?_⟩) (by assumption) ?_
  rotate_left 1
  · intro W hSw
    try dsimp only at hSw
    go_simp
    try with_reducible rfl
  refine anyTill_take (i := 3) (v := ?_) rfl rfl (by kernel_rfl) (by kernel_rfl) (by kernel_rfl) (by kernel_rfl) (fun _ _ _ h => h) (Or.inl ⟨by rfl, ?_⟩) (by assumption) ?_
  rotate_left 1
  · intro W hSw
    try dsimp only at hSw
    go_simp
    try with_reducible rfl
  refine anyTill_one (i := 2) (by kernel_rfl) rfl (by rfl) (fun K hK => ?_)
  go_simp
  have bd : Below wg.heap.size wg wg.drew := (Below.refl _ _).drew
  have K1 := gpat_any B (.slice none 0 0) (.slice none 0 0) [] (fun _ => .slice none 0 0) rows width a1 n1 c1 st a2 n2 c2 cols wg.drew ((unhide HG0).below bd) ((((unhide HP).h1.below (unhide HW1)).below (unhide HK0)).below bd) ((((unhide HP).h2.below (unhide HW1)).below (unhide HK0)).below bd) (unhide HLO1) (unhide HP).l1 (unhide HP).l2 (by simp)
  unfold patV at K1
  refine K1.mono ?_
  clear K1 g0 g1 g2 g3 hHeld
  rintro _ wp1 ⟨_, rfl, v1, u1, E1, E2, rfl, GP⟩
  try unfold patV
  have hkd : Below w1.heap.size w1 wg.drew := (unhide HK0).trans (bd.mono (unhide HK0).size)
  have hK' : Below w1.heap.size w1 wp1 := hkd.trans (GP.chg.below hkd.size (fun k hk e => by have := ((unhide HG0).below bd).own_ge e; have := unhide HBE; omega))
  have HG1 := hide GP.giv
  have HE1 := hide (And.intro GP.x1 GP.x2)
  have HK1 := hide hK'
  have HB1 := hide ((unhide HBP).below hK')
  clear GP hK' hkd bd
  have g0 := ((unhide HB1).all 0 _ rfl).1
  have g1 := ((unhide HB1).all 1 _ rfl).1
  have g2 := ((unhide HB1).all 2 _ rfl).1
  have g3 := ((unhide HB1).all 3 _ rfl).1
  refine hK _ _ (fun _ => ⟨g0, g1, g2, g3⟩) ?_
  clear hK K
  have KB := olawdegens_any rows width (some ⟨EntI.b E1, 0, none⟩) (some ⟨EntI.b E2, 0, none⟩) (EntI.c E1) (EntI.c E2) a1 a2 n1 c1 n2 c2 st cols wp1 ((unhide HG1).sli (by simp) (unhide HE1).1 (unhide HP).h1.len) ((unhide HG1).sli (by simp) (unhide HE1).2 (unhide HP).h2.len) (((unhide HP).h1.below (unhide HW1)).below (unhide HK1)) (((unhide HP).h2.below (unhide HW1)).below (unhide HK1)) (unhide HP).l1 (unhide HP).l2
  unfold patV at KB
  have HKB := hide KB
  clear KB
  refine anyTill_one (i := 4) (by kernel_rfl) rfl (by rfl) (fun K hK => ?_)
  go_simp
  refine (unhide HKB).mono ?_
  clear g0 g1 g2 g3
  rintro _ w3 ⟨rfl, b3⟩
  have hK3 := (unhide HK1).trans (b3.mono (unhide HK1).size)
  have HG3 := hide ((unhide HG1).below b3)
  have HB3 := hide ((unhide HBP).below hK3)
  have HK3 := hide hK3
  clear HKB b3 hK3
  have g0 := ((unhide HB3).all 0 _ rfl).1
  have g1 := ((unhide HB3).all 1 _ rfl).1
  have g2 := ((unhide HB3).all 2 _ rfl).1
  have g3 := ((unhide HB3).all 3 _ rfl).1
  refine hK _ _ (fun _ => ⟨g0, g1, g2, g3⟩) ?_
  clear hK K
  refine anyTill_one (i := 5) (by kernel_rfl) rfl (by rfl) (fun K hK => ?_)
  go_simp
  refine hK _ _ (fun _ => ⟨g0, g1, g2, g3⟩) ?_
  clear hK K
  refine anyTill_one (i := 6) (by kernel_rfl) rfl (by rfl) (fun K hK => ?_)
  go_simp
  refine hK _ _ (fun _ => ⟨g0, g1, g2, g3⟩) ?_
  clear hK K
  have HEL := hide (show ∀ e ∈ [] ++ [E1] ++ [E2], e.xs.length ≤ 17592186044000 from fun e he => by
    simp at he
    rcases he with rfl | rfl
    · rw [(unhide HE1).1, (unhide HP).h1.len]; exact (unhide HP).l1
    · rw [(unhide HE1).2, (unhide HP).h2.len]; exact (unhide HP).l2)
  refine anyTill_one (i := 7) (by kernel_rfl) rfl (by rfl) (fun K hK => ?_)
  go_simp
  refine (intactI_any w3 B v1 u1 ([] ++ [E1] ++ [E2]) (unhide HG3) (by simp) (unhide HEL)).mono ?_
  clear g0 g1 g2 g3
  rintro _ w4 ⟨rfl, kx, hkx⟩
  have HK4 := hide (show Below w1.heap.size w1 w4 from by rw [hkx]; exact bel_drewN (unhide HK3) kx)
  have HB4 := hide ((unhide HBP).below (unhide HK4))
  clear hkx
  have g0 := ((unhide HB4).all 0 _ rfl).1
  have g1 := ((unhide HB4).all 1 _ rfl).1
  have g2 := ((unhide HB4).all 2 _ rfl).1
  have g3 := ((unhide HB4).all 3 _ rfl).1
  refine hK _ _ (fun _ => ⟨g0, g1, g2, g3⟩) ?_
  clear hK K
  refine anyTill_one (i := 8) (by kernel_rfl) rfl (by rfl) (fun K hK => ?_)
  go_simp
  refine hK _ _ (fun _ => ⟨g0, g1, g2, g3⟩) ?_
  clear hK K
  refine anyTill_one (i := 9) (by kernel_rfl) rfl (by rfl) (fun K hK => ?_)
  go_simp
  refine hK _ _ (fun _ => ⟨g0, g1, g2, g3⟩) ?_
  clear hK K
  refine anyTill_one (i := 10) (by kernel_rfl) rfl (by rfl) (fun K hK => ?_)
  go_simp
  refine (oalive_any w4).mono ?_
  clear g0 g1 g2 g3
  rintro _ w5 ⟨rfl, b5⟩
  have HK5 := hide ((unhide HK4).trans (b5.mono (unhide HK4).size))
  have HB5 := hide ((unhide HBP).below (unhide HK5))
  clear b5
  have g0 := ((unhide HB5).all 0 _ rfl).1
  have g1 := ((unhide HB5).all 1 _ rfl).1
  have g2 := ((unhide HB5).all 2 _ rfl).1
  have g3 := ((unhide HB5).all 3 _ rfl).1
  refine hK _ _ (fun _ => ⟨g0, g1, g2, g3⟩) ?_
  clear hK K
  refine anyTill_one (i := 11) (by kernel_rfl) rfl (by rfl) (fun K hK => ?_)
  go_simp
  refine hK _ _ (fun _ => ⟨g0, g1, g2, g3⟩) ?_
  clear hK K
  refine anyTill_one (i := 12) (by kernel_rfl) rfl (by rfl) (fun K hK => ?_)
  go_simp
  refine hK _ _ (fun h => absurd rfl h) ?_
  clear hK K g0 g1 g2 g3
  refine anyTill_done (by kernel_rfl) ?_
  go_wp2_with fail
  try go_ret
  exact ⟨rfl, (unhide HW1).trans ((unhide HK5).mono (unhide HW1).size)⟩
theorem law_own : ownKnob Try.prog.godebug = none := by kernel_rfl
theorem law_laid : laidOutB Try.prog = true := by kernel_rfl
set_option maxRecDepth 100000 in
theorem orderCores_lifted (os : Os) (started : os.Started) (H : Type) (enc : TypeId × Value → H) :
    ReturnsInHanded {} Try.checked os 3 .any (Rows.orderCoresSpec.pre6 enc Try.prog Try.f3 Rows.orderCoresRow.domain false) (Rows.orderCoresSpec.post enc Try.prog Try.f3 false true false false) := by
  refine returnsInHanded_of_change_sized (C := Try.checked) law_own started (by kernel_rfl) Try.func3
    (ChangeSpec.witness6 (enc := enc) (C := Try.checked) false ⟨#[], #[.agg #[.int .i64 0, .int .i64 0, .slice none 0 0, .slice none 0 0]], []⟩ 8 (by kernel_rfl) (by kernel_rfl) (by kernel_rfl) (by kernel_rfl)) ?_
  intro W base args ds gs before hval0 hW hcnd hsz _
  have hval : ∀ (j : Nat) t v, Try.f3.params[j]? = some t → args[j]? = some v → Value.okWide Try.prog W .any base t v := hval0
  have hW' := hW
  obtain ⟨p, q, hA0, hV, rfl, hfz, hnd⟩ := hW
  have hA : DataW.TrodAll enc Try.prog W 0 (fun _ => true) true Try.f3.params.toList args.toList ds p := hA0
  rw [Try.params3] at hA hval hsz
  obtain ⟨v1, vs1, d1, ds1, p1, q1, hargs, rfl, rfl, h1, r1⟩ := trodAll_cons hA
  obtain ⟨rfl, rfl, rfl⟩ := trodAll_nil r1
  obtain rfl : args = #[v1] := by cases args; simp_all
  obtain ⟨rfl, rfl⟩ := trodVars_none hV
  have k1 := h1
  have lt1 : ∀ x ∈ p1, x.block < W.heap.size := by obtain ⟨m, hm⟩ := k1; exact DataW.trod_lt m _ _ _ hm
  obtain ⟨rows, width, a1, n1, c1, st, a2, n2, c2, cols, rfl, ho1⟩ := arg_patZ (hval 0 24 v1 rfl rfl) h1 (fun k hk => by simpa using List.all_eq_true.1 hsz k (DataW.weights_mem_each (j := 0) rfl rfl k hk))
  clear hA0 hval0
  refine (orderCores_walk rows width a1 n1 c1 st a2 n2 c2 cols W ho1).mono fun e W' ⟨he, bel⟩ => ?_
  subst he
  exact ⟨_, rfl, _, _, _, [], _, [], hW', trodAll_mk1 (shut_bool Try.underlying4 _), (trodAll_cons_mk (Below.trod law_laid (by kernel_rfl) (of_decide_eq_true (by kernel_rfl)) k1 bel lt1) trodAll_mk0), rfl, bel.frame _, fun h => by cases h⟩

theorem orderCores_holds : Rows.OrderCoresSaid :=
  OpenClaim.holds_of_wide 3 Try.f3 rfl rfl rfl rfl rfl rfl rfl ⟨rfl, rfl, rfl, rfl, rfl⟩ rfl rfl rfl rfl rfl (by kernel_rfl) Try.func3 (by kernel_rfl)
    (of_decide_eq_true (by kernel_rfl)) (by unfold Func.isWrapper; first | (rw [if_pos (by decide +kernel)]; kernel_rfl) | (rw [if_neg (by decide +kernel)]; exact ⟨rfl, rfl⟩))
    (fun os started H enc _ => orderCores_lifted os started H enc)
#print axioms orderCores_holds
end Go.Proofs.Ytpmafjofkmefeaa
