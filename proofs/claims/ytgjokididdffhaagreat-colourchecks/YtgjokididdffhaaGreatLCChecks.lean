/- LCChecks -/
import Derived.Test.YtgjokididdffhaaGreatCxp
import Derived.Test.YtgjokididdffhaaGreatSjp
import Derived.Test.YtgjokididdffhaaGreatRows
import Derived.Deep.DeepHandedRow
import Derived.Deep.RegionHeld3
namespace Go.Proofs.YtgjokididdffhaaGreat
open Go.ChangeShapes Go.WideShapes Go.ChangeAt Go.RowKit Go.Deep
set_option linter.unusedVariables false
set_option maxRecDepth 100000 in
theorem arg_intsZ {H : Type} {enc : TypeId × Value → H} {W : World} {v : Value} {d : DataW H} {p : List MemPlace} {r : Reach} {b0 : Nat}
    (hv : Value.okWide Tryz.prog W r b0 23 v) (h : DataW.Trod enc Tryz.prog W 0 (fun _ => true) true 23 v d p) (hz : ∀ k ∈ d.weights Tryz.prog 23, k ≤ reachBytes) :
    ∃ a n c xs, v = .slice a n c ∧ SlI W a n c xs ∧ n ≤ 17592186044000 := by
  obtain ⟨a, n, c, rfl⟩ := okWide_slice Tryz.underlying23 hv
  obtain ⟨fuel, hf⟩ := h
  obtain ⟨a', n', c', xs, e, h1, h2⟩ := trod_intsZ hf hz
  simp [Value.cells] at e
  obtain ⟨rfl, rfl, rfl⟩ := e
  exact ⟨a, n, c, xs, rfl, h1, h2⟩
set_option maxRecDepth 100000 in
set_option maxHeartbeats 64000000 in
theorem colourChecks_walk (k rows width : Int) (a1 : Option Addr) (n1 c1 : Nat) (st : List Int) (a2 : Option Addr) (n2 c2 : Nat) (cols : List Int) (a : Option Addr) (n c : Nat) (xs : List Int) (w : World) (hP : PatZ w a1 n1 c1 st a2 n2 c2 cols) (hX : SlI w a n c xs) (hn : n ≤ 17592186044000) :
    Calls Tryz.prog 8 #[.int .i64 k, patV rows width a1 n1 c1 a2 n2 c2, .slice a n c] w fun e w' => e = .returned (.bool true) ∧ Below w.heap.size w w' := by
  obtain ⟨L, er, hBT⟩ := chk_two k rows width n1 n2 n st cols xs hP.h1.len hP.h2.len hP.l1 hP.l2 hn
  obtain ⟨w1, hw1⟩ : ∃ x, w.alloc (.cells #[.int .i64 rows, .int .i64 width, .slice a1 n1 c1, .slice a2 n2 c2] 25) = x := ⟨_, rfl⟩
  have bb : Below w.heap.size w w1 := by rw [← hw1]; exact (Below.refl _ _).alloc (Nat.le_refl _) _
  have hBP : BoxP w1 w.heap.size [.int .i64 rows, .int .i64 width, .slice a1 n1 c1, .slice a2 n2 c2] := by have := BoxP.made w #[.int .i64 rows, .int .i64 width, .slice a1 n1 c1, .slice a2 n2 c2] 25; rw [hw1] at this; exact this
  obtain ⟨B, hBe⟩ : ∃ B, w1.heap.size = B := ⟨_, rfl⟩
  have hG := GivI.made w1
  rw [hBe] at hG
  have bg : Below w1.heap.size w1 (w1.alloc givO) := (Below.refl _ _).alloc (Nat.le_refl _) _
  obtain ⟨wg, hwg⟩ : ∃ x, w1.alloc givO = x := ⟨_, rfl⟩
  rw [hwg] at hG bg
  unfold givO at hwg
  have HBPg := hide (hBP.below bg)
  have g0 := ((unhide HBPg).all 0 _ rfl).1
  have g1 := ((unhide HBPg).all 1 _ rfl).1
  have g2 := ((unhide HBPg).all 2 _ rfl).1
  have g3 := ((unhide HBPg).all 3 _ rfl).1
  have HLO1 := hide (show ∀ z, a2 = some z → cols ≠ [] → z.block < B from fun z hz hne => by have := hP.h2.block_lt hne z hz; have := bb.size; omega)
  have HBT := hide hBT
  have HP := hide hP
  have HX := hide hX
  have HG0 := hide hG
  have HK0 := hide bg
  have HBP := hide hBP
  have HW1 := hide bb
  have HBE := hide hBe
  clear hP hX hG bg bb hBP hBT
  unfold patV
  go_enter Tryz.func8, Tryz.ntmps8
  go_wp2_with fail
  have K1 := gpat_any B (.slice none 0 0) (.slice none 0 0) [] (fun _ => .slice none 0 0) rows width a1 n1 c1 st a2 n2 c2 cols wg (unhide HG0) (((unhide HP).h1.below (unhide HW1)).below (unhide HK0)) (((unhide HP).h2.below (unhide HW1)).below (unhide HK0)) (unhide HLO1) (unhide HP).l1 (unhide HP).l2 (by simp)
  unfold patV at K1
  refine K1.mono ?_
  clear K1 g0 g1 g2 g3
  rintro _ wp1 ⟨_, rfl, v1, u1, E1, E2, rfl, GP⟩
  try unfold patV
  have hK : Below w1.heap.size w1 wp1 := (unhide HK0).trans (GP.chg.below (unhide HK0).size (fun k hk e => by have := (unhide HG0).own_ge e; have := unhide HBE; omega))
  have HG1 := hide GP.giv
  have HE1 := hide (And.intro GP.x1 GP.x2)
  have HK1 := hide hK
  clear GP hK
  have K2 := hide (gints_any B v1 u1 ([] ++ [E1] ++ [E2]) (fun _ => .slice none 0 0) a n c xs wp1 (unhide HG1) (((unhide HX).below (unhide HW1)).below (unhide HK1)) hn (by simp))
  go_wp2_with fail
  refine (unhide K2).mono ?_
  rintro _ wp2 ⟨v2, u2, E3, rfl, hE3, hE3n, hG2, hC2, hO2⟩
  have hK2 : Below w1.heap.size w1 wp2 := (unhide HK1).trans (hC2.below (unhide HK1).size (fun k hk e => by have := (unhide HG1).own_ge e; have := unhide HBE; omega))
  have HG2 := hide hG2
  have HE3 := hide hE3
  have HK2 := hide hK2
  clear K2 hG2 hC2 hO2 hE3 hE3n hK2
  have KC := cCheck_by k rows width er L (some ⟨EntI.b E1, 0, none⟩) (some ⟨EntI.b E2, 0, none⟩) (some ⟨EntI.b E3, 0, none⟩) n1 (EntI.c E1) n2 (EntI.c E2) n (EntI.c E3) wp2 (fun W b => (unhide HBT).one (some ⟨EntI.b E1, 0, none⟩) (some ⟨EntI.b E2, 0, none⟩) (some ⟨EntI.b E3, 0, none⟩) (EntI.c E1) (EntI.c E2) (EntI.c E3) W (((unhide HG2).below b).sli (by simp) (unhide HE1).1 (unhide HP).h1.len) (((unhide HG2).below b).sli (by simp) (unhide HE1).2 (unhide HP).h2.len) (((unhide HG2).below b).sli (by simp) (unhide HE3) (unhide HX).len))
  unfold patV at KC
  have HKC := hide KC
  clear KC
  go_wp2_with fail
  refine (unhide HKC).mono ?_
  rintro _ w3 ⟨rfl, b3⟩
  have hK3 := (unhide HK2).trans (b3.mono (unhide HK2).size)
  have HG3 := hide ((unhide HG2).below b3)
  have HB3 := hide ((unhide HBP).below hK3)
  have HK3 := hide hK3
  clear HKC b3 hK3
  have g0 := ((unhide HB3).all 0 _ rfl).1
  have g1 := ((unhide HB3).all 1 _ rfl).1
  have g2 := ((unhide HB3).all 2 _ rfl).1
  have g3 := ((unhide HB3).all 3 _ rfl).1
  have K3 := gpat_any B v2 u2 ([] ++ [E1] ++ [E2] ++ [E3]) (fun _ => .slice none 0 0) rows width a1 n1 c1 st a2 n2 c2 cols w3 (unhide HG3) (((unhide HP).h1.below (unhide HW1)).below (unhide HK3)) (((unhide HP).h2.below (unhide HW1)).below (unhide HK3)) (unhide HLO1) (unhide HP).l1 (unhide HP).l2 (by simp)
  unfold patV at K3
  have HK9 := hide K3
  clear K3
  go_wp2_with fail
  refine (unhide HK9).mono ?_
  clear HK9 g0 g1 g2 g3
  rintro _ wp4 ⟨_, rfl, v4, u4, E4, E5, rfl, GP⟩
  try unfold patV
  have hK : Below w1.heap.size w1 wp4 := (unhide HK3).trans (GP.chg.below (unhide HK3).size (fun k hk e => by have := (unhide HG3).own_ge e; have := unhide HBE; omega))
  have HG4 := hide GP.giv
  have HE4 := hide (And.intro GP.x1 GP.x2)
  have HK4 := hide hK
  clear GP hK
  have K5 := hide (gints_any B v4 u4 ([] ++ [E1] ++ [E2] ++ [E3] ++ [E4] ++ [E5]) (fun _ => .slice none 0 0) a n c xs wp4 (unhide HG4) (((unhide HX).below (unhide HW1)).below (unhide HK4)) hn (by simp))
  go_wp2_with fail
  refine (unhide K5).mono ?_
  rintro _ wp5 ⟨v5, u5, E6, rfl, hE6, hE6n, hG5, hC5, hO5⟩
  have hK5 : Below w1.heap.size w1 wp5 := (unhide HK4).trans (hC5.below (unhide HK4).size (fun k hk e => by have := (unhide HG4).own_ge e; have := unhide HBE; omega))
  have KB := (unhide HBT).one (some ⟨EntI.b E4, 0, none⟩) (some ⟨EntI.b E5, 0, none⟩) (some ⟨EntI.b E6, 0, none⟩) (EntI.c E4) (EntI.c E5) (EntI.c E6) wp5 (hG5.sli (by simp) (unhide HE4).1 (unhide HP).h1.len) (hG5.sli (by simp) (unhide HE4).2 (unhide HP).h2.len) (hG5.sli (by simp) hE6 (unhide HX).len)
  unfold patV at KB
  have HKB := hide KB
  have HG5 := hide hG5
  have HE6 := hide hE6
  have HB5 := hide ((unhide HBP).below hK5)
  have HK5 := hide hK5
  clear K5 hG5 hC5 hO5 hE6 hE6n hK5 KB
  go_wp2_with fail
  refine (unhide HKB).mono ?_
  rintro _ w6 ⟨b6, al, cl, rfl, hol⟩
  have hSL : SlI w6 al L.length cl L := by
    obtain ⟨a9, c9, e9, s9⟩ := own_slI hol
    cases e9
    exact s9
  have HSL := hide hSL
  have hK6 := (unhide HK5).trans (b6.mono (unhide HK5).size)
  have HG6 := hide ((unhide HG5).below b6)
  have HB6 := hide ((unhide HBP).below hK6)
  have HK6 := hide hK6
  clear HKB b6 hK6 hol hSL
  have g0 := ((unhide HB6).all 0 _ rfl).1
  have g1 := ((unhide HB6).all 1 _ rfl).1
  have g2 := ((unhide HB6).all 2 _ rfl).1
  have g3 := ((unhide HB6).all 3 _ rfl).1
  have KW := (unhide HBT).two a1 a2 a c1 c2 c w6 (((unhide HP).h1.below (unhide HW1)).below (unhide HK6)) (((unhide HP).h2.below (unhide HW1)).below (unhide HK6)) (((unhide HX).below (unhide HW1)).below (unhide HK6))
  unfold patV at KW
  have HKW := hide KW
  clear KW
  go_wp2_with fail
  refine (unhide HKW).mono ?_
  rintro _ w7 ⟨b7, ax, cx, rfl, hox⟩
  have hSX : SlI w7 ax L.length cx L := by
    obtain ⟨a9, c9, e9, s9⟩ := own_slI hox
    cases e9
    exact s9
  have HSX := hide hSX
  have HSL7 := hide ((unhide HSL).below b7)
  have hK7 := (unhide HK6).trans (b7.mono (unhide HK6).size)
  have HG7 := hide ((unhide HG6).below b7)
  have HB7 := hide ((unhide HBP).below hK7)
  have HK7 := hide hK7
  clear HKW b7 hK7 hox hSX HSL g0 g1 g2 g3
  obtain ⟨ce, hce⟩ : ∃ x, ckE L er = x := ⟨_, rfl⟩
  rw [hce]
  have F0 := fun x' : Ext w7 => x'.cell ((unhide HB7).all 0 _ rfl).1
  have F1 := fun x' : Ext w7 => x'.cell ((unhide HB7).all 1 _ rfl).1
  have F2 := fun x' : Ext w7 => x'.cell ((unhide HB7).all 2 _ rfl).1
  have F3 := fun x' : Ext w7 => x'.cell ((unhide HB7).all 3 _ rfl).1
  have HCK := hide (show ∀ x' : Ext w7, Calls Tryz.prog 31 #[.int .i64 k, .agg #[.int .i64 rows, .int .i64 width, .slice a1 n1 c1, .slice a2 n2 c2], .slice a n c] x'.w fun e w' => e = .returned (.int .i64 ce) ∧ Below x'.w.heap.size x'.w w' from fun x' => by
    rw [← hce]
    have hx := (unhide HK7).trans (x'.bel.mono (unhide HK7).size)
    exact wCheck_by k rows width er L a1 a2 a n1 c1 n2 c2 n c x'.w (fun W b => by
      have hy := hx.trans (b.mono hx.size)
      exact (unhide HBT).two a1 a2 a c1 c2 c W (((unhide HP).h1.below (unhide HW1)).below hy) (((unhide HP).h2.below (unhide HW1)).below hy) (((unhide HX).below (unhide HW1)).below hy)))
  have HNU := hide (show ∀ (x' : Ext w7) (x : Int), Calls Tryz.prog 11 #[.int .i64 x] x'.w fun e w' => e = .returned (.int .i64 x) ∧ Below x'.w.heap.size x'.w w' from fun x' x => (num12_any x x'.w).mono (fun e w' h => ⟨h.1, by rw [h.2]; exact Below.refl _ _⟩))
  have hSI := sameInts_eq al ax L.length cl cx L
  have HSI := hide (show ∀ x' : Ext w7, Calls Tryz.prog 32 #[.slice al L.length cl, .slice ax L.length cx] x'.w fun e w' => e = .returned (.bool true) ∧ Below x'.w.heap.size x'.w w' from fun x' => (hSI x'.w ((unhide HSL7).below x'.bel) ((unhide HSX).below x'.bel) (by have := (unhide HBT).len; omega)).mono (fun e w' ⟨h, kx, hk⟩ => ⟨h, by rw [hk]; exact bel_drewN (Below.refl _ _) kx⟩))
  obtain ⟨ln, hln⟩ : ∃ x, L.length = x := ⟨_, rfl⟩
  rw [hln] at HSI ⊢
  have hNE := Ext.ne w7
  have e1 : (ce == ce) = true := by simp
  have e2 : (er == er) = true := by simp
  have HIN := hide (show ∀ x' : Ext w7, Calls Tryz.prog 28 #[.pointer (some ⟨B, 0, none⟩)] x'.w fun e w' => e = .returned (.bool true) ∧ Below x'.w.heap.size x'.w w' from fun x' => (intactI_any x'.w B v5 u5 _ ((unhide HG7).below x'.bel) (by simp) (fun e he => by
    have l1 := (unhide HP).h1.len
    have l2 := (unhide HP).h2.len
    have l3 := (unhide HX).len
    have := (unhide HP).l1
    have := (unhide HP).l2
    simp at he
    rcases he with rfl | rfl | rfl | rfl | rfl | rfl
    · rw [(unhide HE1).1]; omega
    · rw [(unhide HE1).2]; omega
    · rw [unhide HE3]; omega
    · rw [(unhide HE4).1]; omega
    · rw [(unhide HE4).2]; omega
    · rw [unhide HE6]; omega)).mono (fun e w' ⟨h, kx, hk⟩ => ⟨h, by rw [hk]; exact bel_drewN (Below.refl _ _) kx⟩))
  have HAL := hide (show ∀ x' : Ext w7, Calls Tryz.prog 9 #[] x'.w fun e w' => e = .returned (.bool true) ∧ Below x'.w.heap.size x'.w w' from fun x' => calive_any x'.w)
  clear hSI hce hln
  go_wp2_with fail
  refine wp_region_ext (by kernel_rfl) (by kernel_rfl) ?_
  repeat (go_big_quiet_step (first
    | (go_at_call 11; rename_i x'; exact Ext.call (unhide HNU x' _) (fun e w' h => h))
    | (go_at_call 31; rename_i x'; exact Ext.call (unhide HCK x') (fun e w' h => h))
    | (go_at_call 32; rename_i x'; exact Ext.call (unhide HSI x') (fun e w' h => h))
    | (go_at_call 28; rename_i x'; exact Ext.call (unhide HIN x') (fun e w' h => h))
    | (go_at_call 9; rename_i x'; exact Ext.call (unhide HAL x') (fun e w' h => h))))
  refine wpQuiet_nil ?_
  rintro _ ⟨xE, rfl⟩
  have t1 := (unhide HW1).trans ((unhide HK7).mono (unhide HW1).size)
  have HB8 := hide (t1.trans (xE.bel.mono t1.size))
  clear t1 F0 F1 F2 F3 HCK HNU HSI HIN HAL hNE
  go_wp2_with fail
  try go_ret
  exact ⟨rfl, unhide HB8⟩
theorem law_own : ownKnob Tryz.prog.godebug = none := by kernel_rfl
theorem law_laid : laidOutB Tryz.prog = true := by kernel_rfl
set_option maxRecDepth 100000 in
theorem colourChecks_lifted (os : Os) (started : os.Started) (H : Type) (enc : TypeId × Value → H) :
    ReturnsInHanded {} Tryz.checked os 8 .any (Rows.colourChecksSpec.pre6 enc Tryz.prog Tryz.f8 Rows.colourChecksRow.domain false) (Rows.colourChecksSpec.post enc Tryz.prog Tryz.f8 false true false false) := by
  refine returnsInHanded_of_change_sized (C := Tryz.checked) law_own started (by kernel_rfl) Tryz.func8
    (ChangeSpec.witness6 (enc := enc) (C := Tryz.checked) false ⟨#[], #[.int .i64 0, .agg #[.int .i64 0, .int .i64 0, .slice none 0 0, .slice none 0 0], .slice none 0 0], []⟩ 8 (by kernel_rfl) (by kernel_rfl) (by kernel_rfl) (by kernel_rfl)) ?_
  intro W base args ds gs before hval0 hW hcnd hsz _
  have hval : ∀ (j : Nat) t v, Tryz.f8.params[j]? = some t → args[j]? = some v → Value.okWide Tryz.prog W .any base t v := hval0
  have hW' := hW
  obtain ⟨p, q, hA0, hV, rfl, hfz, hnd⟩ := hW
  have hA : DataW.TrodAll enc Tryz.prog W 0 (fun _ => true) true Tryz.f8.params.toList args.toList ds p := hA0
  rw [Tryz.params8] at hA hval hsz
  obtain ⟨v0, vs0, d0, ds0, p0, q0, hargs, rfl, rfl, h0, r0⟩ := trodAll_cons hA
  obtain ⟨v1, vs1, d1, ds1, p1, q1, rfl, rfl, rfl, h1, r1⟩ := trodAll_cons r0
  obtain ⟨v2, vs2, d2, ds2, p2, q2, rfl, rfl, rfl, h2, r2⟩ := trodAll_cons r1
  obtain ⟨rfl, rfl, rfl⟩ := trodAll_nil r2
  obtain rfl : args = #[v0, v1, v2] := by cases args; simp_all
  obtain ⟨rfl, rfl⟩ := trodVars_none hV
  have k1 := h1
  have k2 := h2
  have lt1 : ∀ x ∈ p1, x.block < W.heap.size := by obtain ⟨m, hm⟩ := k1; exact DataW.trod_lt m _ _ _ hm
  have lt2 : ∀ x ∈ p2, x.block < W.heap.size := by obtain ⟨m, hm⟩ := k2; exact DataW.trod_lt m _ _ _ hm
  obtain ⟨k, rfl, rfl, rfl, wf0⟩ := open_int Tryz.underlying22 (hval 0 22 v0 rfl rfl) h0
  obtain ⟨rows, width, a1, n1, c1, st, a2, n2, c2, cols, rfl, ho1⟩ := arg_patZ (hval 1 25 v1 rfl rfl) h1 (fun k hk => by simpa using List.all_eq_true.1 hsz k (DataW.weights_mem_each (j := 1) rfl rfl k hk))
  obtain ⟨a, n, c, xs, rfl, ho2, hn2⟩ := arg_intsZ (hval 2 23 v2 rfl rfl) h2 (fun k hk => by simpa using List.all_eq_true.1 hsz k (DataW.weights_mem_each (j := 2) rfl rfl k hk))
  clear hA0 hval0
  refine (colourChecks_walk k rows width a1 n1 c1 st a2 n2 c2 cols a n c xs W ho1 ho2 hn2).mono fun e W' ⟨he, bel⟩ => ?_
  subst he
  exact ⟨_, rfl, _, _, _, [], _, [], hW', trodAll_mk1 (shut_bool Tryz.underlying4 _), (trodAll_cons_mk (shut_int Tryz.underlying22 wf0) (trodAll_cons_mk (Below.trod law_laid (by kernel_rfl) (of_decide_eq_true (by kernel_rfl)) k1 bel lt1) (trodAll_cons_mk (Below.trod law_laid (by kernel_rfl) (of_decide_eq_true (by kernel_rfl)) k2 bel lt2) trodAll_mk0))), rfl, bel.frame _, fun h => by cases h⟩

theorem colourChecks_holds : Rows.ColourChecksSaid :=
  OpenClaim.holds_of_wide 8 Tryz.f8 rfl rfl rfl rfl rfl rfl rfl ⟨rfl, rfl, rfl, rfl, rfl⟩ rfl rfl rfl rfl rfl (by kernel_rfl) Tryz.func8 (by kernel_rfl)
    (of_decide_eq_true (by kernel_rfl)) (by unfold Func.isWrapper; first | (rw [if_pos (by decide +kernel)]; kernel_rfl) | (rw [if_neg (by decide +kernel)]; exact ⟨rfl, rfl⟩))
    (fun os started H enc _ => colourChecks_lifted os started H enc)
#print axioms colourChecks_holds
end Go.Proofs.YtgjokididdffhaaGreat
