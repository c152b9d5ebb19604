/-
  TABLES THAT ARE HANDED IN; the law BitMay.
-/
import Derived.Test.YtbendkndnojihabDoorBu1
import Derived.Test.YtbendkndnojihabDoorBty
import Derived.Test.YtbendkndnojihabDoorBxm
import Derived.Test.YtbendkndnojihabDoorBxn
import Derived.Test.YtbendkndnojihabDoorBxq
import Derived.Test.YtbendkndnojihabDoorBxs
import Derived.Test.YtbendkndnojihabDoorBt3
import Derived.Test.YtbendkndnojihabDoorBt7
import Derived.Test.YtbendkndnojihabDoorBv1
namespace Go.Proofs.YtbendkndnojihabDoor
open Go.ChangeShapes Go.WideShapes Go.ChangeAt Go.RowKit Go.Deep
set_option linter.unusedVariables false

theorem law_cellsT : Tryd.prog.cellsOf 24 = 2 := by kernel_rfl
theorem law_cellsSs : Tryd.prog.cellsOf 22 = 1 := by kernel_rfl
set_option maxRecDepth 100000 in
theorem arg_table {H : Type} {enc : TypeId × Value → H} {W : World} {v : Value} {d : DataW H} {p : List MemPlace} {r : Reach} {b0 : Nat}
    (hv : Value.okWide Tryd.prog W r b0 24 v) (h : DataW.Trod enc Tryd.prog W 0 (fun _ => true) true 24 v d p) (hz : ∀ k ∈ d.weights Tryd.prog 24, k ≤ reachBytes) :
    ∃ s a n c L, v = setV s a n c ∧ -9223372036854775808 ≤ s ∧ s ≤ 9223372036854775807 ∧ SlS W a n c L ∧ (∀ e ∈ L, e.Arg) ∧ n ≤ 4398046510976 ∧ (a = none → n = 0 ∧ c = 0) := by
  obtain ⟨cs, rfl, hsz⟩ := okWide_struct Tryd.underlying24 hv
  obtain ⟨fuel, hf⟩ := h
  obtain ⟨y0, y1, m, hx, hl, h0, h1⟩ := trod_struct2 Tryd.underlying24 hf
  simp only [Prod.mk.injEq] at hx
  obtain ⟨rfl, rfl⟩ := hx
  rw [law_cellsT] at hl
  obtain ⟨cl, hcl⟩ : ∃ cl, (Value.agg cs).cells.toList = cl := ⟨_, rfl⟩
  rw [hcl] at hl h0 h1
  match cl, hl, hcl with
  | [c0, c1], _, hcl =>
    simp only [List.drop_zero, List.drop_succ_cons, law_cellsI, law_cellsSs, List.take_succ_cons, List.take_zero] at h0 h1
    obtain ⟨s, e0, rfl, hw⟩ := DataW.trod_int Tryd.underlying3 h0
    obtain ⟨a, n, c, L, e1, k1, k2, k3, k4⟩ := trod_sets h1 (fun k hk => hz k (by simp [DataW.weights, DataW.weightsEach, Tryd.underlying24, hk]))
    cases e0
    cases e1
    refine ⟨s, a, n, c, L, ?_, (bounds_i64 hw).1, (bounds_i64 hw).2, k1, k2, k3, k4⟩
    unfold setV
    congr 1
    apply Array.ext'
    simpa [Value.cells] using hcl
theorem mayT_key {s : Int} {L T : List SetC} (h : T.map SetC.key = L.map SetC.key) : MayT s T = MayT s L := by
  have hl : T.length = L.length := by simpa using congrArg List.length h
  unfold MayT
  rw [hl, any_key (p := badT s) (q := fun k => (!MayS k.1 k.2) || decide (k.1 ≠ s)) (fun _ => rfl) T, any_key (p := badT s) (q := fun k => (!MayS k.1 k.2) || decide (k.1 ≠ s)) (fun _ => rfl) L, h]
end Go.Proofs.YtbendkndnojihabDoor

namespace Go.Proofs.YtbendkndnojihabDoor
open Go.RowKit Go.Deep
set_option linter.unusedVariables false

theorem GoodT.keyed {sz n : Nat} {L L' : List SetC} {P : Nat → Nat → Bool} (g : GoodT sz n L P) (h : L'.map SetC.key = L.map SetC.key) : GoodT sz n L' P := ⟨h.trans g.key, g.zero, g.out, g.hs, g.hn⟩
theorem key_len {L L' : List SetC} (h : L'.map SetC.key = L.map SetC.key) : L'.length = L.length := by
  have := congrArg List.length h
  simpa using this
theorem sqE_key {s : Int} {L L' : List SetC} (h : L'.map SetC.key = L.map SetC.key) : sqE s L' = sqE s L := by
  unfold sqE
  rw [mayT_key h, key_len h]
theorem prdE_key {s sb : Int} {L L' M M' : List SetC} (h : L'.map SetC.key = L.map SetC.key) (h2 : M'.map SetC.key = M.map SetC.key) : prdE s L' sb M' = prdE s L sb M := by
  unfold prdE
  rw [mayT_key h, mayT_key h2, key_len h2]
theorem prd_same (s : Int) (n : Nat) (L : List SetC) (sb : Int) (n2 : Nat) (M : List SetC) (hl : L.length = n) (hl2 : M.length = n2) (ho : ∀ e ∈ L, OkW e.xs) (ho2 : ∀ e ∈ M, OkW e.xs) :
    ∃ (rs : Int) (rn : Nat) (rK : List (Int × List Nat)) (re : Int), ∀ (w : World) (a : Option Addr) (c : Nat) (L' : List SetC) (a2 : Option Addr) (c2 : Nat) (M' : List SetC), SlS w a n c L' → SlS w a2 n2 c2 M' → L'.map SetC.key = L.map SetC.key → M'.map SetC.key = M.map SetC.key → Tab64 w →
      (Calls Tryd.prog 12 #[setV s a n c, setV sb a2 n2 c2] w fun r w' => ResN w w' rs rn rK re r) ∧ (Calls Tryd.prog 31 #[setV s a n c, setV sb a2 n2 c2] w fun r w' => ResN w w' rs rn rK re r) := by
  by_cases h0 : prdE s L sb M = 0
  · have hm : MayT s L = true := by
      cases hh : MayT s L
      · unfold prdE at h0; rw [hh] at h0; simp at h0
      · rfl
    have hm2 : MayT sb M = true := by
      cases hh : MayT sb M
      · unfold prdE at h0; rw [hh] at h0; simp at h0
      · rfl
    have hs : s = (n2 : Int) := by
      unfold prdE at h0
      rw [hm, hm2, hl2] at h0
      by_cases c : s = (n2 : Int)
      · exact c
      · simp [c] at h0
    obtain ⟨sz, e1, P, g⟩ := MayT.good hm ho
    obtain ⟨sb', e2, Q, g2⟩ := MayT.good hm2 ho2
    rw [hl] at g
    rw [hl2] at g2
    have hsz : sz = n2 := by omega
    subst hsz
    refine ⟨sb, n, tabK sb' n (prG sz P Q), 0, fun w a c L' a2 c2 M' k1 k2 hk hk2 hT => ?_⟩
    rw [e2, e1]
    exact ⟨product_good sz n a c L' P sb' a2 c2 M' Q w k1 k2 (g.keyed hk) (g2.keyed hk2) hT, rproduct_good sz n a c L' P sb' a2 c2 M' Q w k1 k2 (g.keyed hk) (g2.keyed hk2)⟩
  · refine ⟨0, 0, [], prdE s L sb M, fun w a c L' a2 c2 M' k1 k2 hk hk2 hT => ?_⟩
    have e := prdE_key (s := s) (sb := sb) hk hk2
    constructor
    · have K := product_bad2 s a n c L' sb a2 n2 c2 M' w k1 k2 (by rw [e]; exact h0)
      rw [e] at K
      exact K
    · have K := rproduct_bad s a n c L' sb a2 n2 c2 M' w k1 k2 (by rw [e]; exact h0)
      rw [e] at K
      exact K
theorem sq_zero {s : Int} {n : Nat} {L : List SetC} (hl : L.length = n) (ho : ∀ e ∈ L, OkW e.xs) (h0 : sqE s L = 0) : s = (n : Int) ∧ ∃ P, GoodT n n L P := by
  have hm : MayT s L = true := by
    cases hh : MayT s L
    · unfold sqE at h0; rw [hh] at h0; simp at h0
    · rfl
  have hs : (n : Int) = s := by
    unfold sqE at h0
    rw [hm, hl] at h0
    by_cases c : (n : Int) = s
    · exact c
    · simp [c] at h0
  obtain ⟨sz, e1, P, g⟩ := MayT.good hm ho
  rw [hl] at g
  have hsz : sz = n := by omega
  subst hsz
  exact ⟨hs.symm, P, g⟩
theorem bo_same (s : Int) (n : Nat) (L : List SetC) (hl : L.length = n) (ho : ∀ e ∈ L, OkW e.xs) :
    ∃ (rs : Int) (rn : Nat) (rK : List (Int × List Nat)) (re : Int), ∀ (w : World) (a : Option Addr) (c : Nat) (L' : List SetC), SlS w a n c L' → L'.map SetC.key = L.map SetC.key → Tab64 w →
      (Calls Tryd.prog 32 #[setV s a n c] w fun r w' => ResN w w' rs rn rK re r) ∧ (Calls Tryd.prog 33 #[setV s a n c] w fun r w' => ResN w w' rs rn rK re r) := by
  by_cases h0 : sqE s L = 0
  · obtain ⟨hs, P, g⟩ := sq_zero hl ho h0
    subst hs
    exact ⟨n, n, tabK n n (boQ P), 0, fun w a c L' k1 hk hT => ⟨both_good n a c L' P w k1 (g.keyed hk) hT, rboth_good n a c L' P w k1 (g.keyed hk)⟩⟩
  · refine ⟨0, 0, [], sqE s L, fun w a c L' k1 hk hT => ?_⟩
    have e := sqE_key (s := s) hk
    constructor
    · have K := both_bad2 s a n c L' w k1 (by rw [e]; exact h0)
      rw [e] at K
      exact K
    · have K := rboth_bad s a n c L' w k1 (by rw [e]; exact h0)
      rw [e] at K
      exact K
theorem cl_same (s : Int) (n : Nat) (L : List SetC) (hl : L.length = n) (ho : ∀ e ∈ L, OkW e.xs) :
    ∃ (rs : Int) (rn : Nat) (rK : List (Int × List Nat)) (re : Int), ∀ (w : World) (a : Option Addr) (c : Nat) (L' : List SetC), SlS w a n c L' → L'.map SetC.key = L.map SetC.key →
      (Calls Tryd.prog 9 #[setV s a n c] w fun r w' => ResN w w' rs rn rK re r) ∧ (Calls Tryd.prog 34 #[setV s a n c] w fun r w' => ResN w w' rs rn rK re r) := by
  by_cases h0 : sqE s L = 0
  · obtain ⟨hs, P, g⟩ := sq_zero hl ho h0
    subst hs
    exact ⟨n, n, tabK n n (waP P n), 0, fun w a c L' k1 hk => ⟨closure_good n a c L' P w k1 (g.keyed hk), rclosure_good n a c L' P w k1 (g.keyed hk)⟩⟩
  · refine ⟨0, 0, [], sqE s L, fun w a c L' k1 hk => ?_⟩
    have e := sqE_key (s := s) hk
    constructor
    · have K := closure_bad s n a c L' w k1 (by rw [e]; exact h0)
      rw [e] at K
      exact K
    · have K := rclosure_bad s a n c L' w k1 (by rw [e]; exact h0)
      rw [e] at K
      exact K
end Go.Proofs.YtbendkndnojihabDoor

namespace Go.Proofs.YtbendkndnojihabDoor
open Go.RowKit Go.Deep
set_option linter.unusedVariables false

theorem mk_303 : mkR 5 [3, 0, 3] = (5, [9], 0) := by decide
theorem mk_5 : mkR 5 [5] = (0, [], 62) := by decide

set_option maxHeartbeats 4000000 in
/-- slopelaw3.alive. -/
theorem alive_any (w : World) : Calls Tryd.prog 8 #[] w fun e w' => e = .returned (.bool true) ∧ Below w.heap.size w w' := by
  obtain ⟨wa, hwa⟩ : ∃ x, w.alloc (.cells #[.int .i64 3, .int .i64 0, .int .i64 3] 3) = x := ⟨_, rfl⟩
  have hba : Below w.heap.size w wa := by rw [← hwa]; exact (Below.refl _ _).alloc (Nat.le_refl _) _
  have hs : SlI wa (some ⟨w.heap.size, 0, none⟩) 3 3 [3, 0, 3] := by
    refine ⟨rfl, Nat.le_refl _, by unfold maxLen; omega, .inr ⟨_, _, rfl, fun i hi => ?_⟩⟩
    have hi3 : i < 3 := hi
    match i, hi3 with
    | 0, _ => rw [← hwa]; simp [vI]
    | 1, _ => rw [← hwa]; simp [vI]
    | 2, _ => rw [← hwa]; simp [vI]
  have K1 := make_any 5 (some ⟨w.heap.size, 0, none⟩) 3 3 [3, 0, 3] wa hs
  rw [mk_303] at K1
  have HK1 := hide K1
  have HB := hide hba
  clear K1 hs hba
  go_enter Tryd.func8, Tryd.ntmps8
  go_wp2_with fail
  refine (unhide HK1).mono ?_
  rintro _ wb ⟨a1, n1, c1, rfl, hs1, hb1⟩
  have hbb := (unhide HB).trans (hb1.mono (unhide HB).size)
  have hl := hs1.len
  have hn1 : n1 = 1 := hl.symm
  subst hn1
  obtain ⟨b, off, rfl, hc⟩ := hs1.at (by decide)
  have g0 := hc 0 (by decide)
  simp [vU] at g0
  have hcap := hs1.cap
  have hle := hs1.le
  unfold maxLen at hcap
  have HG := hide (And.intro hbb g0)
  clear hb1 hs1 hc g0 hbb hl HK1 HB
  unfold setV
  obtain ⟨wc, hwc⟩ : ∃ x, wb.alloc (.cells #[.int .i64 5, .slice (some ⟨b, off, none⟩) 1 c1] 35) = x := ⟨_, rfl⟩
  obtain ⟨wd, hwd⟩ : ∃ x, wc.alloc (.cells #[.int .i64 5] 3) = x := ⟨_, rfl⟩
  have hbc : Below wb.heap.size wb wc := by rw [← hwc]; exact (Below.refl _ _).alloc (Nat.le_refl _) _
  have hbd : Below wc.heap.size wc wd := by rw [← hwd]; exact (Below.refl _ _).alloc (Nat.le_refl _) _
  have tS : Two wd wb.heap.size (.int .i64 5) (.slice (some ⟨b, off, none⟩) 1 c1) := Two.keep (w := wc) (by rw [← hwc]; exact Two.made _ _ _ _) hbd
  have hs : SlI wd (some ⟨wc.heap.size, 0, none⟩) 1 1 [5] := by
    refine ⟨rfl, Nat.le_refl _, by unfold maxLen; omega, .inr ⟨_, _, rfl, fun i hi => ?_⟩⟩
    have hi1 : i < 1 := hi
    match i, hi1 with
    | 0, _ => rw [← hwd]; simp [vI]
  have K2 := make_any 5 (some ⟨wc.heap.size, 0, none⟩) 1 1 [5] wd hs
  rw [mk_5] at K2
  have HK2 := hide K2
  have hbwd : Below wb.heap.size wb wd := hbc.trans (hbd.mono hbc.size)
  have HG2 := hide (And.intro tS (And.intro ((unhide HG).1.trans (hbwd.mono (unhide HG).1.size)) (below_cell hbwd (unhide HG).2)))
  clear K2 hs tS hbc hbd hbwd HG
  go_wp2_with fail
  refine (unhide HK2).mono ?_
  rintro _ we ⟨a2, n2, c2, rfl, hs2, hb2⟩
  have hbe := (unhide HG2).2.1.trans (hb2.mono (unhide HG2).2.1.size)
  have HG3 := hide (And.intro ((unhide HG2).1.keep hb2) (And.intro hbe (below_cell hb2 (unhide HG2).2.2)))
  clear hs2 hb2 hbe HK2 HG2 hwc hwd
  unfold setV
  obtain ⟨wf, hwf⟩ : ∃ x, we.alloc (.cells #[.int .i64 0, .slice a2 n2 c2] 35) = x := ⟨_, rfl⟩
  have hbf : Below we.heap.size we wf := by rw [← hwf]; exact (Below.refl _ _).alloc (Nat.le_refl _) _
  have tS := (unhide HG3).1.keep hbf
  have t0 := tS.c0
  have t1 := tS.c1
  have g0 := below_cell hbf (unhide HG3).2.2
  have HB := hide ((unhide HG3).2.1.trans (hbf.mono (unhide HG3).2.1.size))
  clear tS hbf HG3
  go_wp2_with fail
  refine (num_any 0 wf).mono ?_
  rintro _ w' ⟨rfl, hw⟩
  obtain rfl := hw.symm
  go_wp2_with fail
  refine (num_any 62 wf).mono ?_
  rintro _ w' ⟨rfl, hw⟩
  obtain rfl := hw.symm
  go_wp2_with fail
  go_ret
  exact ⟨rfl, unhide HB⟩
end Go.Proofs.YtbendkndnojihabDoor
