/-
  TABLES THAT ARE HANDED IN; the law BitMay.
-/
import Derived.Test.YtbendkndnojihabDoorBu1
import Derived.Test.YtbendkndnojihabDoorBxc
import Derived.Test.YtbendkndnojihabDoorBxm
import Derived.Test.YtbendkndnojihabDoorBtg
import Derived.Test.YtbendkndnojihabDoorBxq
import Derived.Test.YtbendkndnojihabDoorBxs
import Derived.Test.YtbendkndnojihabDoorByd
import Derived.Test.YtbendkndnojihabDoorBxu
import Derived.Test.YtbendkndnojihabDoorBxw
namespace Go.Proofs.YtbendkndnojihabDoor
open Go.ChangeShapes Go.WideShapes Go.ChangeAt Go.RowKit Go.Deep
set_option linter.unusedVariables false

theorem law_cellsT : Tryd.prog.cellsOf 24 = 2 := by kernel_rfl
theorem law_cellsSs : Tryd.prog.cellsOf 22 = 1 := by kernel_rfl
set_option maxRecDepth 100000 in
theorem arg_table {H : Type} {enc : TypeId × Value → H} {W : World} {v : Value} {d : DataW H} {p : List MemPlace} {r : Reach} {b0 : Nat}
    (hv : Value.okWide Tryd.prog W r b0 24 v) (h : DataW.Trod enc Tryd.prog W 0 (fun _ => true) true 24 v d p) (hz : ∀ k ∈ d.weights Tryd.prog 24, k ≤ reachBytes) :
    ∃ s a n c L, v = setV s a n c ∧ -9223372036854775808 ≤ s ∧ s ≤ 9223372036854775807 ∧ SlS W a n c L ∧ (∀ e ∈ L, e.Arg) ∧ n ≤ 4398046510976 ∧ (a = none → n = 0 ∧ c = 0) := by
  obtain ⟨cs, rfl, hsz⟩ := okWide_struct Tryd.underlying24 hv
  obtain ⟨fuel, hf⟩ := h
  obtain ⟨y0, y1, m, hx, hl, h0, h1⟩ := trod_struct2 Tryd.underlying24 hf
  simp only [Prod.mk.injEq] at hx
  obtain ⟨rfl, rfl⟩ := hx
  rw [law_cellsT] at hl
  obtain ⟨cl, hcl⟩ : ∃ cl, (Value.agg cs).cells.toList = cl := ⟨_, rfl⟩
  rw [hcl] at hl h0 h1
  match cl, hl, hcl with
  | [c0, c1], _, hcl =>
    simp only [List.drop_zero, List.drop_succ_cons, law_cellsI, law_cellsSs, List.take_succ_cons, List.take_zero] at h0 h1
    obtain ⟨s, e0, rfl, hw⟩ := DataW.trod_int Tryd.underlying3 h0
    obtain ⟨a, n, c, L, e1, k1, k2, k3, k4⟩ := trod_sets h1 (fun k hk => hz k (by simp [DataW.weights, DataW.weightsEach, Tryd.underlying24, hk]))
    cases e0
    cases e1
    refine ⟨s, a, n, c, L, ?_, (bounds_i64 hw).1, (bounds_i64 hw).2, k1, k2, k3, k4⟩
    unfold setV
    congr 1
    apply Array.ext'
    simpa [Value.cells] using hcl
theorem mayT_key {s : Int} {L T : List SetC} (h : T.map SetC.key = L.map SetC.key) : MayT s T = MayT s L := by
  have hl : T.length = L.length := by simpa using congrArg List.length h
  unfold MayT
  rw [hl, any_key (p := badT s) (q := fun k => (!MayS k.1 k.2) || decide (k.1 ≠ s)) (fun _ => rfl) T, any_key (p := badT s) (q := fun k => (!MayS k.1 k.2) || decide (k.1 ≠ s)) (fun _ => rfl) L, h]
end Go.Proofs.YtbendkndnojihabDoor

namespace Go.Proofs.YtbendkndnojihabDoor
open Go.RowKit Go.Deep
set_option linter.unusedVariables false

theorem GoodT.keyed {sz n : Nat} {L L' : List SetC} {P : Nat → Nat → Bool} (g : GoodT sz n L P) (h : L'.map SetC.key = L.map SetC.key) : GoodT sz n L' P := ⟨h.trans g.key, g.zero, g.out, g.hs, g.hn⟩
theorem key_len {L L' : List SetC} (h : L'.map SetC.key = L.map SetC.key) : L'.length = L.length := by
  have := congrArg List.length h
  simpa using this
theorem sqE_key {s : Int} {L L' : List SetC} (h : L'.map SetC.key = L.map SetC.key) : sqE s L' = sqE s L := by
  unfold sqE
  rw [mayT_key h, key_len h]
theorem prdE_key {s sb : Int} {L L' M M' : List SetC} (h : L'.map SetC.key = L.map SetC.key) (h2 : M'.map SetC.key = M.map SetC.key) : prdE s L' sb M' = prdE s L sb M := by
  unfold prdE
  rw [mayT_key h, mayT_key h2, key_len h2]
theorem prd_same (s : Int) (n : Nat) (L : List SetC) (sb : Int) (n2 : Nat) (M : List SetC) (hl : L.length = n) (hl2 : M.length = n2) (ho : ∀ e ∈ L, OkW e.xs) (ho2 : ∀ e ∈ M, OkW e.xs) :
    ∃ (rs : Int) (rn : Nat) (rK : List (Int × List Nat)) (re : Int), ∀ (w : World) (a : Option Addr) (c : Nat) (L' : List SetC) (a2 : Option Addr) (c2 : Nat) (M' : List SetC), SlS w a n c L' → SlS w a2 n2 c2 M' → L'.map SetC.key = L.map SetC.key → M'.map SetC.key = M.map SetC.key → Tab64 w →
      (Calls Tryd.prog 12 #[setV s a n c, setV sb a2 n2 c2] w fun r w' => ResN w w' rs rn rK re r) ∧ (Calls Tryd.prog 31 #[setV s a n c, setV sb a2 n2 c2] w fun r w' => ResN w w' rs rn rK re r) := by
  by_cases h0 : prdE s L sb M = 0
  · have hm : MayT s L = true := by
      cases hh : MayT s L
      · unfold prdE at h0; rw [hh] at h0; simp at h0
      · rfl
    have hm2 : MayT sb M = true := by
      cases hh : MayT sb M
      · unfold prdE at h0; rw [hh] at h0; simp at h0
      · rfl
    have hs : s = (n2 : Int) := by
      unfold prdE at h0
      rw [hm, hm2, hl2] at h0
      by_cases c : s = (n2 : Int)
      · exact c
      · simp [c] at h0
    obtain ⟨sz, e1, P, g⟩ := MayT.good hm ho
    obtain ⟨sb', e2, Q, g2⟩ := MayT.good hm2 ho2
    rw [hl] at g
    rw [hl2] at g2
    have hsz : sz = n2 := by omega
    subst hsz
    refine ⟨sb, n, tabK sb' n (prG sz P Q), 0, fun w a c L' a2 c2 M' k1 k2 hk hk2 hT => ?_⟩
    rw [e2, e1]
    exact ⟨product_good sz n a c L' P sb' a2 c2 M' Q w k1 k2 (g.keyed hk) (g2.keyed hk2) hT, rproduct_good sz n a c L' P sb' a2 c2 M' Q w k1 k2 (g.keyed hk) (g2.keyed hk2)⟩
  · refine ⟨0, 0, [], prdE s L sb M, fun w a c L' a2 c2 M' k1 k2 hk hk2 hT => ?_⟩
    have e := prdE_key (s := s) (sb := sb) hk hk2
    constructor
    · have K := product_bad2 s a n c L' sb a2 n2 c2 M' w k1 k2 (by rw [e]; exact h0)
      rw [e] at K
      exact K
    · have K := rproduct_bad s a n c L' sb a2 n2 c2 M' w k1 k2 (by rw [e]; exact h0)
      rw [e] at K
      exact K
theorem sq_zero {s : Int} {n : Nat} {L : List SetC} (hl : L.length = n) (ho : ∀ e ∈ L, OkW e.xs) (h0 : sqE s L = 0) : s = (n : Int) ∧ ∃ P, GoodT n n L P := by
  have hm : MayT s L = true := by
    cases hh : MayT s L
    · unfold sqE at h0; rw [hh] at h0; simp at h0
    · rfl
  have hs : (n : Int) = s := by
    unfold sqE at h0
    rw [hm, hl] at h0
    by_cases c : (n : Int) = s
    · exact c
    · simp [c] at h0
  obtain ⟨sz, e1, P, g⟩ := MayT.good hm ho
  rw [hl] at g
  have hsz : sz = n := by omega
  subst hsz
  exact ⟨hs.symm, P, g⟩
theorem bo_same (s : Int) (n : Nat) (L : List SetC) (hl : L.length = n) (ho : ∀ e ∈ L, OkW e.xs) :
    ∃ (rs : Int) (rn : Nat) (rK : List (Int × List Nat)) (re : Int), ∀ (w : World) (a : Option Addr) (c : Nat) (L' : List SetC), SlS w a n c L' → L'.map SetC.key = L.map SetC.key → Tab64 w →
      (Calls Tryd.prog 32 #[setV s a n c] w fun r w' => ResN w w' rs rn rK re r) ∧ (Calls Tryd.prog 33 #[setV s a n c] w fun r w' => ResN w w' rs rn rK re r) := by
  by_cases h0 : sqE s L = 0
  · obtain ⟨hs, P, g⟩ := sq_zero hl ho h0
    subst hs
    exact ⟨n, n, tabK n n (boQ P), 0, fun w a c L' k1 hk hT => ⟨both_good n a c L' P w k1 (g.keyed hk) hT, rboth_good n a c L' P w k1 (g.keyed hk)⟩⟩
  · refine ⟨0, 0, [], sqE s L, fun w a c L' k1 hk hT => ?_⟩
    have e := sqE_key (s := s) hk
    constructor
    · have K := both_bad2 s a n c L' w k1 (by rw [e]; exact h0)
      rw [e] at K
      exact K
    · have K := rboth_bad s a n c L' w k1 (by rw [e]; exact h0)
      rw [e] at K
      exact K
theorem cl_same (s : Int) (n : Nat) (L : List SetC) (hl : L.length = n) (ho : ∀ e ∈ L, OkW e.xs) :
    ∃ (rs : Int) (rn : Nat) (rK : List (Int × List Nat)) (re : Int), ∀ (w : World) (a : Option Addr) (c : Nat) (L' : List SetC), SlS w a n c L' → L'.map SetC.key = L.map SetC.key →
      (Calls Tryd.prog 9 #[setV s a n c] w fun r w' => ResN w w' rs rn rK re r) ∧ (Calls Tryd.prog 34 #[setV s a n c] w fun r w' => ResN w w' rs rn rK re r) := by
  by_cases h0 : sqE s L = 0
  · obtain ⟨hs, P, g⟩ := sq_zero hl ho h0
    subst hs
    exact ⟨n, n, tabK n n (waP P n), 0, fun w a c L' k1 hk => ⟨closure_good n a c L' P w k1 (g.keyed hk), rclosure_good n a c L' P w k1 (g.keyed hk)⟩⟩
  · refine ⟨0, 0, [], sqE s L, fun w a c L' k1 hk => ?_⟩
    have e := sqE_key (s := s) hk
    constructor
    · have K := closure_bad s n a c L' w k1 (by rw [e]; exact h0)
      rw [e] at K
      exact K
    · have K := rclosure_bad s a n c L' w k1 (by rw [e]; exact h0)
      rw [e] at K
      exact K
end Go.Proofs.YtbendkndnojihabDoor

namespace Go.Proofs.YtbendkndnojihabDoor
open Go.RowKit Go.Deep
set_option linter.unusedVariables false

set_option maxHeartbeats 4000000 in
theorem firsts_no (s : Int) (a : Option Addr) (n c : Nat) (L : List SetC) (w : World) (h : SlS w a n c L) (hm : MayT s L = false) :
    Calls Tryd.prog 27 #[setV s a n c] w fun r w' => ResI w w' ([], 61) r := by
  have hle := h.le
  have hcap := h.cap
  unfold maxLen at hcap
  obtain ⟨wa, hwa⟩ : ∃ x, w.alloc (.cells #[.int .i64 s, .slice a n c] 24) = x := ⟨_, rfl⟩
  have ba : Below w.heap.size w wa := by rw [← hwa]; exact (Below.refl _ _).alloc (Nat.le_refl _) _
  have A0 : Two wa w.heap.size (.int .i64 s) (.slice a n c) := by rw [← hwa]; exact Two.made _ _ _ _
  have K := mayT_any s a n c L wa (h.below ba)
  rw [hm] at K
  have HA := hide ba
  have a0 := A0.c0
  have a1 := A0.c1
  unfold setV at K ⊢
  have HK := hide K
  clear hm A0 h ba K
  go_enter Tryd.func27, Tryd.ntmps27
  go_wp2_with fail
  refine (unhide HK).mono ?_
  rintro _ wd ⟨rfl, hbd⟩
  have HB := hide ((unhide HA).trans (hbd.mono (unhide HA).size))
  clear hbd a0 a1 hwa
  go_wp2_with fail
  refine bodyPost_ret (by simp [results, Tryd.results27, go_sem]; try rfl) rfl ?_
  exact ⟨none, 0, 0, rfl, ⟨rfl, Nat.le_refl _, Nat.zero_le _, .inl rfl⟩, unhide HB⟩

set_option maxHeartbeats 4000000 in
theorem rfirsts_no (s : Int) (a : Option Addr) (n c : Nat) (L : List SetC) (w : World) (h : SlS w a n c L) (hm : MayT s L = false) :
    Calls Tryd.prog 28 #[setV s a n c] w fun r w' => ResI w w' ([], 61) r := by
  have hle := h.le
  have hcap := h.cap
  unfold maxLen at hcap
  obtain ⟨wa, hwa⟩ : ∃ x, w.alloc (.cells #[.int .i64 s, .slice a n c] 24) = x := ⟨_, rfl⟩
  have ba : Below w.heap.size w wa := by rw [← hwa]; exact (Below.refl _ _).alloc (Nat.le_refl _) _
  have A0 : Two wa w.heap.size (.int .i64 s) (.slice a n c) := by rw [← hwa]; exact Two.made _ _ _ _
  have K := rmayT_any s a n c L wa (h.below ba)
  rw [hm] at K
  have HA := hide ba
  have a0 := A0.c0
  have a1 := A0.c1
  unfold setV at K ⊢
  have HK := hide K
  clear hm A0 h ba K
  go_enter Tryd.func28, Tryd.ntmps28
  go_wp2_with fail
  refine (unhide HK).mono ?_
  rintro _ wd ⟨rfl, hbd⟩
  have HB := hide ((unhide HA).trans (hbd.mono (unhide HA).size))
  clear hbd a0 a1 hwa
  go_wp2_with fail
  refine bodyPost_ret (by simp [results, Tryd.results28, go_sem]; try rfl) rfl ?_
  exact ⟨none, 0, 0, rfl, ⟨rfl, Nat.le_refl _, Nat.zero_le _, .inl rfl⟩, unhide HB⟩

set_option maxHeartbeats 4000000 in
theorem rturn_no (s : Int) (a : Option Addr) (n c : Nat) (L : List SetC) (w : World) (h : SlS w a n c L) (hm : MayT s L = false) :
    Calls Tryd.prog 26 #[setV s a n c] w fun r w' => ResN w w' 0 0 [] 61 r := by
  have hle := h.le
  have hcap := h.cap
  unfold maxLen at hcap
  obtain ⟨wa, hwa⟩ : ∃ x, w.alloc (.cells #[.int .i64 s, .slice a n c] 24) = x := ⟨_, rfl⟩
  obtain ⟨wb, hwb⟩ : ∃ x, wa.alloc (.cells #[.int .i64 0, .slice none 0 0] 24) = x := ⟨_, rfl⟩
  have ba : Below w.heap.size w wa := by rw [← hwa]; exact (Below.refl _ _).alloc (Nat.le_refl _) _
  have bb : Below wa.heap.size wa wb := by rw [← hwb]; exact (Below.refl _ _).alloc (Nat.le_refl _) _
  have A0 : Two wb w.heap.size (.int .i64 s) (.slice a n c) := by
    refine Two.keep (w := wa) ?_ bb
    rw [← hwa]; exact Two.made _ _ _ _
  have R0 : Two wb wa.heap.size (.int .i64 0) (.slice none 0 0) := by rw [← hwb]; exact Two.made _ _ _ _
  have hB0 := ba.trans (bb.mono ba.size)
  have K := rmayT_any s a n c L wb ((h.below ba).below bb)
  rw [hm] at K
  have la := ba.size
  have HA := hide (And.intro A0 (And.intro R0 hB0))
  have a0 := A0.c0
  have a1 := A0.c1
  unfold setV at K ⊢
  have HK := hide K
  clear hm A0 R0 h ba bb hB0 K
  go_enter Tryd.func26, Tryd.ntmps26
  go_wp2_with fail
  refine (unhide HK).mono ?_
  rintro _ wd ⟨rfl, hbd⟩
  have A1 := (unhide HA).1.keep hbd
  have R1 := (unhide HA).2.1.keep hbd
  clear a0 a1
  have b0 := A1.c0
  have b1 := A1.c1
  have r0 := R1.c0
  have r1 := R1.c1
  have f0 := R1.f0
  have f1 := R1.f1
  have T3 := R1.set (.int .i64 0) (.slice none 0 0)
  have p0 := T3.c0
  have p1 := T3.c1
  have HB := hide (two_below ((unhide HA).2.2.trans (hbd.mono (unhide HA).2.2.size)) wa.heap.size la (.int .i64 0) (.slice none 0 0))
  clear hbd A1 R1 T3 hwa hwb
  go_wp2_with fail
  refine bodyPost_ret (by simp [results, Tryd.results26, go_sem, p0, p1]; try rfl) rfl ?_
  exact resN_zero (unhide HB)

theorem xfL_key {L L' : List SetC} (h : L'.map SetC.key = L.map SetC.key) : xfL L' = xfL L := by
  funext i
  exact (key_getD h i).2
theorem tu_same (s : Int) (n : Nat) (L : List SetC) (hl : L.length = n) (ho : ∀ e ∈ L, OkW e.xs) :
    ∃ (rs : Int) (rn : Nat) (rK : List (Int × List Nat)) (re : Int), ∀ (w : World) (a : Option Addr) (c : Nat) (L' : List SetC), SlS w a n c L' → L'.map SetC.key = L.map SetC.key → Tab64 w →
      (Calls Tryd.prog 25 #[setV s a n c] w fun r w' => ResN w w' rs rn rK re r) ∧ (Calls Tryd.prog 26 #[setV s a n c] w fun r w' => ResN w w' rs rn rK re r) := by
  cases hm : MayT s L
  · exact ⟨0, 0, [], 61, fun w a c L' k1 hk hT => ⟨turn_bad s n a c L' w k1 (by rw [mayT_key hk]; exact hm), rturn_no s a n c L' w k1 (by rw [mayT_key hk]; exact hm)⟩⟩
  · obtain ⟨sz, rfl, P, g⟩ := MayT.good hm ho
    rw [hl] at g
    exact ⟨n, sz, tabK n sz (tuQ P), 0, fun w a c L' k1 hk hT => ⟨turn_good sz n a c L' P w k1 (g.keyed hk) hT, rturn_good sz n a c L' P w k1 (g.keyed hk)⟩⟩
theorem fi_same (s : Int) (n : Nat) (L : List SetC) (hl : L.length = n) (ho : ∀ e ∈ L, OkW e.xs) :
    ∃ (rl : List Int) (re : Int), ∀ (w : World) (a : Option Addr) (c : Nat) (L' : List SetC), SlS w a n c L' → L'.map SetC.key = L.map SetC.key →
      (Calls Tryd.prog 27 #[setV s a n c] w fun r w' => ResI w w' (rl, re) r) ∧ (Calls Tryd.prog 28 #[setV s a n c] w fun r w' => ResI w w' (rl, re) r) := by
  cases hm : MayT s L
  · exact ⟨[], 61, fun w a c L' k1 hk => ⟨firsts_no s a n c L' w k1 (by rw [mayT_key hk]; exact hm), rfirsts_no s a n c L' w k1 (by rw [mayT_key hk]; exact hm)⟩⟩
  · obtain ⟨sz, rfl, P, g⟩ := MayT.good hm ho
    rw [hl] at g
    refine ⟨(List.range n).map (fun i => ((firstI (xfL L) i : Nat) : Int)), 0, fun w a c L' k1 hk => ?_⟩
    rw [← xfL_key hk]
    exact ⟨firsts_good sz n a c L' P w k1 (g.keyed hk), rfirsts_good sz n a c L' P w k1 (g.keyed hk)⟩
theorem mtE_key {s : Int} {L L' : List SetC} (h : L'.map SetC.key = L.map SetC.key) : mtE s L' = mtE s L := by
  unfold mtE
  rw [alike_key h, key_len h]
theorem alike_good {sz : Nat} {n : Nat} {L : List SetC} (hl : L.length = n) (ha : alikeE (sz : Int) L = 0) (hn : n ≤ 4096) (ho : ∀ e ∈ L, OkW e.xs) : ∃ P, GoodT sz n L P := by
  have hA := alike_zero ha
  have hm : MayT (sz : Int) L = true := by
    have hb : L.any (badT (sz : Int)) = false := by
      rw [List.any_eq_false]
      intro e he
      have := hA.2 e he
      simp [badT, this.2]
      rw [← this.2]
      exact this.1
    have hl4 : decide (L.length ≤ 4096) = true := by simp; omega
    simp [MayT, hA.1, hl4, hb]
  obtain ⟨sz', e, P, g⟩ := MayT.good hm ho
  have : sz = sz' := by omega
  subst this
  rw [hl] at g
  exact ⟨P, g⟩
theorem mt_same (s : Int) (n : Nat) (L : List SetC) (hl : L.length = n) (ho : ∀ e ∈ L, OkW e.xs) :
    ∃ (rs : Int) (rn : Nat) (rK : List (Int × List Nat)) (re : Int), ∀ (w : World) (a : Option Addr) (c : Nat) (L' : List SetC), SlS w a n c L' → L'.map SetC.key = L.map SetC.key →
      (Calls Tryd.prog 23 #[.int .i64 s, .slice a n c] w fun r w' => ResN w w' rs rn rK re r) ∧ ((∀ e ∈ L', e.Arg) → Calls Tryd.prog 24 #[.int .i64 s, .slice a n c] w fun r w' => ResN w w' rs rn rK re r) := by
  by_cases h0 : mtE s L = 0
  · have ha : alikeE s L = 0 := by
      by_cases c : alikeE s L = 0
      · exact c
      · unfold mtE at h0; rw [if_neg c] at h0; exact h0
    have hn : n ≤ 4096 := by
      unfold mtE at h0
      rw [if_pos ha, hl] at h0
      by_cases c : 4096 < n
      · rw [if_pos c] at h0; cases h0
      · omega
    obtain ⟨sz, rfl, hsz⟩ := fitsI_nat (alike_zero ha).1
    obtain ⟨P, g⟩ := alike_good hl ha hn ho
    refine ⟨sz, n, L.map SetC.key, 0, fun w a c L' k1 hk => ⟨?_, fun hargs => ?_⟩⟩
    · refine (makeTable_yes sz a n c L' w k1 (by rw [alike_key hk]; exact ha) hn).mono ?_
      rintro _ w' ⟨v, rfl, h1⟩
      have g' := g.keyed hk
      have e : ∀ i, i < n → RepB (nW sz) (fun j => (L'.getD i .nul).xs.getD j 0) (P i) := fun i hi => by
        have gi := g'.good i hi
        exact (RepB.self (fun j _ => gW_ok gi.ok j) : RepB (nW sz) (gW (L'.getD i .nul).xs) _).congr (fun _ _ => rfl) (fun x hx => gi.has x hx)
      have r := h1.resN e hn
      rw [← g.key] at r
      exact r
    · have r := rmakeTable_yes (sz : Int) a n c L' w k1 (by rw [alike_key hk]; exact ha) hn hargs
      rw [hk] at r
      exact r
  · refine ⟨0, 0, [], mtE s L, fun w a c L' k1 hk => ⟨?_, fun _ => ?_⟩⟩
    · have K := makeTable_no s a n c L' w k1 (by rw [mtE_key hk]; exact h0)
      rw [mtE_key hk] at K
      refine K.mono ?_
      rintro _ w' ⟨rfl, hb⟩
      exact resN_zero hb
    · have K := rmakeTable_no s a n c L' w k1 (by rw [mtE_key hk]; exact h0)
      rw [mtE_key hk] at K
      exact K
end Go.Proofs.YtbendkndnojihabDoor
