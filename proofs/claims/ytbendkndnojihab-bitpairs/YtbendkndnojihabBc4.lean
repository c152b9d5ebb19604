/-
  bitset.Compare: its contract.
-/
import Derived.Test.YtbendkndnojihabBc3
import Derived.Test.YtbendkndnojihabBl0
namespace Go.Proofs.Ytbendkndnojihab
open Go.RowKit Go.Deep Go.Shelf
set_option linter.unusedVariables false
attribute [local go_sem] Oper.semAt_some

/-- How two sets stand to one another. -/
def cmpR (s1 : Int) (x1 : List Nat) (s2 : Int) (x2 : List Nat) : Int :=
  if MayS s1 x1 && MayS s2 x2 then (if s1 = s2 then cmpB (hasB (gW x1)) (hasB (gW x2)) s1.toNat else cmpI s1 s2) else 0
theorem cmpR_no1 {s1 : Int} {x1 : List Nat} {s2 : Int} {x2 : List Nat} (h : MayS s1 x1 = false) : cmpR s1 x1 s2 x2 = 0 := by simp [cmpR, h]
theorem cmpR_no2 {s1 : Int} {x1 : List Nat} {s2 : Int} {x2 : List Nat} (h : MayS s2 x2 = false) : cmpR s1 x1 s2 x2 = 0 := by simp [cmpR, h]
theorem cmpR_off {s1 : Int} {x1 : List Nat} {s2 : Int} {x2 : List Nat} (h1 : MayS s1 x1 = true) (h2 : MayS s2 x2 = true) (h : s1 ≠ s2) : cmpR s1 x1 s2 x2 = cmpI s1 s2 := by simp [cmpR, h1, h2, h]
theorem cmpR_same {s : Int} {x1 x2 : List Nat} (h1 : MayS s x1 = true) (h2 : MayS s x2 = true) : cmpR s x1 s x2 = cmpB (hasB (gW x1)) (hasB (gW x2)) s.toNat := by simp [cmpR, h1, h2]
theorem cmpR_words {s : Int} {x1 x2 : List Nat} (o1 : OkW x1) (o2 : OkW x2) (h1 : MayS s x1 = true) (h2 : MayS s x2 = true) : cmpR s x1 s x2 = cmpW (gW x1) (gW x2) (nW s.toNat) := by
  rw [cmpR_same h1 h2, cmpW_eq (fun i _ => gW_ok o1 i) (fun i _ => gW_ok o2 i)]
  have hn : s.toNat ≤ 64 * nW s.toNat := by unfold nW; omega
  obtain ⟨m, hm⟩ : ∃ m, 64 * nW s.toNat = s.toNat + m := ⟨64 * nW s.toNat - s.toNat, by omega⟩
  rw [hm]
  refine (cmpB_top s.toNat m (fun x k1 k2 => ?_)).symm
  have z1 := MayS.zero h1 x k1 (by rw [MayS.len h1]; omega)
  have z2 := MayS.zero h2 x k1 (by rw [MayS.len h2]; omega)
  exact z1.trans z2.symm
theorem cmpW_all {f g : Nat → Nat} : ∀ {n : Nat}, (∀ i, i < n → f i = g i) → cmpW f g n = 0
  | 0, _ => rfl
  | n + 1, h => by simp only [cmpW]; rw [if_pos (h n (by omega))]; exact cmpW_all (fun i hi => h i (by omega))
theorem cmpW_at {f g : Nat → Nat} {i : Nat} (hd : f i ≠ g i) : ∀ {n : Nat}, i < n → (∀ j, i < j → j < n → f j = g j) → cmpW f g n = cmpI (f i) (g i)
  | 0, h, _ => by omega
  | n + 1, hi, h => by
    simp only [cmpW]
    by_cases e : i = n
    · subst e
      rw [if_neg hd]
      unfold cmpI
      by_cases hl : f i < g i
      · rw [if_pos hl, if_pos (by omega)]
      · rw [if_neg hl, if_neg (by omega), if_pos (by omega)]
    · rw [if_pos (h n (by omega) (by omega))]
      exact cmpW_at hd (by omega) (fun j h1 h2 => h j h1 (by omega))

set_option maxRecDepth 100000 in
set_option maxHeartbeats 4000000 in
/-- bitset.Compare, of two sets of one universe. -/
theorem compare_same (s : Int) (a1 : Option Addr) (N c1 : Nat) (x1 : List Nat) (a2 : Option Addr) (c2 : Nat) (x2 : List Nat) (w : World) (h1 : SlW w a1 N c1 x1) (h2 : SlW w a2 N c2 x2) (o1 : OkW x1) (o2 : OkW x2) (m1 : MayS s x1 = true) (m2 : MayS s x2 = true) :
    Calls Try.prog 30 #[setV s a1 N c1, setV s a2 N c2] w fun r w' => r = .returned (.int .i64 (cmpR s x1 s x2)) ∧ Below w.heap.size w w' := by
  have hle1 := h1.le
  have hcap1 := h1.cap
  have hle2 := h2.le
  have hcap2 := h2.cap
  unfold maxLen at hcap1 hcap2
  have hNW : N = nW s.toNat := by rw [← h1.len, MayS.len m1]
  have HW := hide (cmpR_words o1 o2 m1 m2)
  rw [← hNW] at HW
  clear hNW
  obtain ⟨wa, hwa⟩ : ∃ x, w.alloc (.cells #[.int .i64 s, .slice a1 N c1] 26) = x := ⟨_, rfl⟩
  obtain ⟨wb, hwb⟩ : ∃ x, wa.alloc (.cells #[.int .i64 s, .slice a2 N c2] 26) = x := ⟨_, rfl⟩
  obtain ⟨wc, hwc⟩ : ∃ x, wb.alloc (.cells #[.int .i64 0] 3) = x := ⟨_, rfl⟩
  have hba : Below w.heap.size w wa := by rw [← hwa]; exact (Below.refl _ _).alloc (Nat.le_refl _) _
  have hbb : Below wa.heap.size wa wb := by rw [← hwb]; exact (Below.refl _ _).alloc (Nat.le_refl _) _
  have hbc : Below wb.heap.size wb wc := by rw [← hwc]; exact (Below.refl _ _).alloc (Nat.le_refl _) _
  have tA : Two wc w.heap.size (.int .i64 s) (.slice a1 N c1) := Two.keep (w := wb) (Two.keep (w := wa) (by rw [← hwa]; exact Two.made _ _ _ _) hbb) hbc
  have tB : Two wc wa.heap.size (.int .i64 s) (.slice a2 N c2) := Two.keep (w := wb) (by rw [← hwb]; exact Two.made _ _ _ _) hbc
  have tR : wc.cell? ⟨wb.heap.size, 0, none⟩ = some (.int .i64 0) ∧ wc.frozen? ⟨wb.heap.size, 0, none⟩ = false := by rw [← hwc]; simp
  have hwab : w.heap.size < wa.heap.size := by rw [← hwa]; simp
  have hwbb : wa.heap.size < wb.heap.size := by rw [← hwb]; simp
  have hB := (hba.trans (hbb.mono hba.size)).trans (hbc.mono (by omega))
  have K1 := may_any s a1 N c1 x1 wc (h1.below hB) o1
  rw [m1] at K1
  have HA := hide (And.intro tA (And.intro tB (And.intro tR hB)))
  have HS := hide (And.intro h1 h2)
  have a0 := tA.c0
  have a1' := tA.c1
  unfold setV at K1 ⊢
  have HK1 := hide K1
  have HM2 := hide m2
  have HO2 := hide o2
  have HO1 := hide o1
  clear K1 tA tB tR hB h1 h2 o1 o2 m1 m2 hba hbb hbc
  refine (callsIn_wide (n := 4)).1 ?_
  refine callsIn_of_wp_marks Try.func30 rfl trivial ?_ rfl
  simp only [Try.ntmps30, List.size_toArray, List.length_cons, List.length_nil, Nat.reduceAdd, Nat.reduceSub, Array.replicate_succ, Array.replicate_zero, List.push_toArray, List.append_toArray, List.nil_append, List.cons_append]
  gi_wp2_with fail
  refine ⟨trivial, (callsIn_wide.2 (unhide HK1)).mono ?_⟩
  rintro _ wd ⟨rfl, hbd⟩
  have tB1 := (unhide HA).2.1.keep hbd
  have K2 := may_any s a2 N c2 x2 wd ((((unhide HS).2.below (unhide HA).2.2.2)).below hbd) (unhide HO2)
  rw [unhide HM2] at K2
  unfold setV at K2
  have HK2 := hide K2
  have b0 := tB1.c0
  have b1 := tB1.c1
  have HA1 := hide (show Two wd w.heap.size (.int .i64 s) (.slice a1 N c1) ∧ Two wd wa.heap.size (.int .i64 s) (.slice a2 N c2) ∧ (wd.cell? ⟨wb.heap.size, 0, none⟩ = some (.int .i64 0) ∧ wd.frozen? ⟨wb.heap.size, 0, none⟩ = false) ∧ Below w.heap.size w wd ∧ wb.heap.size < wd.heap.size from by
    obtain ⟨q1, q2, q3, q4⟩ := unhide HA
    have hl := World.block_lt_of_cell? _ _ q3.1
    exact ⟨q1.keep hbd, q2.keep hbd, ⟨below_cell hbd q3.1, by rw [hbd.frozen hl]; exact q3.2⟩, q4.trans (hbd.mono q4.size), Nat.lt_of_lt_of_le hl hbd.size⟩)
  clear tB1 K2 hbd HK1 HA a0 a1'
  gi_wp2_with fail
  refine ⟨trivial, (callsIn_wide.2 (unhide HK2)).mono ?_⟩
  rintro _ we ⟨rfl, hbe⟩
  have HA2 := hide (show Two we w.heap.size (.int .i64 s) (.slice a1 N c1) ∧ Two we wa.heap.size (.int .i64 s) (.slice a2 N c2) ∧ (we.cell? ⟨wb.heap.size, 0, none⟩ = some (.int .i64 0) ∧ we.frozen? ⟨wb.heap.size, 0, none⟩ = false) ∧ Below w.heap.size w we ∧ wb.heap.size < we.heap.size from by
    obtain ⟨q1, q2, q3, q4, q5⟩ := unhide HA1
    exact ⟨q1.keep hbe, q2.keep hbe, ⟨below_cell hbe q3.1, by rw [hbe.frozen q5]; exact q3.2⟩, q4.trans (hbe.mono q4.size), Nat.lt_of_lt_of_le q5 hbe.size⟩)
  have e0 := (unhide HA2).1.c0
  have e1 := (unhide HA2).1.c1
  have f0 := (unhide HA2).2.1.c0
  have f1 := (unhide HA2).2.1.c1
  clear hbe HK2 HA1 b0 b1
  gi_wp2_with fail
  refine ⟨trivial, (back_in Fence.wide 3 trivial rfl a1 N c1 we).mono ?_⟩
  rintro _ _ ⟨rfl, rfl⟩
  gi_wp2_with fail
  obtain ⟨wf, hwf⟩ : ∃ x, we.alloc (.cells #[.slice a1 N c1] 24) = x := ⟨_, rfl⟩
  have hbf : Below we.heap.size we wf := by rw [← hwf]; exact (Below.refl _ _).alloc (Nat.le_refl _) _
  have hszf : we.heap.size < wf.heap.size := by rw [← hwf]; simp
  have cF : wf.cell? ⟨we.heap.size, 0, none⟩ = some (.slice a1 N c1) := by rw [← hwf]; simp
  rw [hwf]
  obtain ⟨q1, q2, q3, q4, q5⟩ := unhide HA2
  have hBf : Below w.heap.size w wf := q4.trans (hbf.mono q4.size)
  have hS1 := (unhide HS).1.below hBf
  have hS2 := (unhide HS).2
  have d1 := below_cell hbf q2.c1
  have d2 := below_cell hbf q3.1
  have d3 : wf.frozen? ⟨wb.heap.size, 0, none⟩ = false := by rw [hbf.frozen q5]; exact q3.2
  have hwf2 : w.heap.size ≤ wf.heap.size := by omega
  have HSeq := back_stops Fence.wide 3 trivial rfl (by decide) we.heap.size a1 N c1 x1 wf hszf cF hS1
  clear HA2 e0 e1 f0 f1 hwf hwa hwb hwc hbf cF q1 q2 q3 q4
  refine wpIn_rangeFunc_ownG (F := Fence.wide) (n := 4) rfl (by decide) (gf := 70) (lb := #[.pointer (some ⟨we.heap.size, 0, none⟩)]) rfl trivial (enters_of Try.func70 (by kernel_rfl) rfl)
    HSeq belowK_t (belowK_b (Nat.le_refl _)) (Below.refl _ _) (fun _ => rfl)
    (fun pre W => ((∀ j ∈ pre, gW x1 j.val = gW x2 j.val) ∧ W.cell? ⟨wa.heap.size, 1, none⟩ = some (.slice a2 N c2) ∧ W.cell? ⟨wb.heap.size, 0, none⟩ = some (.int .i64 0) ∧ W.frozen? ⟨wb.heap.size, 0, none⟩ = false) ∧ Below w.heap.size w W)
    (fun c pre W => (c = .ret ∧ ∃ ini last, pre = ini ++ [last] ∧ (∀ j ∈ ini, gW x1 j.val = gW x2 j.val) ∧ gW x1 last.val ≠ gW x2 last.val ∧ W.cell? ⟨wb.heap.size, 0, none⟩ = some (.int .i64 (cmpI (gW x1 last.val) (gW x2 last.val)))) ∧ Below w.heap.size w W)
    (OwnFrom.and (Own.from (fun s A B row hs hg hr => ⟨hs.1, cell_kept hs.2.1 hg hr, cell_kept hs.2.2.1 hg hr, (frozen_kept hs.2.2.1 hg hr).trans hs.2.2.2⟩) _) (ownFrom_below (Nat.le_refl _) hwf2))
    (fun c => OwnFrom.and (Own.from (fun s A B row hs hg hr => by obtain ⟨hc, ini, last, e1, e2, e3, e4⟩ := hs; exact ⟨hc, ini, last, e1, e2, e3, cell_kept e4 hg hr⟩) _) (ownFrom_below (Nat.le_refl _) hwf2))
    ⟨⟨(fun j hj => by cases hj), d1, d2, d3⟩, hBf⟩
    (fun x => { tmps :=
        #[Value.agg #[Value.int IntKind.i64 s, Value.slice a1 N c1],
          Value.agg #[Value.int IntKind.i64 s, Value.slice a2 N c2],
          Value.pointer (some { block := w.heap.size, off := 0 }),
          Value.pointer (some { block := wa.heap.size, off := 0 }),
          Value.pointer (some { block := wb.heap.size, off := 0 }), .int .i64 ((x.val : Nat) : Int), .int .u64 ((x1[x.val]?.getD 0 : Nat) : Int),
          Value.agg #[Value.int IntKind.i64 s, Value.slice a1 N c1], Value.bool true, Value.bool false,
          Value.bool false, Value.agg #[Value.int IntKind.i64 s, Value.slice a2 N c2], Value.bool true,
          Value.bool false, Value.bool false, Value.pointer (some { block := w.heap.size, off := 0 }),
          Value.int IntKind.i64 s, Value.pointer (some { block := wa.heap.size, off := 0 }), Value.int IntKind.i64 s,
          Value.bool false, undef, undef, undef, undef, undef, Value.pointer (some { block := w.heap.size, off := 1 }),
          Value.slice a1 N c1, Value.func (Fn.func 70) #[] #[Value.pointer (some { block := we.heap.size, off := 0 })],
          .int .i64 ((x.val : Nat) : Int), .int .u64 ((x1[x.val]?.getD 0 : Nat) : Int), undef, undef, undef, undef, undef, undef, undef, undef, undef, undef, undef, undef, undef,
          undef], defers := [] }) ?assign ?body ?done ?stop
  case assign =>
    intro l x W K hK
    unfold encB
    gi_wp2
    exact hK
  case body =>
    rintro l pre x W ⟨⟨hp, hcw, hcr, hfr⟩, hBW⟩ _
    obtain ⟨i, hi⟩ := x
    dsimp only
    obtain ⟨b2, off2, rfl, hc2⟩ := (hS2.below hBW).at (by omega)
    have g2 := hc2 i hi
    unfold vU at g2
    have HP := hide hp
    have HG1 := hide (show gW x1 i = x1[i]?.getD 0 by simp [gW, List.getD])
    have HG2 := hide (show gW x2 i = x2.getD i 0 from rfl)
    have hi' : (i : Int) < (N : Int) := by omega
    generalize x1[i]?.getD 0 = u at *
    generalize x2.getD i 0 = v at *
    have HBW := hide hBW
    clear hc2 hp hBW HSeq HS hS1 hS2
    by_cases hd : u = v
    · subst hd
      have hne : ((u : Int) != (u : Int)) = false := by simp
      gi_wp2
      exact ⟨KeepsFrom.refl _ _, Below.refl _ _, ⟨fun j hj => by
        rcases List.mem_append.1 hj with hj | hj
        · exact unhide HP j hj
        · simp at hj; subst hj; exact (unhide HG1).trans (unhide HG2).symm, hcw, hcr, hfr⟩, unhide HBW⟩
    · have hne : ((u : Int) != (v : Int)) = true := by simp; omega
      have hne2 : ((u : Int) == (v : Int)) = false := by simp; omega
      gi_wp2_with fail
      refine ⟨trivial, (CallsIn.inRound l (callsIn_wide.2 (cmp_u64 (u : Int) (v : Int) W))).mono ?_⟩
      rintro _ _ ⟨rfl, rfl⟩
      gi_wp2
      refine ⟨(KeepsOthers.setCell _ _ _).from _, ⟨rfl, pre, ⟨i, hi⟩, rfl, unhide HP, ?_, ?_⟩, (unhide HBW).setCell (p := ⟨wb.heap.size, 0, none⟩) (by show w.heap.size ≤ wb.heap.size; omega) _⟩
      · show gW x1 i ≠ gW x2 i
        rw [unhide HG1, unhide HG2]; exact hd
      · show World.cell? _ _ = some (.int .i64 (cmpI (gW x1 i : Int) (gW x2 i : Int)))
        rw [unhide HG1, unhide HG2]
        exact World.cell?_setCell_same' _ _ _ (by rw [hcr]; rfl)
  case done =>
    rintro D ys W hD hall ⟨⟨hp, hcw, hcr, hfr⟩, hBW⟩ hK
    have HE := hide (show cmpR s x1 s x2 = 0 by
      rw [unhide HW]
      exact cmpW_all (fun i hi => hp ⟨i, hi⟩ (hall ⟨i, hi⟩)))
    have HP := hide hp
    have HAl := hide hall
    have HBW := hide hBW
    clear hp hall hBW
    gi_wp2
    have hK' := (KeepsOthers.setCell W ⟨wb.heap.size, 0, none⟩ (.int .i64 0)).same D _ hK rfl
    refine ⟨by simp, .inl ⟨_, _, rfl, run_takeDeferred hK', ?_⟩⟩
    have hc5 := cell_kept (World.cell?_setCell_same' W ⟨wb.heap.size, 0, none⟩ (.int .i64 0) (by rw [hcr]; rfl)) (grownBy_putObj' _ D (.deferred none)) (fun r e => by cases e; exact ⟨_, hK', rfl⟩)
    refine ⟨.int .i64 0, ?_, by rw [unhide HE], ((unhide HBW).setCell (p := ⟨wb.heap.size, 0, none⟩) (by show w.heap.size ≤ wb.heap.size; omega) _).trans (belowK_b (w := w) (Nat.le_refl _) _ D _ _ (by omega) hK' rfl rfl)⟩
    simp [results, Try.results30, go_sem, hc5]
  case stop =>
    rintro D c pre W hD ⟨ini0, last0, e0, hmore⟩ ⟨⟨rfl, ini, last, e1, e2, e3, hcr⟩, hBW⟩ hK
    have e4 := e0.symm.trans e1
    obtain ⟨rfl, e5⟩ := List.append_inj' e4 rfl
    simp at e5
    subst e5
    have HE := hide (show cmpR s x1 s x2 = cmpI (gW x1 last0.val) (gW x2 last0.val) by
      rw [unhide HW]
      exact cmpW_at e3 last0.isLt (fun j h1 h2 => e2 ⟨j, h2⟩ (hmore ⟨j, h2⟩ h1)))
    have HBW := hide hBW
    clear hBW e0 e1 e2 e3 e4 hmore
    gi_wp2
    refine ⟨by simp, .inl ⟨_, _, rfl, run_takeDeferred hK, ?_⟩⟩
    have hc5 := cell_kept hcr (grownBy_putObj' _ D (.deferred none)) (fun r e => by cases e; exact ⟨_, hK, rfl⟩)
    refine ⟨.int .i64 (cmpI (gW x1 last0.val) (gW x2 last0.val)), ?_, by rw [unhide HE], (unhide HBW).trans (belowK_b (w := w) (Nat.le_refl _) W D _ _ (by omega) hK rfl rfl)⟩
    simp [results, Try.results30, go_sem, hc5]
end Go.Proofs.Ytbendkndnojihab
