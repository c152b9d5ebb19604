/-
  ORDERS: neighbours, byNumber, degrees: contracts.
-/
import Derived.Test.YtdcdgojcboinaaaCo1
import Derived.Test.YtdcdgojcboinaaaCg5
namespace Go.Proofs.Ytdcdgojcboinaaa
open Go.RowKit Go.Deep
set_option linter.unusedVariables false

set_option maxRecDepth 100000 in
set_option maxHeartbeats 16000000 in
/-- order.neighbours. -/
theorem oneigh_any (R : Nat) (width : Int) (a1 a2 : Option Addr) (n1 c1 n2 c2 : Nat) (st cols : List Int) (r X Y : Nat) (w : World) (h1 : SlI w a1 n1 c1 st) (h2 : SlI w a2 n2 c2 cols) (hb1 : n1 ≤ 17592186044416) (hb2 : n2 ≤ 17592186044416) (hm : MayP (R : Int) width st cols) (hr : r < R) (hR : RowAt st cols width r X Y) :
    Calls Try.prog 25 #[patV (R : Int) width a1 n1 c1 a2 n2 c2, .int .i64 (r : Int)] w fun e w' => e = .returned (subV a2 c2 X Y) ∧ Below w.heap.size w w' := by
  obtain ⟨wb, hwb⟩ : ∃ x, w.alloc (.cells #[.int .i64 (R : Int), .int .i64 width, .slice a1 n1 c1, .slice a2 n2 c2] 24) = x := ⟨_, rfl⟩
  have bb : Below w.heap.size w wb := by rw [← hwb]; exact (Below.refl _ _).alloc (Nat.le_refl _) _
  have hT := BoxP.made w #[.int .i64 (R : Int), .int .i64 width, .slice a1 n1 c1, .slice a2 n2 c2] 24
  rw [hwb] at hT
  have p0 := (hT.all 0 _ rfl).1
  have p1 := (hT.all 1 _ rfl).1
  have p2 := (hT.all 2 _ rfl).1
  have p3 := (hT.all 3 _ rfl).1
  have hln := h1.len
  have hlc := h2.len
  have hl2 := hm.head.len
  have hnc := h2.le
  have hfit := hm.head.fit
  obtain ⟨b1, o1, rfl, hc1⟩ := (h1.below bb).at (by omega)
  have sk := hc1 r (by omega)
  have sk1 := hc1 (r + 1) (by omega)
  rw [hR.hX] at sk
  rw [hR.hY] at sk1
  have hXY := hR.le
  have hYn := hR.lt
  have hn1 : n1 = R + 1 := by omega
  subst hn1
  have tr : (r : Int) < (R : Int) + 1 := by omega
  have tr1 : (r : Int) + 1 < (R : Int) + 1 := by omega
  have tXY : (X:Int) ≤ (Y:Int) := by omega
  have tYc : (Y:Int) ≤ (c2:Int) := by omega
  have hr8 : r < 128 := by omega
  have HB := hide bb
  clear hT bb hc1 hm hR h1 h2 hln hlc hl2 hfit
  unfold patV
  go_enter Try.func25, Try.ntmps25
  go_wp2_with fail
  try go_quiet (fail)
  all_goals (try go_wp2_with fail)
  all_goals (try go_ret)
  all_goals exact ⟨by simp_all [subV], by first | exact unhide HB | exact bel_drewN (unhide HB) _⟩
/-- A row's list. -/
theorem oneigh_list (R : Nat) (width : Int) (a1 a2 : Option Addr) (n1 c1 n2 c2 : Nat) (st cols : List Int) (r : Nat) (w : World) (h1 : SlI w a1 n1 c1 st) (h2 : SlI w a2 n2 c2 cols) (hb1 : n1 ≤ 17592186044000) (hb2 : n2 ≤ 17592186044000) (hm : MayP (R : Int) width st cols) (hr : r < R) :
    Calls Try.prog 25 #[patV (R : Int) width a1 n1 c1 a2 n2 c2, .int .i64 (r : Int)] w fun e w' => ∃ a c, e = .returned (.slice a (rowL st cols r).length c) ∧ SlI w' a (rowL st cols r).length c (rowL st cols r) ∧ (rowL st cols r).length ≤ 17592186044000 ∧ (∀ y, a = some y → rowL st cols r ≠ [] → ∃ t, a2 = some t ∧ t.block = y.block) ∧ Below w.heap.size w w' := by
  obtain ⟨X, Y, hR⟩ := hm.rowAt (k := r) (by omega)
  refine (oneigh_any R width a1 a2 n1 c1 n2 c2 st cols r X Y w h1 h2 (by omega) (by omega) hm hr hR).mono ?_
  rintro _ w' ⟨rfl, b⟩
  have hsub := (h2.below b).sub hR.le (by rw [← h2.len]; exact hR.lt)
  have hl : rowL st cols r = (cols.drop X).take (Y - X) := by
    unfold rowL
    rw [hR.hX, hR.hY]
    simp
  have hlen : (rowL st cols r).length = Y - X := by
    rw [hl, List.length_take, List.length_drop]
    have := hR.lt
    omega
  unfold subV
  refine ⟨_, _, by rw [hlen], by rw [hlen, hl]; exact hsub, by rw [hlen]; have := hR.lt; have := h2.len; omega, fun y hy _ => ?_, b⟩
  by_cases e : c2 = X
  · rw [if_pos e] at hy
    exact ⟨y, hy, rfl⟩
  · rw [if_neg e] at hy
    cases h : a2 with
    | none => rw [h] at hy; simp at hy
    | some t =>
      rw [h] at hy
      simp at hy
      refine ⟨t, rfl, ?_⟩
      rw [← hy]
      unfold Addr.add
      split <;> rfl
set_option maxRecDepth 100000 in
set_option maxHeartbeats 8000000 in
/-- order.byNumber. -/
theorem obyNumber_any (R : Nat) (width : Int) (a1 a2 : Option Addr) (n1 c1 n2 c2 : Nat) (s : Value) (w : World) (hR : R ≤ 128) :
    Calls Try.prog 37 #[patV (R : Int) width a1 n1 c1 a2 n2 c2, s] w fun e w' => ∃ g, w.heap.size ≤ g ∧ e = .returned (.slice (some ⟨g, 0, none⟩) R R) ∧ RoV w' g R (fun i => .int .i64 (i : Int)) ∧ g < w'.heap.size ∧ Below w.heap.size w w' := by
  obtain ⟨wb, hwb⟩ : ∃ x, w.alloc (.cells #[.int .i64 (R : Int), .int .i64 width, .slice a1 n1 c1, .slice a2 n2 c2] 24) = x := ⟨_, rfl⟩
  have bb : Below w.heap.size w wb := by rw [← hwb]; exact (Below.refl _ _).alloc (Nat.le_refl _) _
  have hT := BoxP.made w #[.int .i64 (R : Int), .int .i64 width, .slice a1 n1 c1, .slice a2 n2 c2] 24
  rw [hwb] at hT
  have p0 := (hT.all 0 _ rfl).1
  have hmk := make_intsR R (by omega) wb
  have hRo := RoV.made wb R 3 (.int .i64 0)
  obtain ⟨wm, hwm⟩ : ∃ x, wb.alloc (.cells (madeCells #[.int .i64 0] R) 3) = x := ⟨_, rfl⟩
  have bm : Below wb.heap.size wb wm := by rw [← hwm]; exact (Below.refl _ _).alloc (Nat.le_refl _) _
  have hgl : wb.heap.size < wm.heap.size := by rw [← hwm]; simp
  rw [hwm] at hmk hRo
  obtain ⟨g, hg⟩ : ∃ g, wb.heap.size = g := ⟨_, rfl⟩
  have HB := hide (bb.trans (bm.mono bb.size))
  have HG := hide (And.intro (show w.heap.size ≤ g by have := bb.size; omega) (show g < wm.heap.size by omega))
  rw [hg] at hmk hRo
  have HR0 := hide hRo
  clear hT bb bm hRo hwm hgl
  unfold patV
  go_enter Try.func37, Try.ntmps37
  go_wp2_with fail
  go_loopw [12, 6] (fun kv _ wr => ∃ k : Nat, k ≤ R ∧ kv = .int .i64 (k : Int) ∧ Hid (RoV wr g R (fun i => .int .i64 (if i < k then (i : Int) else 0))) ∧ Hid (Chg (fun j => j = g) wm wr)) (fun kv _ _ => R - (intOf kv).toNat)
  case atStart => exact ⟨0, Nat.zero_le _, rfl, hide ((unhide HR0).congr (fun i _ => by rw [if_neg (by omega)])), hide (Chg.refl _ _)⟩
  case round =>
    obtain ⟨k, hk, rfl, HR, HC⟩ := hrel
    by_cases hlt : k < R
    · have hlt' : (k : Int) < (R : Int) := by omega
      have hc1 : wr.cell? ⟨g, k, none⟩ = some (.int .i64 0) := by have h9 := (unhide HR k hlt).1; simpa using h9
      have hc2 := (unhide HR k hlt).2
      have HN2 := hide (show RoV (wr.setCell ⟨g, k, none⟩ (.int .i64 (k : Int))) g R (fun i => .int .i64 (if i < k + 1 then (i : Int) else 0)) from ((unhide HR).put k _ hlt).congr (fun i hi => by
        by_cases e : i = k
        · subst e; rw [if_pos rfl, if_pos (by omega)]
        · rw [if_neg e]
          by_cases q : i < k
          · rw [if_pos q, if_pos (by omega)]
          · rw [if_neg q, if_neg (by omega)]))
      have HN3 := hide (show Chg (fun j => j = g) wm (wr.setCell ⟨g, k, none⟩ (.int .i64 (k : Int))) from (unhide HC).trans (Chg.of_set _ _ _ _ rfl))
      clear hmk
      go_wp2_with fail
      exact ⟨⟨k + 1, by omega, by (first | rfl | go_num), HN2, HN3⟩, by simp [intOf]; omega⟩
    · obtain rfl : k = R := by omega
      have hlt' : ¬ (k : Int) < (k : Int) := by omega
      clear hmk
      go_wp2_with fail
      try go_ret
      exact ⟨g, (unhide HG).1, rfl, (unhide HR).congr (fun i hi => by rw [if_pos hi]), Nat.lt_of_lt_of_le (unhide HG).2 (unhide HC).size, (unhide HB).trans ((unhide HC).below (unhide HB).size (fun j hj e => by have := (unhide HG).1; omega))⟩
end Go.Proofs.Ytdcdgojcboinaaa

namespace Go.Proofs.Ytdcdgojcboinaaa
open Go.RowKit Go.Deep
set_option linter.unusedVariables false

set_option maxRecDepth 100000 in
set_option maxHeartbeats 8000000 in
/-- order.degrees. -/
theorem odegrees_any (R : Nat) (width : Int) (a1 a2 : Option Addr) (n1 c1 n2 c2 : Nat) (st cols : List Int) (w : World) (h1 : SlI w a1 n1 c1 st) (h2 : SlI w a2 n2 c2 cols) (hb1 : n1 ≤ 17592186044000) (hb2 : n2 ≤ 17592186044000) (hm : MayP (R : Int) width st cols) :
    Calls Try.prog 40 #[patV (R : Int) width a1 n1 c1 a2 n2 c2] w fun e w' => ∃ g, w.heap.size ≤ g ∧ e = .returned (.slice (some ⟨g, 0, none⟩) R R) ∧ RoV w' g R (fun i => .int .i64 ((rowL st cols i).length : Int)) ∧ g < w'.heap.size ∧ Below w.heap.size w w' := by
  have hR : R ≤ 128 := by have := hm.head.fit; omega
  obtain ⟨wb, hwb⟩ : ∃ x, w.alloc (.cells #[.int .i64 (R : Int), .int .i64 width, .slice a1 n1 c1, .slice a2 n2 c2] 24) = x := ⟨_, rfl⟩
  have bb : Below w.heap.size w wb := by rw [← hwb]; exact (Below.refl _ _).alloc (Nat.le_refl _) _
  have hT := BoxP.made w #[.int .i64 (R : Int), .int .i64 width, .slice a1 n1 c1, .slice a2 n2 c2] 24
  rw [hwb] at hT
  have p0 := (hT.all 0 _ rfl).1
  have hmk := make_intsR R (by omega) wb
  have hRo := RoV.made wb R 3 (.int .i64 0)
  obtain ⟨wm, hwm⟩ : ∃ x, wb.alloc (.cells (madeCells #[.int .i64 0] R) 3) = x := ⟨_, rfl⟩
  have bm : Below wb.heap.size wb wm := by rw [← hwm]; exact (Below.refl _ _).alloc (Nat.le_refl _) _
  have hgl : wb.heap.size < wm.heap.size := by rw [← hwm]; simp
  rw [hwm] at hmk hRo
  have hlt0 := hT.lt
  obtain ⟨g, hg⟩ : ∃ g, wb.heap.size = g := ⟨_, rfl⟩
  have HB := hide (bb.trans (bm.mono bb.size))
  have HG := hide (And.intro (show w.heap.size < g by omega) (show g < wm.heap.size by omega))
  rw [hg] at hmk hRo
  have HR0 := hide hRo
  have HT := hide (hT.below bm)
  have HS := hide (And.intro h1 h2)
  have HM := hide hm
  clear hT bb bm hRo hwm hgl h1 h2 hm hlt0
  unfold patV
  go_enter Try.func40, Try.ntmps40
  go_wp2_with fail
  go_loopw [10, 4] (fun kv _ wr => ∃ k : Nat, k ≤ R ∧ kv = .int .i64 (k : Int) ∧ Hid (RoV wr g R (fun i => .int .i64 (if i < k then ((rowL st cols i).length : Int) else 0))) ∧ Hid (Chg (fun j => j = g) wm wr)) (fun kv _ _ => R - (intOf kv).toNat)
  case atStart => exact ⟨0, Nat.zero_le _, rfl, hide ((unhide HR0).congr (fun i _ => by rw [if_neg (by omega)])), hide (Chg.refl _ _)⟩
  case round =>
    obtain ⟨k, hk, rfl, HR, HC⟩ := hrel
    by_cases hlt : k < R
    · have hlt' : (k : Int) < (R : Int) := by omega
      have hTr := (unhide HT).chg (unhide HC) (by have := (unhide HG).1; omega)
      have q0 := (hTr.all 0 _ rfl).1
      have q1 := (hTr.all 1 _ rfl).1
      have q2 := (hTr.all 2 _ rfl).1
      have q3 := (hTr.all 3 _ rfl).1
      have KN := hide (oneigh_list R width a1 a2 n1 c1 n2 c2 st cols k wr (((unhide HS).1.below (unhide HB)).chg (unhide HC) (fun z hz hne e => by have := (unhide HS).1.block_lt hne z hz; have := (unhide HG).1; omega)) (((unhide HS).2.below (unhide HB)).chg (unhide HC) (fun z hz hne e => by have := (unhide HS).2.block_lt hne z hz; have := (unhide HG).1; omega)) hb1 hb2 (unhide HM) hlt)
      unfold patV at KN
      clear hmk hTr p0
      go_wp2_with fail
      refine (unhide KN).mono ?_
      rintro _ w4 ⟨a4, c4, rfl, _, hl4, _, b4⟩
      have hR4 := (unhide HR).below b4
      have hc1 : w4.cell? ⟨g, k, none⟩ = some (.int .i64 0) := by have h9 := (hR4 k hlt).1; simpa using h9
      have hc2 := (hR4 k hlt).2
      obtain ⟨m, hm⟩ : ∃ m, (rowL st cols k).length = m := ⟨_, rfl⟩
      rw [hm] at hl4 ⊢
      have HN2 := hide (show RoV (w4.setCell ⟨g, k, none⟩ (.int .i64 (m : Int))) g R (fun i => .int .i64 (if i < k + 1 then ((rowL st cols i).length : Int) else 0)) from (hR4.put k _ hlt).congr (fun i hi => by
        by_cases e : i = k
        · subst e; rw [if_pos rfl, if_pos (by omega), hm]
        · rw [if_neg e]
          by_cases q : i < k
          · rw [if_pos q, if_pos (by omega)]
          · rw [if_neg q, if_neg (by omega)]))
      have HN3 := hide (show Chg (fun j => j = g) wm (w4.setCell ⟨g, k, none⟩ (.int .i64 (m : Int))) from ((unhide HC).trans (Chg.of_below b4)).trans (Chg.of_set _ _ _ _ rfl))
      clear KN hR4 b4 hm q0 q1 q2 q3
      go_wp2_with fail
      exact ⟨⟨k + 1, by omega, by (first | rfl | go_num), HN2, HN3⟩, by simp [intOf]; omega⟩
    · obtain rfl : k = R := by omega
      have hlt' : ¬ (k : Int) < (k : Int) := by omega
      clear hmk
      go_wp2_with fail
      try go_ret
      exact ⟨g, by have := (unhide HG).1; omega, rfl, (unhide HR).congr (fun i hi => by rw [if_pos hi]), Nat.lt_of_lt_of_le (unhide HG).2 (unhide HC).size, (unhide HB).trans ((unhide HC).below (unhide HB).size (fun j hj e => by have := (unhide HG).1; omega))⟩
end Go.Proofs.Ytdcdgojcboinaaa
