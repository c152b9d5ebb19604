/-
  ORDERS: sloperef11.Has, Neighbours, among: contracts.
-/
import Derived.Test.YtpmafjofkmefeaaCq1
namespace Go.Proofs.Ytpmafjofkmefeaa
open Go.RowKit Go.Deep
set_option linter.unusedVariables false

set_option maxRecDepth 100000 in
set_option maxHeartbeats 8000000 in
/-- sloperef11.Has. -/
theorem wohas_any (R : Nat) (width : Int) (a1 a2 : Option Addr) (n1 c1 n2 c2 : Nat) (st cols : List Int) (r c : Nat) (w : World) (h1 : SlI w a1 n1 c1 st) (h2 : SlI w a2 n2 c2 cols) (hb1 : n1 ≤ 17592186044000) (hb2 : n2 ≤ 17592186044000) (hm : MayP (R : Int) width st cols) (hr : r < R) (ok : Bool) (hok : TruQ ok (InC st cols c r)) :
    Calls Try.prog 54 #[patV (R : Int) width a1 n1 c1 a2 n2 c2, .int .i64 (r : Int), .int .i64 (c : Int)] w fun e w' => e = .returned (.bool ok) ∧ Below w.heap.size w w' := by
  have hR : R ≤ 128 := by have := hm.head.fit; omega
  obtain ⟨X, Y, hRow⟩ := hm.rowAt (k := r) (by omega)
  obtain ⟨wb, hwb⟩ : ∃ x, w.alloc (.cells #[.int .i64 (R : Int), .int .i64 width, .slice a1 n1 c1, .slice a2 n2 c2] 24) = x := ⟨_, rfl⟩
  have bb : Below w.heap.size w wb := by rw [← hwb]; exact (Below.refl _ _).alloc (Nat.le_refl _) _
  have hT := BoxP.made w #[.int .i64 (R : Int), .int .i64 width, .slice a1 n1 c1, .slice a2 n2 c2] 24
  rw [hwb] at hT
  have hln := h1.len
  have hcl := h2.len
  have hhd := hm.head.len
  obtain ⟨b1, o1, e1, hc1⟩ := (h1.below bb).at (by omega)
  subst e1
  have p2 := (hT.all 2 _ rfl).1
  have p3 := (hT.all 3 _ rfl).1
  have sX := hc1 r (by omega)
  have sY := hc1 (r + 1) (by omega)
  rw [hRow.hX] at sX
  rw [hRow.hY] at sY
  have hrn : (r : Int) < (n1 : Int) := by omega
  have hrn2 : (r : Int) + 1 < (n1 : Int) := by omega
  have HT := hide hT
  have HB := hide bb
  have HS := hide (h2.below bb)
  have HRow := hide hRow
  have HOK := hide hok
  have hYn : Y ≤ n2 := by have := hRow.lt; omega
  have hXY := hRow.le
  clear hT bb h1 h2 hm hc1 hRow hok
  unfold patV
  go_enter Try.func54, Try.ntmps54
  go_wp2_with fail
  go_loopw [7] (fun kv wr => ∃ i : Nat, X ≤ i ∧ i ≤ Y ∧ kv = .int .i64 (i : Int) ∧ Hid (∀ j, X ≤ j → j < i → cols.getD j 0 ≠ (c : Int)) ∧ wr = wb) (fun kv _ => Y - (intOf kv).toNat)
  case atStart => exact ⟨X, Nat.le_refl _, hXY, rfl, hide (fun j h1 h2 => by omega), rfl⟩
  case round =>
    obtain ⟨i, hi1, hi2, rfl, HN, rfl⟩ := hrel
    by_cases hlt : i < Y
    · have hlt' : (i : Int) < (Y : Int) := by omega
      have hin : (i : Int) < (n2 : Int) := by omega
      obtain ⟨b2, o2, rfl, hc2⟩ := (unhide HS).at (by omega)
      have ci := hc2 i (by omega)
      obtain ⟨x, hx⟩ : ∃ x, cols.getD i 0 = x := ⟨_, rfl⟩
      rw [hx] at ci
      have HX := hide hx
      clear hc2 hx
      by_cases he : x = (c : Int)
      · have d1 : (x == (c : Int)) = true := by simp [he]
        have hk : ok = true := Iff.mpr (unhide HOK) ⟨i, by rw [(unhide HRow).hX]; omega, by rw [(unhide HRow).hY]; omega, by rw [unhide HX, he]⟩
        subst hk
        clear he
        go_wp2_with fail
        try go_ret
        exact ⟨rfl, unhide HB⟩
      · have d1 : (x == (c : Int)) = false := by simp [he]
        have HN2 := hide (show ∀ j, X ≤ j → j < i + 1 → cols.getD j 0 ≠ (c : Int) from fun j h1 h2 => by
          by_cases e : j = i
          · subst e; rw [unhide HX]; exact he
          · exact unhide HN j h1 (by omega))
        clear he
        go_wp2_with fail
        exact ⟨⟨i + 1, by omega, by omega, by (first | rfl | go_num), HN2, (by first | rfl | trivial)⟩, by simp [intOf]; omega⟩
    · obtain rfl : i = Y := by omega
      have hlt' : ¬ (i : Int) < (i : Int) := by omega
      have hk : ok = false := by
        cases hk2 : ok
        · rfl
        · obtain ⟨j, g1, g2, g3⟩ := Iff.mp (unhide HOK) hk2
          rw [(unhide HRow).hX] at g1
          rw [(unhide HRow).hY] at g2
          exact absurd g3 (unhide HN j (by omega) (by omega))
      subst hk
      go_wp2_with fail
      try go_ret
      exact ⟨rfl, unhide HB⟩
set_option maxRecDepth 100000 in
set_option maxHeartbeats 16000000 in
/-- sloperef11.Neighbours. -/
theorem woneigh_any (R : Nat) (width : Int) (a1 a2 : Option Addr) (n1 c1 n2 c2 : Nat) (st cols : List Int) (r X Y : Nat) (w : World) (h1 : SlI w a1 n1 c1 st) (h2 : SlI w a2 n2 c2 cols) (hb1 : n1 ≤ 17592186044416) (hb2 : n2 ≤ 17592186044416) (hm : MayP (R : Int) width st cols) (hr : r < R) (hR : RowAt st cols width r X Y) :
    Calls Try.prog 65 #[patV (R : Int) width a1 n1 c1 a2 n2 c2, .int .i64 (r : Int)] w fun e w' => e = .returned (subV a2 c2 X Y) ∧ Below w.heap.size w w' := by
  obtain ⟨wb, hwb⟩ : ∃ x, w.alloc (.cells #[.int .i64 (R : Int), .int .i64 width, .slice a1 n1 c1, .slice a2 n2 c2] 24) = x := ⟨_, rfl⟩
  have bb : Below w.heap.size w wb := by rw [← hwb]; exact (Below.refl _ _).alloc (Nat.le_refl _) _
  have hT := BoxP.made w #[.int .i64 (R : Int), .int .i64 width, .slice a1 n1 c1, .slice a2 n2 c2] 24
  rw [hwb] at hT
  have p0 := (hT.all 0 _ rfl).1
  have p1 := (hT.all 1 _ rfl).1
  have p2 := (hT.all 2 _ rfl).1
  have p3 := (hT.all 3 _ rfl).1
  have hln := h1.len
  have hlc := h2.len
  have hl2 := hm.head.len
  have hnc := h2.le
  have hfit := hm.head.fit
  obtain ⟨b1, o1, rfl, hc1⟩ := (h1.below bb).at (by omega)
  have sk := hc1 r (by omega)
  have sk1 := hc1 (r + 1) (by omega)
  rw [hR.hX] at sk
  rw [hR.hY] at sk1
  have hXY := hR.le
  have hYn := hR.lt
  have hn1 : n1 = R + 1 := by omega
  subst hn1
  have tr : (r : Int) < (R : Int) + 1 := by omega
  have tr1 : (r : Int) + 1 < (R : Int) + 1 := by omega
  have tXY : (X:Int) ≤ (Y:Int) := by omega
  have tYc : (Y:Int) ≤ (c2:Int) := by omega
  have hr8 : r < 128 := by omega
  have HB := hide bb
  clear hT bb hc1 hm hR h1 h2 hln hlc hl2 hfit
  unfold patV
  go_enter Try.func65, Try.ntmps65
  go_wp2_with fail
  try go_quiet (fail)
  all_goals (try go_wp2_with fail)
  all_goals (try go_ret)
  all_goals exact ⟨by simp_all [subV], by first | exact unhide HB | exact bel_drewN (unhide HB) _⟩
/-- A row's list, by the document. -/
theorem woneigh_list (R : Nat) (width : Int) (a1 a2 : Option Addr) (n1 c1 n2 c2 : Nat) (st cols : List Int) (r : Nat) (w : World) (h1 : SlI w a1 n1 c1 st) (h2 : SlI w a2 n2 c2 cols) (hb1 : n1 ≤ 17592186044000) (hb2 : n2 ≤ 17592186044000) (hm : MayP (R : Int) width st cols) (hr : r < R) :
    Calls Try.prog 65 #[patV (R : Int) width a1 n1 c1 a2 n2 c2, .int .i64 (r : Int)] w fun e w' => ∃ a c, e = .returned (.slice a (rowL st cols r).length c) ∧ SlI w' a (rowL st cols r).length c (rowL st cols r) ∧ (rowL st cols r).length ≤ 17592186044000 ∧ (∀ y, a = some y → rowL st cols r ≠ [] → ∃ t, a2 = some t ∧ t.block = y.block) ∧ Below w.heap.size w w' := by
  obtain ⟨X, Y, hR⟩ := hm.rowAt (k := r) (by omega)
  refine (woneigh_any R width a1 a2 n1 c1 n2 c2 st cols r X Y w h1 h2 (by omega) (by omega) hm hr hR).mono ?_
  rintro _ w' ⟨rfl, b⟩
  have hsub := (h2.below b).sub hR.le (by rw [← h2.len]; exact hR.lt)
  have hl : rowL st cols r = (cols.drop X).take (Y - X) := by
    unfold rowL
    rw [hR.hX, hR.hY]
    simp
  have hlen : (rowL st cols r).length = Y - X := by
    rw [hl, List.length_take, List.length_drop]
    have := hR.lt
    omega
  unfold subV
  refine ⟨_, _, by rw [hlen], by rw [hlen, hl]; exact hsub, by rw [hlen]; have := hR.lt; have := h2.len; omega, fun y hy _ => ?_, b⟩
  by_cases e : c2 = X
  · rw [if_pos e] at hy
    exact ⟨y, hy, rfl⟩
  · rw [if_neg e] at hy
    cases h : a2 with
    | none => rw [h] at hy; simp at hy
    | some t =>
      rw [h] at hy
      simp at hy
      refine ⟨t, rfl, ?_⟩
      rw [← hy]
      unfold Addr.add
      split <;> rfl
/-- How many of the first i things of a list are in a set. -/
def amN (inn : Nat → Bool) (l : List Int) : Nat → Nat
  | 0 => 0
  | i + 1 => amN inn l i + (if inn (l.getD i 0).toNat = true then 1 else 0)
theorem amN_le (inn : Nat → Bool) (l : List Int) : ∀ i, amN inn l i ≤ i
  | 0 => Nat.le_refl _
  | i + 1 => by
    have := amN_le inn l i
    simp only [amN]
    split <;> omega
theorem row_atW {st cols : List Int} {R : Nat} (hm : MayP (R : Int) (R : Int) st cols) {v i : Nat} (hv : v < R) (hi : i < (rowL st cols v).length) : ∃ u : Nat, (rowL st cols v).getD i 0 = (u : Int) ∧ u < R := by
  obtain ⟨X, Y, hR⟩ := hm.rowAt (k := v) (by omega)
  have e : rowL st cols v = (cols.drop X).take (Y - X) := by unfold rowL; rw [hR.hX, hR.hY]; simp
  have hg : (rowL st cols v).getD i 0 = cols.getD (X + i) 0 := by
    rw [e]
    rw [e] at hi
    have : i < Y - X := by rw [List.length_take] at hi; omega
    simp [List.getD, List.getElem?_take_of_lt this, List.getElem?_drop]
  have hr := hR.row.rng (X + i) (by omega) (by rw [e, List.length_take] at hi; have := hR.le; omega)
  exact ⟨(cols.getD (X + i) 0).toNat, by rw [hg]; omega, by omega⟩
set_option maxRecDepth 100000 in
set_option maxHeartbeats 8000000 in
/-- sloperef11.among. -/
theorem woamong_any (R : Nat) (a1 a2 : Option Addr) (n1 c1 n2 c2 gi : Nat) (inn : Nat → Bool) (st cols : List Int) (v : Nat) (w : World) (h1 : SlI w a1 n1 c1 st) (h2 : SlI w a2 n2 c2 cols) (hb1 : n1 ≤ 17592186044000) (hb2 : n2 ≤ 17592186044000) (hm : MayP (R : Int) (R : Int) st cols) (hv : v < R) (hin : RoV w gi R (fun u => .bool (inn u))) :
    Calls Try.prog 56 #[patV (R : Int) (R : Int) a1 n1 c1 a2 n2 c2, .int .i64 (v : Int), .slice (some ⟨gi, 0, none⟩) R R] w fun e w' => e = .returned (.int .i64 (amN inn (rowL st cols v) (rowL st cols v).length : Int)) ∧ Below w.heap.size w w' := by
  have hR : R ≤ 128 := by have := hm.head.fit; omega
  obtain ⟨wb, hwb⟩ : ∃ x, w.alloc (.cells #[.int .i64 (R : Int), .int .i64 (R : Int), .slice a1 n1 c1, .slice a2 n2 c2] 24) = x := ⟨_, rfl⟩
  have bb : Below w.heap.size w wb := by rw [← hwb]; exact (Below.refl _ _).alloc (Nat.le_refl _) _
  have hT := BoxP.made w #[.int .i64 (R : Int), .int .i64 (R : Int), .slice a1 n1 c1, .slice a2 n2 c2] 24
  rw [hwb] at hT
  have p0 := (hT.all 0 _ rfl).1
  have p1 := (hT.all 1 _ rfl).1
  have p2 := (hT.all 2 _ rfl).1
  have p3 := (hT.all 3 _ rfl).1
  have KN := hide (woneigh_list R (R : Int) a1 a2 n1 c1 n2 c2 st cols v wb (h1.below bb) (h2.below bb) hb1 hb2 hm hv)
  unfold patV at KN
  have HB := hide bb
  have HI := hide (hin.below bb)
  have HM := hide hm
  clear hT bb h1 h2 hm hin
  unfold patV
  go_enter Try.func56, Try.ntmps56
  go_wp2_with fail
  refine (unhide KN).mono ?_
  rintro _ w4 ⟨aN, cN, rfl, hsN, hlN, hbN, b4⟩
  obtain ⟨m, hm⟩ : ∃ m, (rowL st cols v).length = m := ⟨_, rfl⟩
  have HMM := hide hm
  rw [hm] at hsN hlN ⊢
  have HS := hide hsN
  have HI4 := hide ((unhide HI).below b4)
  have HB4 := hide ((unhide HB).trans (b4.mono (unhide HB).size))
  clear KN hsN hbN b4 hm p0 p1 p2 p3 HI
  go_wp2_with fail
  go_loopw [9, 7] (fun iv nv wr => ∃ i : Nat, i ≤ m ∧ iv = .int .i64 (i : Int) ∧ nv = .int .i64 (amN inn (rowL st cols v) i : Int) ∧ Hid (wr = w4)) (fun iv _ _ => m - (intOf iv).toNat)
  case atStart => exact ⟨0, Nat.zero_le _, rfl, rfl, hide rfl⟩
  case round =>
    obtain ⟨i, hi, rfl, rfl, HW⟩ := hrel
    have hwr := unhide HW
    subst hwr
    by_cases hin : i < m
    · have hin' : (i : Int) < (m : Int) := by omega
      obtain ⟨u, hu1, hu2⟩ := row_atW (unhide HM) hv (i := i) (by rw [unhide HMM]; exact hin)
      obtain ⟨bN, oN, rfl, hcN⟩ := (unhide HS).at (by omega)
      have sc := hcN i hin
      rw [hu1] at sc
      have su := (unhide HI4 u hu2).1
      have hu2' : (u : Int) < (R : Int) := by omega
      obtain ⟨z, hz⟩ : ∃ z, amN inn (rowL st cols v) i = z := ⟨_, rfl⟩
      have hzl : z ≤ m := by have := amN_le inn (rowL st cols v) i; omega
      have hst : amN inn (rowL st cols v) (i + 1) = z + (if inn u = true then 1 else 0) := by
        simp only [amN]
        rw [hu1, show ((u : Int)).toNat = u by omega, hz]
      have HST := hide hst
      rw [hz]
      have hw1 : IntKind.i64.wrap ((z : Int) + 1) = (z : Int) + 1 := by rw [IntKind.wrap_i64]; omega
      clear hcN hu1 hz hst
      obtain ⟨t, ht⟩ : ∃ t, inn u = t := ⟨_, rfl⟩
      simp only [ht] at su
      have HT := hide ht
      clear ht
      cases t
      · go_wp2_with fail
        exact ⟨⟨i + 1, by omega, by (first | rfl | go_num), by rw [unhide HST, unhide HT]; simp, hide (by first | rfl | trivial)⟩, by simp [intOf]; omega⟩
      · go_wp2_with fail
        exact ⟨⟨i + 1, by omega, by (first | rfl | go_num), by rw [unhide HST, unhide HT]; simp, hide (by first | rfl | trivial)⟩, by simp [intOf]; omega⟩
    · obtain rfl : i = m := by omega
      have hin' : ¬ (i : Int) < (i : Int) := by omega
      go_wp2_with fail
      try go_ret
      exact ⟨by simp [unhide HMM], unhide HB4⟩
end Go.Proofs.Ytpmafjofkmefeaa
