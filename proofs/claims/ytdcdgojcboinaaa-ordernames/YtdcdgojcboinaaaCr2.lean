/-
  ORDERS: sloperef11.Has, Neighbours, among: contracts.
-/
import Derived.Test.YtdcdgojcboinaaaCq1
import Derived.Test.YtdcdgojcboinaaaCr1
namespace Go.Proofs.Ytdcdgojcboinaaa
open Go.RowKit Go.Deep
set_option linter.unusedVariables false

set_option maxRecDepth 100000 in
set_option maxHeartbeats 8000000 in
/-- sloperef11.Has. -/
theorem wohas_any (R : Nat) (width : Int) (a1 a2 : Option Addr) (n1 c1 n2 c2 : Nat) (st cols : List Int) (r c : Nat) (w : World) (h1 : SlI w a1 n1 c1 st) (h2 : SlI w a2 n2 c2 cols) (hb1 : n1 ≤ 17592186044000) (hb2 : n2 ≤ 17592186044000) (hm : MayP (R : Int) width st cols) (hr : r < R) (ok : Bool) (hok : TruQ ok (InC st cols c r)) :
    Calls Try.prog 20 #[patV (R : Int) width a1 n1 c1 a2 n2 c2, .int .i64 (r : Int), .int .i64 (c : Int)] w fun e w' => e = .returned (.bool ok) ∧ Below w.heap.size w w' := by
  have hR : R ≤ 128 := by have := hm.head.fit; omega
  obtain ⟨X, Y, hRow⟩ := hm.rowAt (k := r) (by omega)
  obtain ⟨wb, hwb⟩ : ∃ x, w.alloc (.cells #[.int .i64 (R : Int), .int .i64 width, .slice a1 n1 c1, .slice a2 n2 c2] 24) = x := ⟨_, rfl⟩
  have bb : Below w.heap.size w wb := by rw [← hwb]; exact (Below.refl _ _).alloc (Nat.le_refl _) _
  have hT := BoxP.made w #[.int .i64 (R : Int), .int .i64 width, .slice a1 n1 c1, .slice a2 n2 c2] 24
  rw [hwb] at hT
  have hln := h1.len
  have hcl := h2.len
  have hhd := hm.head.len
  obtain ⟨b1, o1, e1, hc1⟩ := (h1.below bb).at (by omega)
  subst e1
  have p2 := (hT.all 2 _ rfl).1
  have p3 := (hT.all 3 _ rfl).1
  have sX := hc1 r (by omega)
  have sY := hc1 (r + 1) (by omega)
  rw [hRow.hX] at sX
  rw [hRow.hY] at sY
  have hrn : (r : Int) < (n1 : Int) := by omega
  have hrn2 : (r : Int) + 1 < (n1 : Int) := by omega
  have HT := hide hT
  have HB := hide bb
  have HS := hide (h2.below bb)
  have HRow := hide hRow
  have HOK := hide hok
  have hYn : Y ≤ n2 := by have := hRow.lt; omega
  have hXY := hRow.le
  clear hT bb h1 h2 hm hc1 hRow hok
  unfold patV
  go_enter Try.func20, Try.ntmps20
  go_wp2_with fail
  go_loopw [7] (fun kv wr => ∃ i : Nat, X ≤ i ∧ i ≤ Y ∧ kv = .int .i64 (i : Int) ∧ Hid (∀ j, X ≤ j → j < i → cols.getD j 0 ≠ (c : Int)) ∧ wr = wb) (fun kv _ => Y - (intOf kv).toNat)
  case atStart => exact ⟨X, Nat.le_refl _, hXY, rfl, hide (fun j h1 h2 => by omega), rfl⟩
  case round =>
    obtain ⟨i, hi1, hi2, rfl, HN, rfl⟩ := hrel
    by_cases hlt : i < Y
    · have hlt' : (i : Int) < (Y : Int) := by omega
      have hin : (i : Int) < (n2 : Int) := by omega
      obtain ⟨b2, o2, rfl, hc2⟩ := (unhide HS).at (by omega)
      have ci := hc2 i (by omega)
      obtain ⟨x, hx⟩ : ∃ x, cols.getD i 0 = x := ⟨_, rfl⟩
      rw [hx] at ci
      have HX := hide hx
      clear hc2 hx
      by_cases he : x = (c : Int)
      · have d1 : (x == (c : Int)) = true := by simp [he]
        have hk : ok = true := Iff.mpr (unhide HOK) ⟨i, by rw [(unhide HRow).hX]; omega, by rw [(unhide HRow).hY]; omega, by rw [unhide HX, he]⟩
        subst hk
        clear he
        go_wp2_with fail
        try go_ret
        exact ⟨rfl, unhide HB⟩
      · have d1 : (x == (c : Int)) = false := by simp [he]
        have HN2 := hide (show ∀ j, X ≤ j → j < i + 1 → cols.getD j 0 ≠ (c : Int) from fun j h1 h2 => by
          by_cases e : j = i
          · subst e; rw [unhide HX]; exact he
          · exact unhide HN j h1 (by omega))
        clear he
        go_wp2_with fail
        exact ⟨⟨i + 1, by omega, by omega, by (first | rfl | go_num), HN2, (by first | rfl | trivial)⟩, by simp [intOf]; omega⟩
    · obtain rfl : i = Y := by omega
      have hlt' : ¬ (i : Int) < (i : Int) := by omega
      have hk : ok = false := by
        cases hk2 : ok
        · rfl
        · obtain ⟨j, g1, g2, g3⟩ := Iff.mp (unhide HOK) hk2
          rw [(unhide HRow).hX] at g1
          rw [(unhide HRow).hY] at g2
          exact absurd g3 (unhide HN j (by omega) (by omega))
      subst hk
      go_wp2_with fail
      try go_ret
      exact ⟨rfl, unhide HB⟩
set_option maxRecDepth 100000 in
set_option maxHeartbeats 16000000 in
/-- sloperef11.Neighbours. -/
theorem woneigh_any (R : Nat) (width : Int) (a1 a2 : Option Addr) (n1 c1 n2 c2 : Nat) (st cols : List Int) (r X Y : Nat) (w : World) (h1 : SlI w a1 n1 c1 st) (h2 : SlI w a2 n2 c2 cols) (hb1 : n1 ≤ 17592186044416) (hb2 : n2 ≤ 17592186044416) (hm : MayP (R : Int) width st cols) (hr : r < R) (hR : RowAt st cols width r X Y) :
    Calls Try.prog 19 #[patV (R : Int) width a1 n1 c1 a2 n2 c2, .int .i64 (r : Int)] w fun e w' => e = .returned (subV a2 c2 X Y) ∧ Below w.heap.size w w' := by
  obtain ⟨wb, hwb⟩ : ∃ x, w.alloc (.cells #[.int .i64 (R : Int), .int .i64 width, .slice a1 n1 c1, .slice a2 n2 c2] 24) = x := ⟨_, rfl⟩
  have bb : Below w.heap.size w wb := by rw [← hwb]; exact (Below.refl _ _).alloc (Nat.le_refl _) _
  have hT := BoxP.made w #[.int .i64 (R : Int), .int .i64 width, .slice a1 n1 c1, .slice a2 n2 c2] 24
  rw [hwb] at hT
  have p0 := (hT.all 0 _ rfl).1
  have p1 := (hT.all 1 _ rfl).1
  have p2 := (hT.all 2 _ rfl).1
  have p3 := (hT.all 3 _ rfl).1
  have hln := h1.len
  have hlc := h2.len
  have hl2 := hm.head.len
  have hnc := h2.le
  have hfit := hm.head.fit
  obtain ⟨b1, o1, rfl, hc1⟩ := (h1.below bb).at (by omega)
  have sk := hc1 r (by omega)
  have sk1 := hc1 (r + 1) (by omega)
  rw [hR.hX] at sk
  rw [hR.hY] at sk1
  have hXY := hR.le
  have hYn := hR.lt
  have hn1 : n1 = R + 1 := by omega
  subst hn1
  have tr : (r : Int) < (R : Int) + 1 := by omega
  have tr1 : (r : Int) + 1 < (R : Int) + 1 := by omega
  have tXY : (X:Int) ≤ (Y:Int) := by omega
  have tYc : (Y:Int) ≤ (c2:Int) := by omega
  have hr8 : r < 128 := by omega
  have HB := hide bb
  clear hT bb hc1 hm hR h1 h2 hln hlc hl2 hfit
  unfold patV
  go_enter Try.func19, Try.ntmps19
  go_wp2_with fail
  try go_quiet (fail)
  all_goals (try go_wp2_with fail)
  all_goals (try go_ret)
  all_goals exact ⟨by simp_all [subV], by first | exact unhide HB | exact bel_drewN (unhide HB) _⟩
/-- A row's list, by the document. -/
theorem woneigh_list (R : Nat) (width : Int) (a1 a2 : Option Addr) (n1 c1 n2 c2 : Nat) (st cols : List Int) (r : Nat) (w : World) (h1 : SlI w a1 n1 c1 st) (h2 : SlI w a2 n2 c2 cols) (hb1 : n1 ≤ 17592186044000) (hb2 : n2 ≤ 17592186044000) (hm : MayP (R : Int) width st cols) (hr : r < R) :
    Calls Try.prog 19 #[patV (R : Int) width a1 n1 c1 a2 n2 c2, .int .i64 (r : Int)] w fun e w' => ∃ a c, e = .returned (.slice a (rowL st cols r).length c) ∧ SlI w' a (rowL st cols r).length c (rowL st cols r) ∧ (rowL st cols r).length ≤ 17592186044000 ∧ (∀ y, a = some y → rowL st cols r ≠ [] → ∃ t, a2 = some t ∧ t.block = y.block) ∧ Below w.heap.size w w' := by
  obtain ⟨X, Y, hR⟩ := hm.rowAt (k := r) (by omega)
  refine (woneigh_any R width a1 a2 n1 c1 n2 c2 st cols r X Y w h1 h2 (by omega) (by omega) hm hr hR).mono ?_
  rintro _ w' ⟨rfl, b⟩
  have hsub := (h2.below b).sub hR.le (by rw [← h2.len]; exact hR.lt)
  have hl : rowL st cols r = (cols.drop X).take (Y - X) := by
    unfold rowL
    rw [hR.hX, hR.hY]
    simp
  have hlen : (rowL st cols r).length = Y - X := by
    rw [hl, List.length_take, List.length_drop]
    have := hR.lt
    omega
  unfold subV
  refine ⟨_, _, by rw [hlen], by rw [hlen, hl]; exact hsub, by rw [hlen]; have := hR.lt; have := h2.len; omega, fun y hy _ => ?_, b⟩
  by_cases e : c2 = X
  · rw [if_pos e] at hy
    exact ⟨y, hy, rfl⟩
  · rw [if_neg e] at hy
    cases h : a2 with
    | none => rw [h] at hy; simp at hy
    | some t =>
      rw [h] at hy
      simp at hy
      refine ⟨t, rfl, ?_⟩
      rw [← hy]
      unfold Addr.add
      split <;> rfl
/-- How many of the first i things of a list are in a set. -/
def amN (inn : Nat → Bool) (l : List Int) : Nat → Nat
  | 0 => 0
  | i + 1 => amN inn l i + (if inn (l.getD i 0).toNat = true then 1 else 0)
theorem amN_le (inn : Nat → Bool) (l : List Int) : ∀ i, amN inn l i ≤ i
  | 0 => Nat.le_refl _
  | i + 1 => by
    have := amN_le inn l i
    simp only [amN]
    split <;> omega
theorem row_atW {st cols : List Int} {R : Nat} (hm : MayP (R : Int) (R : Int) st cols) {v i : Nat} (hv : v < R) (hi : i < (rowL st cols v).length) : ∃ u : Nat, (rowL st cols v).getD i 0 = (u : Int) ∧ u < R := by
  obtain ⟨X, Y, hR⟩ := hm.rowAt (k := v) (by omega)
  have e : rowL st cols v = (cols.drop X).take (Y - X) := by unfold rowL; rw [hR.hX, hR.hY]; simp
  have hg : (rowL st cols v).getD i 0 = cols.getD (X + i) 0 := by
    rw [e]
    rw [e] at hi
    have : i < Y - X := by rw [List.length_take] at hi; omega
    simp [List.getD, List.getElem?_take_of_lt this, List.getElem?_drop]
  have hr := hR.row.rng (X + i) (by omega) (by rw [e, List.length_take] at hi; have := hR.le; omega)
  exact ⟨(cols.getD (X + i) 0).toNat, by rw [hg]; omega, by omega⟩
end Go.Proofs.Ytdcdgojcboinaaa

namespace Go.Proofs.Ytdcdgojcboinaaa
open Go.RowKit Go.Deep
set_option linter.unusedVariables false

/-- A set in which each has k neighbours. -/
def StB (R : Nat) (st cols : List Int) (k : Nat) (T : Nat → Bool) : Prop := ∀ v, v < R → T v = true → k ≤ amN T (rowL st cols v) (rowL st cols v).length
/-- A set that holds all of these. -/
def MxB (R : Nat) (st cols : List Int) (k : Nat) (lf : Nat → Bool) : Prop := ∀ T, StB R st cols k T → ∀ v, v < R → T v = true → lf v = true
theorem amN_mono {T lf : Nat → Bool} {R : Nat} {st cols : List Int} (hm : MayP (R : Int) (R : Int) st cols) {v : Nat} (hv : v < R) (h : ∀ u, u < R → T u = true → lf u = true) : ∀ i, i ≤ (rowL st cols v).length → amN T (rowL st cols v) i ≤ amN lf (rowL st cols v) i
  | 0, _ => Nat.le_refl _
  | i + 1, hi => by
    obtain ⟨y, e1, hy⟩ := row_atW hm hv (i := i) (by omega)
    have := amN_mono hm hv h i (by omega)
    simp only [amN]
    rw [e1, show ((y : Int)).toNat = y by omega]
    by_cases c : T y = true
    · rw [if_pos c, if_pos (h y hy c)]; omega
    · rw [if_neg c]; omega
theorem MxB.drop {R : Nat} {st cols : List Int} {k : Nat} {lf : Nat → Bool} (h : MxB R st cols k lf) (hm : MayP (R : Int) (R : Int) st cols) {v : Nat} (hv : v < R) (hlt : amN lf (rowL st cols v) (rowL st cols v).length < k) : MxB R st cols k (fun u => if u = v then false else lf u) := by
  intro T hT u hu hTu
  by_cases e : u = v
  · subst e
    have h1 := hT u hu hTu
    have h2 := amN_mono hm hu (fun y hy hy2 => h T hT y hy hy2) _ (Nat.le_refl _)
    omega
  · simp only [e, if_false]
    exact h T hT u hu hTu
/-- How many are in a set. -/
def cnB (lf : Nat → Bool) (R : Nat) : Nat := lfN (fun u => !lf u) (List.range R)
theorem lfN_congr {g h : Nat → Bool} {l : List Nat} (e : ∀ u ∈ l, g u = h u) : lfN g l = lfN h l := by
  unfold lfN
  exact List.countP_congr (fun u hu => by rw [e u hu])
/-- What a pass has done, ahead of v. -/
structure PasP (R : Nat) (st cols : List Int) (k : Nat) (lf0 : Nat → Bool) (v : Nat) (ag : Bool) (lf : Nat → Bool) : Prop where
  mx : MxB R st cols k lf
  no : ag = false → (∀ u, u < R → lf u = lf0 u) ∧ ∀ u, u < v → lf u = true → k ≤ amN lf (rowL st cols u) (rowL st cols u).length
  yes : ag = true → cnB lf R < cnB lf0 R
theorem PasP.le {R : Nat} {st cols : List Int} {k : Nat} {lf0 : Nat → Bool} {v : Nat} {ag : Bool} {lf : Nat → Bool} (h : PasP R st cols k lf0 v ag lf) : cnB lf R ≤ cnB lf0 R := by
  cases ag
  · refine Nat.le_of_eq ?_
    unfold cnB
    exact lfN_congr (fun u hu => by rw [(h.no rfl).1 u (by simpa using hu)])
  · exact Nat.le_of_lt (h.yes rfl)
theorem cnB_drop {lf : Nat → Bool} {R v : Nat} (hv : v < R) (h : lf v = true) : cnB (fun u => if u = v then false else lf u) R + 1 = cnB lf R := by
  unfold cnB
  rw [lfN_upd (fun u => !lf u) v (by simp [h]) _ List.nodup_range, if_pos (by simpa using hv)]
  congr 1
  exact lfN_congr (fun u _ => by by_cases e : u = v <;> simp [e])
/-- The same, out of memory. -/
def cnW (W : World) (g R : Nat) : Nat := lfN (fun u => !(match W.cell? ⟨g, u, none⟩ with | some (.bool b) => b | _ => false)) (List.range R)
theorem cnW_is {W : World} {g R : Nat} {lf : Nat → Bool} (h : RoV W g R (fun u => .bool (lf u))) : cnW W g R = cnB lf R := by
  unfold cnW cnB
  refine lfN_congr (fun u hu => ?_)
  rw [(h u (by simpa using hu)).1]
def boN (v : Value) : Nat := match v with | .bool true => 1 | _ => 0
/-- What core answers. -/
def CrP (R : Nat) (st cols : List Int) (k : Nat) (w w' : World) (e : Ending) : Prop := ∃ g lf, w.heap.size ≤ g ∧ e = .returned (.slice (some ⟨g, 0, none⟩) R R) ∧ RoV w' g R (fun u => .bool (lf u)) ∧ StB R st cols k lf ∧ MxB R st cols k lf ∧ Below w.heap.size w w'
end Go.Proofs.Ytdcdgojcboinaaa
