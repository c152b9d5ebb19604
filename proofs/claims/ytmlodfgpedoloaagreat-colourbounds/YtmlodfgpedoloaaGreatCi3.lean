/-
  BOUNDS: order.Inverse; longest, longestRow, longestColumn, twoIfAny: contracts.
-/
import Derived.Test.YtmlodfgpedoloaaGreatCh2
import Derived.Test.YtmlodfgpedoloaaGreatCga
import Derived.Lib.MinMax
namespace Go.Proofs.YtmlodfgpedoloaaGreat
open Go.RowKit Go.Deep
set_option linter.unusedVariables false

set_option maxRecDepth 100000 in
set_option maxHeartbeats 8000000 in
/-- order.Inverse of an order. -/
theorem oinv_yes (a : Option Addr) (n c : Nat) (xs : List Int) (w : World) (h : SlI w a n c xs) (hn : n ≤ 128) (ho : OrdTo xs n n) :
    Calls Tryz.prog 34 #[.slice a n c] w fun e w' => ∃ g, w.heap.size ≤ g ∧ e = .returned (.tuple #[.slice (some ⟨g, 0, none⟩) n n, .int .i64 0]) ∧ RoV w' g n (fun v => .int .i64 (posI xs n v)) ∧ Below w.heap.size w w' := by
  have h8 : ¬ (128 : Int) < (n : Int) := by omega
  have KP := hide (oplaces_any a n c xs n w h (by omega) hn true ⟨fun _ => ⟨h.len, ho⟩, fun _ => rfl⟩)
  clear h ho
  go_enter Tryz.func34, Tryz.ntmps34
  go_wp2_with fail
  refine (unhide KP).mono ?_
  rintro _ w2 ⟨b2, _, hy⟩
  obtain ⟨g, hg, rfl, hR⟩ := hy rfl
  have HB := hide b2
  have HR := hide hR
  clear KP b2 hy hR
  go_wp2_with fail
  refine bodyPost_ret (by simp [results, Tryz.results34, go_sem]; try rfl) rfl ?_
  exact ⟨g, hg, rfl, unhide HR, unhide HB⟩
set_option maxRecDepth 100000 in
set_option maxHeartbeats 8000000 in
/-- colour.twoIfAny. -/
theorem ctwo_any (R width : Int) (a1 a2 : Option Addr) (n1 c1 n2 c2 : Nat) (w : World) :
    Calls Tryz.prog 55 #[patV R width a1 n1 c1 a2 n2 c2] w fun e w' => e = .returned (.int .i64 (min 2 (n2 : Int))) ∧ Below w.heap.size w w' := by
  obtain ⟨wb, hwb⟩ : ∃ x, w.alloc (.cells #[.int .i64 R, .int .i64 width, .slice a1 n1 c1, .slice a2 n2 c2] 25) = x := ⟨_, rfl⟩
  have bb : Below w.heap.size w wb := by rw [← hwb]; exact (Below.refl _ _).alloc (Nat.le_refl _) _
  have hT := BoxP.made w #[.int .i64 R, .int .i64 width, .slice a1 n1 c1, .slice a2 n2 c2] 25
  rw [hwb] at hT
  have p3 := (hT.all 3 _ rfl).1
  have HB := hide bb
  clear hT bb
  unfold patV
  go_enter Tryz.func55, Tryz.ntmps55
  go_wp2_with fail
  try go_ret
  exact ⟨by first | rfl | simp, unhide HB⟩
/-- The longest of k lines. -/
structure LgT (f : Nat → Nat) (k y : Nat) : Prop where
  le : ∀ i, i < k → f i ≤ y
  at_ : y = 0 ∨ ∃ i, i < k ∧ f i = y
theorem LgT.next {f : Nat → Nat} {k y : Nat} (h : LgT f k y) : LgT f (k + 1) (max y (f k)) := by
  refine ⟨fun i hi => ?_, ?_⟩
  · by_cases e : i = k
    · subst e; omega
    · have := h.le i (by omega); omega
  · by_cases c : y ≤ f k
    · rcases Nat.eq_zero_or_pos (f k) with z | z
      · left; omega
      · right; exact ⟨k, by omega, by omega⟩
    · rcases h.at_ with e | ⟨i, hi, e⟩
      · left; omega
      · right; exact ⟨i, by omega, by omega⟩
theorem LgT.one {f : Nat → Nat} {k y z : Nat} (h : LgT f k y) (g : LgT f k z) : y = z := by
  have h1 : y ≤ z := by
    rcases h.at_ with e | ⟨i, hi, e⟩
    · omega
    · have := g.le i hi; omega
  have h2 : z ≤ y := by
    rcases g.at_ with e | ⟨i, hi, e⟩
    · omega
    · have := h.le i hi; omega
  omega
set_option maxRecDepth 100000 in
set_option maxHeartbeats 8000000 in
/-- colour.longest. -/
theorem clongest_any (L n : Nat) (f : Nat → Value) (ln : Nat → Nat) (w : World) (hn : n ≤ 128) (hl : ∀ i, i < n → ln i ≤ 17592186044416 ∧ ∃ a c, w.cell? ⟨L, i, none⟩ = some (.slice a (ln i) c)) :
    Calls Tryz.prog 87 #[.slice (some ⟨L, 0, none⟩) n n] w fun e w' => ∃ y : Nat, e = .returned (.int .i64 (y : Int)) ∧ LgT ln n y ∧ Below w.heap.size w w' := by
  have HL := hide hl
  clear hl
  go_enter Tryz.func87, Tryz.ntmps87
  go_wp2_with fail
  go_loopw [8, 3] (fun iv mv wr => ∃ (k y : Nat), k ≤ n ∧ iv = .int .i64 (k : Int) ∧ mv = .int .i64 (y : Int) ∧ Hid (LgT ln k y) ∧ Hid (Below w.heap.size w wr)) (fun iv _ _ => n - (intOf iv).toNat)
  case atStart => exact ⟨0, 0, Nat.zero_le _, rfl, rfl, hide ⟨fun i hi => absurd hi (Nat.not_lt_zero _), .inl rfl⟩, hide (Below.refl _ _)⟩
  case round =>
    obtain ⟨k, y, hk, rfl, rfl, HG, HW⟩ := hrel
    by_cases hlt : k < n
    · have hlt' : (k : Int) < (n : Int) := by omega
      obtain ⟨hln, a, c, hc⟩ := unhide HL k hlt
      have sk := ((unhide HW).cell (p := ⟨L, k, none⟩) (World.block_lt_of_cell? _ _ hc)).trans hc
      obtain ⟨l, hl⟩ : ∃ l, ln k = l := ⟨_, rfl⟩
      rw [hl] at sk hln
      have HN := hide ((unhide HG).next)
      rw [hl] at HN
      obtain ⟨z, hz⟩ : ∃ z : Nat, max y l = z := ⟨_, rfl⟩
      rw [hz] at HN
      have hz' : max (y : Int) (l : Int) = (z : Int) := by omega
      clear hc hl hz
      go_wp2_with fail
      exact ⟨⟨k + 1, z, by omega, by (first | rfl | go_num), by (first | rfl | simp [hz']), HN, HW⟩, by simp [intOf]; omega⟩
    · obtain rfl : k = n := by omega
      have hlt' : ¬ (k : Int) < (k : Int) := by omega
      go_wp2_with fail
      try go_ret
      exact ⟨y, rfl, unhide HG, unhide HW⟩
theorem rowL_len {R : Nat} {width : Int} {st cols : List Int} (hm : MayP (R : Int) width st cols) {r : Nat} (hr : r < R) : (rowL st cols r).length = (st.getD (r + 1) 0).toNat - (st.getD r 0).toNat := by
  obtain ⟨X, Y, h⟩ := hm.rowAt (k := r) (by omega)
  unfold rowL
  rw [List.length_take, List.length_drop, h.hX, h.hY]
  have := h.lt
  omega
set_option maxRecDepth 100000 in
set_option maxHeartbeats 8000000 in
/-- colour.longestRow. -/
theorem clrow_any (R width : Nat) (a1 a2 : Option Addr) (n1 c1 n2 c2 : Nat) (st cols : List Int) (w : World) (h1 : SlI w a1 n1 c1 st) (h2 : SlI w a2 n2 c2 cols) (hb1 : n1 ≤ 17592186044000) (hb2 : n2 ≤ 17592186044000) (hm : MayP (R : Int) (width : Int) st cols) :
    Calls Tryz.prog 58 #[patV (R : Int) (width : Int) a1 n1 c1 a2 n2 c2] w fun e w' => ∃ y : Nat, e = .returned (.int .i64 (y : Int)) ∧ LgT (fun r => (rowL st cols r).length) R y ∧ Below w.heap.size w w' := by
  have hR8 : R ≤ 128 := by have := hm.head.fit; omega
  obtain ⟨wb, hwb⟩ : ∃ x, w.alloc (.cells #[.int .i64 (R : Int), .int .i64 (width : Int), .slice a1 n1 c1, .slice a2 n2 c2] 25) = x := ⟨_, rfl⟩
  have bb : Below w.heap.size w wb := by rw [← hwb]; exact (Below.refl _ _).alloc (Nat.le_refl _) _
  have hT := BoxP.made w #[.int .i64 (R : Int), .int .i64 (width : Int), .slice a1 n1 c1, .slice a2 n2 c2] 25
  rw [hwb] at hT
  have p0 := (hT.all 0 _ rfl).1
  have p1 := (hT.all 1 _ rfl).1
  have p2 := (hT.all 2 _ rfl).1
  have p3 := (hT.all 3 _ rfl).1
  have KR := hide (crows_any R (width : Int) a1 a2 n1 c1 n2 c2 st cols wb (h1.below bb) (h2.below bb) (by omega) (by omega) hm)
  have HM := hide hm
  have HS := hide h2
  have HB := hide bb
  clear h1 h2 hm hT bb
  unfold patV at *
  go_enter Tryz.func58, Tryz.ntmps58
  go_wp2_with fail
  refine (unhide KR).mono ?_
  rintro _ w2 ⟨b, hb, rfl, hV, b2⟩
  have KL := hide (clongest_any b R (rowV st a2 c2) (fun r => (rowL st cols r).length) w2 hR8 (fun i hi => ⟨by
    have h3 : (rowL st cols i).length ≤ cols.length := by unfold rowL; rw [List.length_take, List.length_drop]; omega
    have := (unhide HS).len
    omega, _, _, by rw [(hV i hi).1, rowL_len (unhide HM) hi]; rfl⟩))
  have HB2 := hide ((unhide HB).trans (b2.mono (unhide HB).size))
  clear KR hb hV b2 p0 p1 p2 p3
  go_wp2_with fail
  refine (unhide KL).mono ?_
  rintro _ w3 ⟨y, rfl, hy, b3⟩
  have HY := hide hy
  have HB3 := hide ((unhide HB2).trans (b3.mono (unhide HB2).size))
  clear KL hy b3
  go_wp2_with fail
  try go_ret
  exact ⟨y, rfl, unhide HY, unhide HB3⟩
set_option maxRecDepth 100000 in
set_option maxHeartbeats 8000000 in
/-- colour.longestColumn. -/
theorem clcol_any (R width : Nat) (a1 a2 : Option Addr) (n1 c1 n2 c2 : Nat) (st cols : List Int) (w : World) (h1 : SlI w a1 n1 c1 st) (h2 : SlI w a2 n2 c2 cols) (hb1 : n1 ≤ 17592186044000) (hb2 : n2 ≤ 17592186044000) (hm : MayP (R : Int) (width : Int) st cols) :
    Calls Tryz.prog 61 #[patV (R : Int) (width : Int) a1 n1 c1 a2 n2 c2] w fun e w' => ∃ y : Nat, e = .returned (.int .i64 (y : Int)) ∧ LgT (fun c => (grR (InC st cols) c R).length) width y ∧ Below w.heap.size w w' := by
  have hR8 : R ≤ 128 ∧ width ≤ 128 := by have := hm.head.fit; omega
  obtain ⟨wb, hwb⟩ : ∃ x, w.alloc (.cells #[.int .i64 (R : Int), .int .i64 (width : Int), .slice a1 n1 c1, .slice a2 n2 c2] 25) = x := ⟨_, rfl⟩
  have bb : Below w.heap.size w wb := by rw [← hwb]; exact (Below.refl _ _).alloc (Nat.le_refl _) _
  have hT := BoxP.made w #[.int .i64 (R : Int), .int .i64 (width : Int), .slice a1 n1 c1, .slice a2 n2 c2] 25
  rw [hwb] at hT
  have p0 := (hT.all 0 _ rfl).1
  have p1 := (hT.all 1 _ rfl).1
  have p2 := (hT.all 2 _ rfl).1
  have p3 := (hT.all 3 _ rfl).1
  have KR := hide (ccols_any R width a1 a2 n1 c1 n2 c2 st cols wb (h1.below bb) (h2.below bb) (by omega) (by omega) hm)
  have HB := hide bb
  clear h1 h2 hm hT bb
  unfold patV at *
  go_enter Tryz.func61, Tryz.ntmps61
  go_wp2_with fail
  refine (unhide KR).mono ?_
  rintro _ w2 ⟨t, b, f, hb, rfl, hV, b2⟩
  have KL := hide (clongest_any b width f (fun c => (grR (InC st cols) c R).length) w2 hR8.2 (fun i hi => ⟨by
    have := grR_len (InC st cols) i R
    show (grR (InC st cols) i R).length ≤ _
    omega, by
    obtain ⟨a, c, e, _⟩ := own_slI (hV.own i hi)
    exact ⟨a, c, by rw [hV.row.cell hi, e]⟩⟩))
  have HB2 := hide ((unhide HB).trans (b2.mono (unhide HB).size))
  clear KR hb hV b2 p0 p1 p2 p3
  go_wp2_with fail
  refine (unhide KL).mono ?_
  rintro _ w3 ⟨y, rfl, hy, b3⟩
  have HY := hide hy
  have HB3 := hide ((unhide HB2).trans (b3.mono (unhide HB2).size))
  clear KL hy b3
  go_wp2_with fail
  try go_ret
  exact ⟨y, rfl, unhide HY, unhide HB3⟩
end Go.Proofs.YtmlodfgpedoloaaGreat
