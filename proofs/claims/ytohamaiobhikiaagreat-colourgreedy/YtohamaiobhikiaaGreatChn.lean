/-
  BOUNDS: order.Inverse; longest, longestRow, longestColumn, twoIfAny: contracts.
-/
import Derived.Test.YtohamaiobhikiaaGreatCh2
import Derived.Test.YtohamaiobhikiaaGreatCga
import Derived.Lib.MinMax
import Derived.Test.YtohamaiobhikiaaGreatCu6
import Derived.Test.YtohamaiobhikiaaGreatChe
import Derived.Test.YtohamaiobhikiaaGreatCgh
import Derived.Test.YtohamaiobhikiaaGreatCj2
namespace Go.Proofs.YtohamaiobhikiaaGreat
open Go.RowKit Go.Deep
set_option linter.unusedVariables false

set_option maxRecDepth 100000 in
set_option maxHeartbeats 8000000 in
/-- colour.twoIfAny. -/
theorem ctwo_any (R width : Int) (a1 a2 : Option Addr) (n1 c1 n2 c2 : Nat) (w : World) :
    Calls Tryz.prog 50 #[patV R width a1 n1 c1 a2 n2 c2] w fun e w' => e = .returned (.int .i64 (min 2 (n2 : Int))) ∧ Below w.heap.size w w' := by
  obtain ⟨wb, hwb⟩ : ∃ x, w.alloc (.cells #[.int .i64 R, .int .i64 width, .slice a1 n1 c1, .slice a2 n2 c2] 25) = x := ⟨_, rfl⟩
  have bb : Below w.heap.size w wb := by rw [← hwb]; exact (Below.refl _ _).alloc (Nat.le_refl _) _
  have hT := BoxP.made w #[.int .i64 R, .int .i64 width, .slice a1 n1 c1, .slice a2 n2 c2] 25
  rw [hwb] at hT
  have p3 := (hT.all 3 _ rfl).1
  have HB := hide bb
  clear hT bb
  unfold patV
  go_enter Tryz.func50, Tryz.ntmps50
  go_wp2_with fail
  try go_ret
  exact ⟨by first | rfl | simp, unhide HB⟩
/-- The longest of k lines. -/
structure LgT (f : Nat → Nat) (k y : Nat) : Prop where
  le : ∀ i, i < k → f i ≤ y
  at_ : y = 0 ∨ ∃ i, i < k ∧ f i = y
theorem LgT.next {f : Nat → Nat} {k y : Nat} (h : LgT f k y) : LgT f (k + 1) (max y (f k)) := by
  refine ⟨fun i hi => ?_, ?_⟩
  · by_cases e : i = k
    · subst e; omega
    · have := h.le i (by omega); omega
  · by_cases c : y ≤ f k
    · rcases Nat.eq_zero_or_pos (f k) with z | z
      · left; omega
      · right; exact ⟨k, by omega, by omega⟩
    · rcases h.at_ with e | ⟨i, hi, e⟩
      · left; omega
      · right; exact ⟨i, by omega, by omega⟩
theorem LgT.one {f : Nat → Nat} {k y z : Nat} (h : LgT f k y) (g : LgT f k z) : y = z := by
  have h1 : y ≤ z := by
    rcases h.at_ with e | ⟨i, hi, e⟩
    · omega
    · have := g.le i hi; omega
  have h2 : z ≤ y := by
    rcases g.at_ with e | ⟨i, hi, e⟩
    · omega
    · have := h.le i hi; omega
  omega
set_option maxRecDepth 100000 in
set_option maxHeartbeats 8000000 in
/-- colour.longest. -/
theorem clongest_any (L n : Nat) (f : Nat → Value) (ln : Nat → Nat) (w : World) (hn : n ≤ 128) (hl : ∀ i, i < n → ln i ≤ 17592186044416 ∧ ∃ a c, w.cell? ⟨L, i, none⟩ = some (.slice a (ln i) c)) :
    Calls Tryz.prog 80 #[.slice (some ⟨L, 0, none⟩) n n] w fun e w' => ∃ y : Nat, e = .returned (.int .i64 (y : Int)) ∧ LgT ln n y ∧ Below w.heap.size w w' := by
  have HL := hide hl
  clear hl
  go_enter Tryz.func80, Tryz.ntmps80
  go_wp2_with fail
  go_loopw [8, 3] (fun iv mv wr => ∃ (k y : Nat), k ≤ n ∧ iv = .int .i64 (k : Int) ∧ mv = .int .i64 (y : Int) ∧ Hid (LgT ln k y) ∧ Hid (Below w.heap.size w wr)) (fun iv _ _ => n - (intOf iv).toNat)
  case atStart => exact ⟨0, 0, Nat.zero_le _, rfl, rfl, hide ⟨fun i hi => absurd hi (Nat.not_lt_zero _), .inl rfl⟩, hide (Below.refl _ _)⟩
  case round =>
    obtain ⟨k, y, hk, rfl, rfl, HG, HW⟩ := hrel
    by_cases hlt : k < n
    · have hlt' : (k : Int) < (n : Int) := by omega
      obtain ⟨hln, a, c, hc⟩ := unhide HL k hlt
      have sk := ((unhide HW).cell (p := ⟨L, k, none⟩) (World.block_lt_of_cell? _ _ hc)).trans hc
      obtain ⟨l, hl⟩ : ∃ l, ln k = l := ⟨_, rfl⟩
      rw [hl] at sk hln
      have HN := hide ((unhide HG).next)
      rw [hl] at HN
      obtain ⟨z, hz⟩ : ∃ z : Nat, max y l = z := ⟨_, rfl⟩
      rw [hz] at HN
      have hz' : max (y : Int) (l : Int) = (z : Int) := by omega
      clear hc hl hz
      go_wp2_with fail
      exact ⟨⟨k + 1, z, by omega, by (first | rfl | go_num), by (first | rfl | simp [hz']), HN, HW⟩, by simp [intOf]; omega⟩
    · obtain rfl : k = n := by omega
      have hlt' : ¬ (k : Int) < (k : Int) := by omega
      go_wp2_with fail
      try go_ret
      exact ⟨y, rfl, unhide HG, unhide HW⟩
theorem rowL_len {R : Nat} {width : Int} {st cols : List Int} (hm : MayP (R : Int) width st cols) {r : Nat} (hr : r < R) : (rowL st cols r).length = (st.getD (r + 1) 0).toNat - (st.getD r 0).toNat := by
  obtain ⟨X, Y, h⟩ := hm.rowAt (k := r) (by omega)
  unfold rowL
  rw [List.length_take, List.length_drop, h.hX, h.hY]
  have := h.lt
  omega
set_option maxRecDepth 100000 in
set_option maxHeartbeats 8000000 in
/-- colour.longestRow. -/
theorem clrow_any (R width : Nat) (a1 a2 : Option Addr) (n1 c1 n2 c2 : Nat) (st cols : List Int) (w : World) (h1 : SlI w a1 n1 c1 st) (h2 : SlI w a2 n2 c2 cols) (hb1 : n1 ≤ 17592186044000) (hb2 : n2 ≤ 17592186044000) (hm : MayP (R : Int) (width : Int) st cols) :
    Calls Tryz.prog 53 #[patV (R : Int) (width : Int) a1 n1 c1 a2 n2 c2] w fun e w' => ∃ y : Nat, e = .returned (.int .i64 (y : Int)) ∧ LgT (fun r => (rowL st cols r).length) R y ∧ Below w.heap.size w w' := by
  have hR8 : R ≤ 128 := by have := hm.head.fit; omega
  obtain ⟨wb, hwb⟩ : ∃ x, w.alloc (.cells #[.int .i64 (R : Int), .int .i64 (width : Int), .slice a1 n1 c1, .slice a2 n2 c2] 25) = x := ⟨_, rfl⟩
  have bb : Below w.heap.size w wb := by rw [← hwb]; exact (Below.refl _ _).alloc (Nat.le_refl _) _
  have hT := BoxP.made w #[.int .i64 (R : Int), .int .i64 (width : Int), .slice a1 n1 c1, .slice a2 n2 c2] 25
  rw [hwb] at hT
  have p0 := (hT.all 0 _ rfl).1
  have p1 := (hT.all 1 _ rfl).1
  have p2 := (hT.all 2 _ rfl).1
  have p3 := (hT.all 3 _ rfl).1
  have KR := hide (crows_any R (width : Int) a1 a2 n1 c1 n2 c2 st cols wb (h1.below bb) (h2.below bb) (by omega) (by omega) hm)
  have HM := hide hm
  have HS := hide h2
  have HB := hide bb
  clear h1 h2 hm hT bb
  unfold patV at *
  go_enter Tryz.func53, Tryz.ntmps53
  go_wp2_with fail
  refine (unhide KR).mono ?_
  rintro _ w2 ⟨b, hb, rfl, hV, b2⟩
  have KL := hide (clongest_any b R (rowV st a2 c2) (fun r => (rowL st cols r).length) w2 hR8 (fun i hi => ⟨by
    have h3 : (rowL st cols i).length ≤ cols.length := by unfold rowL; rw [List.length_take, List.length_drop]; omega
    have := (unhide HS).len
    omega, _, _, by rw [(hV i hi).1, rowL_len (unhide HM) hi]; rfl⟩))
  have HB2 := hide ((unhide HB).trans (b2.mono (unhide HB).size))
  clear KR hb hV b2 p0 p1 p2 p3
  go_wp2_with fail
  refine (unhide KL).mono ?_
  rintro _ w3 ⟨y, rfl, hy, b3⟩
  have HY := hide hy
  have HB3 := hide ((unhide HB2).trans (b3.mono (unhide HB2).size))
  clear KL hy b3
  go_wp2_with fail
  try go_ret
  exact ⟨y, rfl, unhide HY, unhide HB3⟩
set_option maxRecDepth 100000 in
set_option maxHeartbeats 8000000 in
/-- colour.longestColumn. -/
theorem clcol_any (R width : Nat) (a1 a2 : Option Addr) (n1 c1 n2 c2 : Nat) (st cols : List Int) (w : World) (h1 : SlI w a1 n1 c1 st) (h2 : SlI w a2 n2 c2 cols) (hb1 : n1 ≤ 17592186044000) (hb2 : n2 ≤ 17592186044000) (hm : MayP (R : Int) (width : Int) st cols) :
    Calls Tryz.prog 56 #[patV (R : Int) (width : Int) a1 n1 c1 a2 n2 c2] w fun e w' => ∃ y : Nat, e = .returned (.int .i64 (y : Int)) ∧ LgT (fun c => (grR (InC st cols) c R).length) width y ∧ Below w.heap.size w w' := by
  have hR8 : R ≤ 128 ∧ width ≤ 128 := by have := hm.head.fit; omega
  obtain ⟨wb, hwb⟩ : ∃ x, w.alloc (.cells #[.int .i64 (R : Int), .int .i64 (width : Int), .slice a1 n1 c1, .slice a2 n2 c2] 25) = x := ⟨_, rfl⟩
  have bb : Below w.heap.size w wb := by rw [← hwb]; exact (Below.refl _ _).alloc (Nat.le_refl _) _
  have hT := BoxP.made w #[.int .i64 (R : Int), .int .i64 (width : Int), .slice a1 n1 c1, .slice a2 n2 c2] 25
  rw [hwb] at hT
  have p0 := (hT.all 0 _ rfl).1
  have p1 := (hT.all 1 _ rfl).1
  have p2 := (hT.all 2 _ rfl).1
  have p3 := (hT.all 3 _ rfl).1
  have KR := hide (ccols_any R width a1 a2 n1 c1 n2 c2 st cols wb (h1.below bb) (h2.below bb) (by omega) (by omega) hm)
  have HB := hide bb
  clear h1 h2 hm hT bb
  unfold patV at *
  go_enter Tryz.func56, Tryz.ntmps56
  go_wp2_with fail
  refine (unhide KR).mono ?_
  rintro _ w2 ⟨t, b, f, hb, rfl, hV, b2⟩
  have KL := hide (clongest_any b width f (fun c => (grR (InC st cols) c R).length) w2 hR8.2 (fun i hi => ⟨by
    have := grR_len (InC st cols) i R
    show (grR (InC st cols) i R).length ≤ _
    omega, by
    obtain ⟨a, c, e, _⟩ := own_slI (hV.own i hi)
    exact ⟨a, c, by rw [hV.row.cell hi, e]⟩⟩))
  have HB2 := hide ((unhide HB).trans (b2.mono (unhide HB).size))
  clear KR hb hV b2 p0 p1 p2 p3
  go_wp2_with fail
  refine (unhide KL).mono ?_
  rintro _ w3 ⟨y, rfl, hy, b3⟩
  have HY := hide hy
  have HB3 := hide ((unhide HB2).trans (b3.mono (unhide HB2).size))
  clear KL hy b3
  go_wp2_with fail
  try go_ret
  exact ⟨y, rfl, unhide HY, unhide HB3⟩
end Go.Proofs.YtohamaiobhikiaaGreat

namespace Go.Proofs.YtohamaiobhikiaaGreat
open Go.RowKit Go.Deep
set_option linter.unusedVariables false

/-- One more than how many near things stand ahead of a thing. -/
noncomputable def bnF (S C : List Int) (xs : List Int) (m : Nat) (wd : Bool) (v : Nat) : Nat := 1 + cnP (fun j => NeaC S C xs m wd v (xs.getD j 0).toNat) (posI xs m v).toNat
end Go.Proofs.YtohamaiobhikiaaGreat

namespace Go.Proofs.YtohamaiobhikiaaGreat
open Go.RowKit Go.Deep
set_option linter.unusedVariables false

/-- What Bound answers where it is not refused. -/
def BdP (xs : List Int) (m : Nat) (f : Nat → Nat) (w w' : World) (e : Ending) : Prop := Below w.heap.size w w' ∧ (IsOrd xs m → ∃ q : Nat, e = .returned (.tuple #[.int .i64 (q : Int), .int .i64 0]) ∧ LgT f m q) ∧ (¬ IsOrd xs m → e = .returned (.tuple #[.int .i64 0, .int .i64 182]))
/-- What Floor answers where it is not refused. -/
def FlP (m : Nat) (P : Nat → Prop) (w w' : World) (e : Ending) : Prop := Below w.heap.size w w' ∧ ∃ q : Nat, e = .returned (.tuple #[.int .i64 (q : Int), .int .i64 0]) ∧ (m = 0 → q = 0) ∧ (0 < m → P q)

end Go.Proofs.YtohamaiobhikiaaGreat

namespace Go.Proofs.YtohamaiobhikiaaGreat
open Go.RowKit Go.Deep
set_option linter.unusedVariables false

/-- Near, by places in an order: through the first t. -/
def NwT (E : Nat → Nat → Prop) (xs : List Int) (wd : Bool) (i j t : Nat) : Prop := E (xs.getD i 0).toNat (xs.getD j 0).toNat ∨ (wd = true ∧ ∃ p, p < t ∧ E (xs.getD i 0).toNat (xs.getD p 0).toNat ∧ E (xs.getD p 0).toNat (xs.getD j 0).toNat)
theorem nwT_next {E : Nat → Nat → Prop} {xs : List Int} {i j t : Nat} {nb q1 q2 : Bool} (h : TruQ nb (NwT E xs true i j t)) (h1 : q1 = true ↔ E (xs.getD i 0).toNat (xs.getD t 0).toNat) (h2 : q2 = true ↔ E (xs.getD t 0).toNat (xs.getD j 0).toNat) : TruQ (nb || (q1 && q2)) (NwT E xs true i j (t + 1)) := by
  have h' : nb = true ↔ NwT E xs true i j t := h
  show (nb || (q1 && q2)) = true ↔ _
  rw [Bool.or_eq_true, Bool.and_eq_true, h', h1, h2]
  constructor
  · rintro ((e | ⟨_, p, hp, e⟩) | e)
    · exact .inl e
    · exact .inr ⟨rfl, p, by omega, e⟩
    · exact .inr ⟨rfl, t, by omega, e⟩
  · rintro (e | ⟨_, p, hp, e⟩)
    · exact .inl (.inl e)
    · by_cases c : p = t
      · subst c; exact .inr e
      · exact .inl (.inr ⟨rfl, p, by omega, e⟩)
theorem nwT_zero {E : Nat → Nat → Prop} {xs : List Int} {wd : Bool} {i j : Nat} {q : Bool} (h : q = true ↔ E (xs.getD i 0).toNat (xs.getD j 0).toNat) : TruQ q (NwT E xs wd i j 0) := by
  show q = true ↔ _
  rw [h]
  exact ⟨.inl, fun e => e.elim id (fun ⟨_, p, hp, _⟩ => absurd hp (Nat.not_lt_zero _))⟩
theorem nwT_false {E : Nat → Nat → Prop} {xs : List Int} {i j t u : Nat} {q : Bool} (h : TruQ q (NwT E xs false i j t)) : TruQ q (NwT E xs false i j u) := by
  have h' : q = true ↔ NwT E xs false i j t := h
  show q = true ↔ _
  rw [h']
  exact ⟨fun e => e.elim .inl (fun e => absurd e.1 (by decide)), fun e => e.elim .inl (fun e => absurd e.1 (by decide))⟩
theorem cnP_no {P : Nat → Prop} {k : Nat} (h : ¬ P k) : cnP P (k + 1) = cnP P k := by rw [cnP_next, tb_no h]; rfl
theorem cnP_yes {P : Nat → Prop} {k : Nat} (h : P k) : cnP P (k + 1) = cnP P k + 1 := by rw [cnP_next, tb_yes h]; rfl
noncomputable def bwF (E : Nat → Nat → Prop) (xs : List Int) (wd : Bool) (i : Nat) : Nat := 1 + cnP (fun j => NwT E xs wd i j i) i
end Go.Proofs.YtohamaiobhikiaaGreat

namespace Go.Proofs.YtohamaiobhikiaaGreat
open Go.RowKit Go.Deep
set_option linter.unusedVariables false

/-- A brush in hand: its sixteen cells ahead of the forest. -/
def bruM (f0 f1 f2 f3 : Value) (wd : Bool) (Rp width R : Nat) (a1 : Option Addr) (n1 c1 : Nat) (a2 : Option Addr) (n2 c2 : Nat) (b1 : Option Addr) (m1 d1 : Nat) (b2 : Option Addr) (m2 d2 : Nat) (g h cnt : Nat) : List Value := [f0, f1, f2, f3, .bool wd, .int .i64 (Rp : Int), .int .i64 (width : Int), .slice a1 n1 c1, .slice a2 n2 c2, .int .i64 (R : Int), .int .i64 (R : Int), .slice b1 m1 d1, .slice b2 m2 d2, .slice (some ⟨g, 0, none⟩) R R, .int .i64 (cnt : Int), .slice (some ⟨h, 0, none⟩) R R]
set_option maxRecDepth 100000 in
set_option maxHeartbeats 16000000 in
/-- colour.newBrush. -/
theorem cnewBrush_gen (f0 f1 f2 f3 : Value) (wd : Bool) (Rp width R : Nat) (a1 a2 b1 b2 : Option Addr) (n1 c1 n2 c2 m1 d1 m2 d2 : Nat) (w : World) (hR : R ≤ 128) :
    Calls Tryz.prog 13 #[.agg #[f0, f1, f2, f3, .bool wd, .int .i64 (Rp : Int), .int .i64 (width : Int), .slice a1 n1 c1, .slice a2 n2 c2, .int .i64 (R : Int), .int .i64 (R : Int), .slice b1 m1 d1, .slice b2 m2 d2]] w fun e w' => ∃ X g h, e = .returned (.pointer (some ⟨X, 0, none⟩)) ∧ BoxP w' X (bruM f0 f1 f2 f3 wd Rp width R a1 n1 c1 a2 n2 c2 b1 m1 d1 b2 m2 d2 g h 1) ∧ RoV w' g R (fun _ => .int .i64 (-1)) ∧ RoV w' h R (fun _ => .int .i64 0) ∧ (w.heap.size ≤ g ∧ g < h ∧ h < X) ∧ Below w.heap.size w w' := by
  obtain ⟨wb, hwb⟩ : ∃ x, w.alloc (.cells #[f0, f1, f2, f3, .bool wd, .int .i64 (Rp : Int), .int .i64 (width : Int), .slice a1 n1 c1, .slice a2 n2 c2, .int .i64 (R : Int), .int .i64 (R : Int), .slice b1 m1 d1, .slice b2 m2 d2] 56) = x := ⟨_, rfl⟩
  have bb : Below w.heap.size w wb := by rw [← hwb]; exact (Below.refl _ _).alloc (Nat.le_refl _) _
  have hT := BoxP.made w #[f0, f1, f2, f3, .bool wd, .int .i64 (Rp : Int), .int .i64 (width : Int), .slice a1 n1 c1, .slice a2 n2 c2, .int .i64 (R : Int), .int .i64 (R : Int), .slice b1 m1 d1, .slice b2 m2 d2] 56
  rw [hwb] at hT
  have p0 := (hT.all 0 _ rfl).1
  have p1 := (hT.all 1 _ rfl).1
  have p2 := (hT.all 2 _ rfl).1
  have p3 := (hT.all 3 _ rfl).1
  have p4 := (hT.all 4 _ rfl).1
  have p5 := (hT.all 5 _ rfl).1
  have p6 := (hT.all 6 _ rfl).1
  have p7 := (hT.all 7 _ rfl).1
  have p8 := (hT.all 8 _ rfl).1
  have p9 := (hT.all 9 _ rfl).1
  have p10 := (hT.all 10 _ rfl).1
  have p11 := (hT.all 11 _ rfl).1
  have p12 := (hT.all 12 _ rfl).1
  have HT := hide hT
  have HB := hide bb
  clear hT bb
  go_enter Tryz.func13, Tryz.ntmps13
  go_wp2_with fail
  go_region_held3 (fun w' => w'.cell? ⟨w.heap.size, 0, none⟩ = some (f0) ∧ w'.cell? ⟨w.heap.size, 1, none⟩ = some (f1) ∧ w'.cell? ⟨w.heap.size, 2, none⟩ = some (f2) ∧ w'.cell? ⟨w.heap.size, 3, none⟩ = some (f3) ∧ w'.cell? ⟨w.heap.size, 4, none⟩ = some (.bool wd) ∧ w'.cell? ⟨w.heap.size, 5, none⟩ = some (.int .i64 (Rp : Int)) ∧ w'.cell? ⟨w.heap.size, 6, none⟩ = some (.int .i64 (width : Int)) ∧ w'.cell? ⟨w.heap.size, 7, none⟩ = some (.slice a1 n1 c1) ∧ w'.cell? ⟨w.heap.size, 8, none⟩ = some (.slice a2 n2 c2) ∧ w'.cell? ⟨w.heap.size, 9, none⟩ = some (.int .i64 (R : Int)) ∧ w'.cell? ⟨w.heap.size, 10, none⟩ = some (.int .i64 (R : Int)) ∧ w'.cell? ⟨w.heap.size, 11, none⟩ = some (.slice b1 m1 d1) ∧ w'.cell? ⟨w.heap.size, 12, none⟩ = some (.slice b2 m2 d2)) (first | (exact ⟨k0, k1, k2, k3, k4, k5, k6, k7, k8, k9, k10, k11, k12⟩) | go_keep)
    (first
      | (go_at_call 29; refine (srepeat_any ⟨wb.heap.size, 0, none⟩ 1 (-1) R _ hR (by simp)).mono ?_; rintro _ w3 ⟨g, hgn, rfl, hgb, b3⟩; have bw3 : Below wb.heap.size wb w3 := (((Below.refl _ _).alloc (Nat.le_refl _) _).drew).trans (b3.mono (by simp)); have hT3 := (unhide HT).below bw3; have k0 := (hT3.all 0 _ rfl).1; have k1 := (hT3.all 1 _ rfl).1; have k2 := (hT3.all 2 _ rfl).1; have k3 := (hT3.all 3 _ rfl).1; have k4 := (hT3.all 4 _ rfl).1; have k5 := (hT3.all 5 _ rfl).1; have k6 := (hT3.all 6 _ rfl).1; have k7 := (hT3.all 7 _ rfl).1; have k8 := (hT3.all 8 _ rfl).1; have k9 := (hT3.all 9 _ rfl).1; have k10 := (hT3.all 10 _ rfl).1; have k11 := (hT3.all 11 _ rfl).1; have k12 := (hT3.all 12 _ rfl).1; have HB3 := hide bw3; have HGB := hide (And.intro hgb (show wb.heap.size ≤ g by simp at hgn; omega)); have HT3 := hide hT3; clear hgb b3 bw3 hT3 hgn)
      | (go_at_call 30; refine (cmarksOf_any R _ hR).mono ?_; rintro _ w4 ⟨h, hhn, rfl, hhr, hhl, b4⟩; clear k0 k1 k2 k3 k4 k5 k6 k7 k8 k9 k10 k11 k12; have hT4 := (unhide HT3).below b4; have k0 := (hT4.all 0 _ rfl).1; have k1 := (hT4.all 1 _ rfl).1; have k2 := (hT4.all 2 _ rfl).1; have k3 := (hT4.all 3 _ rfl).1; have k4 := (hT4.all 4 _ rfl).1; have k5 := (hT4.all 5 _ rfl).1; have k6 := (hT4.all 6 _ rfl).1; have k7 := (hT4.all 7 _ rfl).1; have k8 := (hT4.all 8 _ rfl).1; have k9 := (hT4.all 9 _ rfl).1; have k10 := (hT4.all 10 _ rfl).1; have k11 := (hT4.all 11 _ rfl).1; have k12 := (hT4.all 12 _ rfl).1; have HB4 := hide b4; have HHR := hide (And.intro hhr (And.intro hhn hhl)); clear hhr hhn hhl b4 hT4))
  clear k0 k1 k2 k3 k4 k5 k6 k7 k8 k9 k10 k11 k12
  have hbx := BoxP.front w4 _ 92 (bruM f0 f1 f2 f3 wd Rp width R a1 n1 c1 a2 n2 c2 b1 m1 d1 b2 m2 d2 g h 1) (by simp only [Array.size_setIfInBounds]; have := zc_brush; omega) (fun k v hk => brush_front f0 f1 f2 f3 (.bool wd) (.int .i64 (Rp : Int)) (.int .i64 (width : Int)) (.slice a1 n1 c1) (.slice a2 n2 c2) (.int .i64 (R : Int)) (.int .i64 (R : Int)) (.slice b1 m1 d1) (.slice b2 m2 d2) (.slice (some ⟨g, 0, none⟩) R R) (.int .i64 1) (.slice (some ⟨h, 0, none⟩) R R) k v hk)
  generalize hZ : ((((((((((((((((Tryz.zeroCells92.setIfInBounds 0 f0).setIfInBounds 1 f1).setIfInBounds 2 f2).setIfInBounds 3 f3).setIfInBounds 4 (Value.bool wd)).setIfInBounds 5 (Value.int IntKind.i64 (Rp : Int))).setIfInBounds 6 (Value.int IntKind.i64 (width : Int))).setIfInBounds 7 (Value.slice a1 n1 c1)).setIfInBounds 8 (Value.slice a2 n2 c2)).setIfInBounds 9 (Value.int IntKind.i64 (R : Int))).setIfInBounds 10 (Value.int IntKind.i64 (R : Int))).setIfInBounds 11 (Value.slice b1 m1 d1)).setIfInBounds 12 (Value.slice b2 m2 d2)).setIfInBounds 13 (Value.slice (some ⟨g, 0, none⟩) R R)).setIfInBounds 14 (Value.int IntKind.i64 1)).setIfInBounds 15 (Value.slice (some ⟨h, 0, none⟩) R R)) = ZZ at *
  have HX := hide hbx
  clear hbx hZ
  go_wp2_with fail
  try go_ret
  have b4a : Below w4.heap.size w4 (w4.alloc (.cells ZZ 92)) := (Below.refl _ _).alloc (Nat.le_refl _) _
  have h3 := (unhide HB).trans ((unhide HB3).mono (unhide HB).size)
  have h4 := h3.trans ((unhide HB4).mono h3.size)
  have hg3 := (Array.getElem?_eq_some_iff.1 (unhide HGB).1).1
  have hh := (unhide HHR).2
  refine ⟨w4.heap.size, g, h, rfl, unhide HX, ((RoV.rep (unhide HGB).1).below (unhide HB4)).below b4a, (unhide HHR).1.below b4a, ⟨?_, ?_, hh.2⟩, h4.trans (b4a.mono h4.size)⟩
  · have := (unhide HGB).2; have := (unhide HB).size; omega
  · omega
end Go.Proofs.YtohamaiobhikiaaGreat
