/-
  ORDERS: order.Back: contracts.
-/
import Derived.Test.YtpmafjofkmefeaaCq3
import Derived.Test.YtpmafjofkmefeaaCpd
import Derived.Test.YtpmafjofkmefeaaCh2
import Derived.Test.YtpmafjofkmefeaaRq0
import Derived.Lib.MinMax
import Derived.Test.YtpmafjofkmefeaaCo1
import Derived.Test.YtpmafjofkmefeaaSi4
namespace Go.Proofs.Ytpmafjofkmefeaa
open Go.RowKit Go.Deep
set_option linter.unusedVariables false

set_option maxRecDepth 100000 in
set_option maxHeartbeats 16000000 in
/-- order.greatest of none. -/
theorem ogreatest_zero (g : Nat) (w : World) :
    Calls Try.prog 30 #[.slice (some ⟨g, 0, none⟩) 0 0] w fun e w' => e = .returned (.int .i64 0) ∧ Below w.heap.size w w' := by
  have s1 : SlI (w.alloc (.cells #[.int .i64 0] 3)) (some ⟨w.heap.size, 0, none⟩) 1 1 [0] := ⟨rfl, Nat.le_refl _, by unfold maxLen; omega, .inr ⟨w.heap.size, 0, rfl, fun i hi => by
    have : i = 0 := by simpa using hi
    subst this
    exact (cell_of_block (alloc_block _ _) 0).trans rfl⟩⟩
  have HK := hide (fun W (b : Below (w.alloc (.cells #[.int .i64 0] 3)).heap.size (w.alloc (.cells #[.int .i64 0] 3)) W) => smax_any (some ⟨w.heap.size, 0, none⟩) 1 1 [0] W (s1.below b) (by omega) (by omega))
  clear s1
  go_enter Try.func30, Try.ntmps30
  go_wp2_with fail
  refine (unhide HK _ (Below.refl _ _)).mono ?_
  rintro _ w2 ⟨v, rfl, hm, b2⟩
  have hv : v = 0 := MaxTo.one hm ⟨⟨0, by omega, rfl⟩, fun i hi => by
    have : i = 0 := by omega
    subst this
    exact Int.le_refl _⟩
  subst hv
  clear HK hm
  have HB := hide (((Below.refl w.heap.size w).alloc (Nat.le_refl _) (Obj.cells #[Value.int IntKind.i64 0] 3)).trans (b2.mono (by simp)))
  clear b2
  go_wp2_with fail
  try go_ret
  exact ⟨rfl, unhide HB⟩
/-- order.greatest. -/
theorem ogreatest_all (g R : Nat) (f : Nat → Nat) (w : World) (h : RoV w g R (fun i => .int .i64 (f i : Int))) (hR : R ≤ 128) :
    Calls Try.prog 30 #[.slice (some ⟨g, 0, none⟩) R R] w fun e w' => ∃ v : Int, e = .returned (.int .i64 v) ∧ MaxTo (0 :: (List.range R).map (fun i => (f i : Int))) (R + 1) v ∧ Below w.heap.size w w' := by
  by_cases h0 : 0 < R
  · exact ogreatest_any g R f w h hR h0
  · obtain rfl : R = 0 := by omega
    refine (ogreatest_zero g w).mono ?_
    rintro _ w' ⟨rfl, b⟩
    exact ⟨0, rfl, ⟨⟨0, by omega, rfl⟩, fun i hi => by
      have : i = 0 := by omega
      subst this
      exact Int.le_refl _⟩, b⟩
/-- The backs of an order. -/
def bkO (xs st cols : List Int) (R v : Nat) : Nat := baN (posI xs R) (rowL st cols v) (posI xs R v) (rowL st cols v).length
set_option maxRecDepth 100000 in
set_option maxHeartbeats 8000000 in
/-- order.Back of no graph. -/
theorem oBack_nogr (rows width : Int) (a1 a2 : Option Addr) (n1 c1 n2 c2 : Nat) (st cols : List Int) (s : Value) (w : World) (h1 : SlI w a1 n1 c1 st) (h2 : SlI w a2 n2 c2 cols) (hb1 : n1 ≤ 17592186044000) (hb2 : n2 ≤ 17592186044000) (hno : ¬ IsGr rows width st cols) :
    Calls Try.prog 24 #[patV rows width a1 n1 c1 a2 n2 c2, s] w fun e w' => e = .returned (.tuple #[.int .i64 0, .slice none 0 0, .int .i64 220]) ∧ Below w.heap.size w w' := by
  obtain ⟨wb, hwb⟩ : ∃ x, w.alloc (.cells #[.int .i64 rows, .int .i64 width, .slice a1 n1 c1, .slice a2 n2 c2] 24) = x := ⟨_, rfl⟩
  have bb : Below w.heap.size w wb := by rw [← hwb]; exact (Below.refl _ _).alloc (Nat.le_refl _) _
  have hT := BoxP.made w #[.int .i64 rows, .int .i64 width, .slice a1 n1 c1, .slice a2 n2 c2] 24
  rw [hwb] at hT
  have p0 := (hT.all 0 _ rfl).1
  have p1 := (hT.all 1 _ rfl).1
  have p2 := (hT.all 2 _ rfl).1
  have p3 := (hT.all 3 _ rfl).1
  have K := hide (oisGraph_no rows width a1 a2 n1 c1 n2 c2 st cols wb (h1.below bb) (h2.below bb) hb1 hb2 hno)
  unfold patV at K
  have HB := hide bb
  clear hT bb h1 h2 hno
  unfold patV
  go_enter Try.func24, Try.ntmps24
  go_wp2_with fail
  refine (unhide K).mono ?_
  rintro _ w2 ⟨rfl, b2⟩
  have HB2 := hide ((unhide HB).trans (b2.mono (unhide HB).size))
  clear K b2 p0 p1 p2 p3
  go_wp2_with fail
  refine bodyPost_ret (by simp [results, Try.results24, go_sem]; try rfl) rfl ?_
  exact ⟨rfl, unhide HB2⟩
/-- What Back answers. -/
def BaP (R : Nat) (xs st cols : List Int) (ok : Bool) (w w' : World) (e : Ending) : Prop := Below w.heap.size w w' ∧ (ok = false → e = .returned (.tuple #[.int .i64 0, .slice none 0 0, .int .i64 182])) ∧ (ok = true → ∃ (v : Int) (g : Nat), e = .returned (.tuple #[.int .i64 v, .slice (some ⟨g, 0, none⟩) R R, .int .i64 0]) ∧ RoV w' g R (fun u => .int .i64 (bkO xs st cols R u : Int)) ∧ MaxTo (0 :: (List.range R).map (fun u => (bkO xs st cols R u : Int))) (R + 1) v)
set_option maxRecDepth 100000 in
set_option maxHeartbeats 8000000 in
/-- order.Back of a graph. -/
theorem oBack_gr (R : Nat) (a1 a2 : Option Addr) (n1 c1 n2 c2 : Nat) (st cols : List Int) (a : Option Addr) (m c : Nat) (xs : List Int) (w : World) (h1 : SlI w a1 n1 c1 st) (h2 : SlI w a2 n2 c2 cols) (h3 : SlI w a m c xs) (hb1 : n1 ≤ 17592186044000) (hb2 : n2 ≤ 17592186044000) (hb3 : m ≤ 17592186044000) (hm : MayP (R : Int) (R : Int) st cols) (hg : GraP st cols R R) (ok : Bool) (hok : TruQ ok (IsOrd xs R)) :
    Calls Try.prog 24 #[patV (R : Int) (R : Int) a1 n1 c1 a2 n2 c2, .slice a m c] w fun e w' => BaP R xs st cols ok w w' e := by
  have hR : R ≤ 128 := by have := hm.head.fit; omega
  obtain ⟨wb, hwb⟩ : ∃ x, w.alloc (.cells #[.int .i64 (R : Int), .int .i64 (R : Int), .slice a1 n1 c1, .slice a2 n2 c2] 24) = x := ⟨_, rfl⟩
  have bb : Below w.heap.size w wb := by rw [← hwb]; exact (Below.refl _ _).alloc (Nat.le_refl _) _
  have hT := BoxP.made w #[.int .i64 (R : Int), .int .i64 (R : Int), .slice a1 n1 c1, .slice a2 n2 c2] 24
  rw [hwb] at hT
  have p0 := (hT.all 0 _ rfl).1
  have p1 := (hT.all 1 _ rfl).1
  have p2 := (hT.all 2 _ rfl).1
  have p3 := (hT.all 3 _ rfl).1
  have K1 := hide (oisGraph_yes R a1 a2 n1 c1 n2 c2 st cols wb (h1.below bb) (h2.below bb) hb1 hb2 hm hg)
  have K2 := hide (fun (W : World) (b : Below w.heap.size w W) => oplaces_any a m c xs R W (h3.below b) (by omega) hR ok hok)
  have K3 := hide (fun (W : World) (b : Below w.heap.size w W) (gp : Nat) (hp : RoV W gp R (fun v => .int .i64 (posI xs R v))) => obacks_any R a1 a2 n1 c1 n2 c2 gp (posI xs R) st cols W (h1.below b) (h2.below b) hb1 hb2 hm hp)
  unfold patV at K1 K3
  have HB := hide bb
  have HT := hide hT
  clear hT bb h1 h2 h3 hm hg hok
  unfold patV
  go_enter Try.func24, Try.ntmps24
  go_wp2_with fail
  refine (unhide K1).mono ?_
  rintro _ w2 ⟨rfl, b2⟩
  have HB2 := hide ((unhide HB).trans (b2.mono (unhide HB).size))
  have HT2 := hide ((unhide HT).below b2)
  have K4 := hide (unhide K2 w2 (unhide HB2))
  clear K1 K2 b2 p0 p1 p2 p3
  have p0 := ((unhide HT2).all 0 _ rfl).1
  go_wp2_with fail
  refine (unhide K4).mono ?_
  intro e w3 hP
  have b3 := hP.1
  have HB3 := hide ((unhide HB2).trans (b3.mono (unhide HB2).size))
  have HT3 := hide ((unhide HT2).below b3)
  cases ok
  · have he := hP.2.1 rfl
    subst he
    clear hP b3 K4 p0 K3
    go_wp2_with fail
    refine bodyPost_ret (by simp [results, Try.results24, go_sem]; try rfl) rfl ?_
    exact ⟨unhide HB3, fun _ => rfl, fun h => (by cases h)⟩
  · obtain ⟨gp, hgp, he, hr⟩ := hP.2.2 rfl
    subst he
    have K5 := hide (unhide K3 w3 (unhide HB3) gp hr)
    clear hP b3 K4 p0 K3 hr
    have p0 := ((unhide HT3).all 0 _ rfl).1
    have p1 := ((unhide HT3).all 1 _ rfl).1
    have p2 := ((unhide HT3).all 2 _ rfl).1
    have p3 := ((unhide HT3).all 3 _ rfl).1
    go_wp2_with fail
    refine (unhide K5).mono ?_
    rintro _ w4 ⟨g, hg, rfl, hr4, hl4, b4⟩
    have K6 := hide (ogreatest_all g R (bkO xs st cols R) w4 hr4 hR)
    have HB4 := hide ((unhide HB3).trans (b4.mono (unhide HB3).size))
    have HR4 := hide (show RoV w4 g R (fun u => .int .i64 (bkO xs st cols R u : Int)) from hr4)
    clear K5 hg hr4 hl4 b4 p0 p1 p2 p3
    go_wp2_with fail
    refine (unhide K6).mono ?_
    rintro _ w5 ⟨v, rfl, hmx, b5⟩
    have HF := hide (And.intro ((unhide HB4).trans (b5.mono (unhide HB4).size)) (And.intro ((unhide HR4).below b5) hmx))
    clear K6 hmx b5
    go_wp2_with fail
    refine bodyPost_ret (by simp [results, Try.results24, go_sem]; try rfl) rfl ?_
    exact ⟨(unhide HF).1, fun h => (by cases h), fun _ => ⟨v, g, rfl, (unhide HF).2.1, (unhide HF).2.2⟩⟩
end Go.Proofs.Ytpmafjofkmefeaa

namespace Go.Proofs.Ytpmafjofkmefeaa
open Go.RowKit Go.Deep
set_option linter.unusedVariables false

/-- The longest of k lines. -/
structure LgT (f : Nat → Nat) (k y : Nat) : Prop where
  le : ∀ i, i < k → f i ≤ y
  at_ : y = 0 ∨ ∃ i, i < k ∧ f i = y
theorem LgT.next {f : Nat → Nat} {k y : Nat} (h : LgT f k y) : LgT f (k + 1) (max y (f k)) := by
  refine ⟨fun i hi => ?_, ?_⟩
  · by_cases e : i = k
    · subst e; omega
    · have := h.le i (by omega); omega
  · by_cases c : y ≤ f k
    · rcases Nat.eq_zero_or_pos (f k) with z | z
      · left; omega
      · right; exact ⟨k, by omega, by omega⟩
    · rcases h.at_ with e | ⟨i, hi, e⟩
      · left; omega
      · right; exact ⟨i, by omega, by omega⟩
theorem LgT.one {f : Nat → Nat} {k y z : Nat} (h : LgT f k y) (g : LgT f k z) : y = z := by
  have h1 : y ≤ z := by
    rcases h.at_ with e | ⟨i, hi, e⟩
    · omega
    · have := g.le i hi; omega
  have h2 : z ≤ y := by
    rcases g.at_ with e | ⟨i, hi, e⟩
    · omega
    · have := h.le i hi; omega
  omega
theorem rowL_len {R : Nat} {width : Int} {st cols : List Int} (hm : MayP (R : Int) width st cols) {r : Nat} (hr : r < R) : (rowL st cols r).length = (st.getD (r + 1) 0).toNat - (st.getD r 0).toNat := by
  obtain ⟨X, Y, h⟩ := hm.rowAt (k := r) (by omega)
  unfold rowL
  rw [List.length_take, List.length_drop, h.hX, h.hY]
  have := h.lt
  omega
end Go.Proofs.Ytpmafjofkmefeaa

namespace Go.Proofs.Ytpmafjofkmefeaa
open Go.RowKit Go.Deep
set_option linter.unusedVariables false

theorem RoV.sl2 {W : World} {g R : Nat} {f : Nat → Int} (h : RoV W g R (fun i => .int .i64 (f i))) (hR : R ≤ 128) : SlI W (some ⟨g, 0, none⟩) R R ((List.range R).map f) :=
  ⟨by simp, Nat.le_refl _, by unfold maxLen; omega, .inr ⟨g, 0, rfl, fun i hi => by
    have hi' : i < R := by simpa using hi
    rw [Nat.zero_add, (h i hi').1]
    simp [List.getD, hi']⟩⟩
set_option maxHeartbeats 1000000 in
/-- slopelaw11.num. -/
theorem num11_any (x : Int) (w : World) : Calls Try.prog 15 #[.int .i64 x] w fun e w' => e = .returned (.int .i64 x) ∧ w' = w := by
  go_enter Try.func15, Try.ntmps15
  go_wp2_with fail
  try go_ret
  exact ⟨rfl, rfl⟩
end Go.Proofs.Ytpmafjofkmefeaa
