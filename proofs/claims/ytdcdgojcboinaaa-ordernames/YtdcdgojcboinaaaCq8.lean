/-
  ORDERS: order.Back: contracts.
-/
import Derived.Test.YtdcdgojcboinaaaCq3
import Derived.Test.YtdcdgojcboinaaaCq1
import Derived.Test.YtdcdgojcboinaaaCq6
import Derived.Test.YtdcdgojcboinaaaCo1
namespace Go.Proofs.Ytdcdgojcboinaaa
open Go.RowKit Go.Deep
set_option linter.unusedVariables false

set_option maxRecDepth 100000 in
set_option maxHeartbeats 16000000 in
/-- order.greatest of none. -/
theorem ogreatest_zero (g : Nat) (w : World) :
    Calls Try.prog 15 #[.slice (some ⟨g, 0, none⟩) 0 0] w fun e w' => e = .returned (.int .i64 0) ∧ Below w.heap.size w w' := by
  have s1 : SlI (w.alloc (.cells #[.int .i64 0] 3)) (some ⟨w.heap.size, 0, none⟩) 1 1 [0] := ⟨rfl, Nat.le_refl _, by unfold maxLen; omega, .inr ⟨w.heap.size, 0, rfl, fun i hi => by
    have : i = 0 := by simpa using hi
    subst this
    exact (cell_of_block (alloc_block _ _) 0).trans rfl⟩⟩
  have HK := hide (fun W (b : Below (w.alloc (.cells #[.int .i64 0] 3)).heap.size (w.alloc (.cells #[.int .i64 0] 3)) W) => smax_any (some ⟨w.heap.size, 0, none⟩) 1 1 [0] W (s1.below b) (by omega) (by omega))
  clear s1
  go_enter Try.func15, Try.ntmps15
  go_wp2_with fail
  refine (unhide HK _ (Below.refl _ _)).mono ?_
  rintro _ w2 ⟨v, rfl, hm, b2⟩
  have hv : v = 0 := MaxTo.one hm ⟨⟨0, by omega, rfl⟩, fun i hi => by
    have : i = 0 := by omega
    subst this
    exact Int.le_refl _⟩
  subst hv
  clear HK hm
  have HB := hide (((Below.refl w.heap.size w).alloc (Nat.le_refl _) (Obj.cells #[Value.int IntKind.i64 0] 3)).trans (b2.mono (by simp)))
  clear b2
  go_wp2_with fail
  try go_ret
  exact ⟨rfl, unhide HB⟩
/-- order.greatest. -/
theorem ogreatest_all (g R : Nat) (f : Nat → Nat) (w : World) (h : RoV w g R (fun i => .int .i64 (f i : Int))) (hR : R ≤ 128) :
    Calls Try.prog 15 #[.slice (some ⟨g, 0, none⟩) R R] w fun e w' => ∃ v : Int, e = .returned (.int .i64 v) ∧ MaxTo (0 :: (List.range R).map (fun i => (f i : Int))) (R + 1) v ∧ Below w.heap.size w w' := by
  by_cases h0 : 0 < R
  · exact ogreatest_any g R f w h hR h0
  · obtain rfl : R = 0 := by omega
    refine (ogreatest_zero g w).mono ?_
    rintro _ w' ⟨rfl, b⟩
    exact ⟨0, rfl, ⟨⟨0, by omega, rfl⟩, fun i hi => by
      have : i = 0 := by omega
      subst this
      exact Int.le_refl _⟩, b⟩
/-- The backs of an order. -/
def bkO (xs st cols : List Int) (R v : Nat) : Nat := baN (posI xs R) (rowL st cols v) (posI xs R v) (rowL st cols v).length
set_option maxRecDepth 100000 in
set_option maxHeartbeats 8000000 in
/-- order.Back of no graph. -/
theorem oBack_nogr (rows width : Int) (a1 a2 : Option Addr) (n1 c1 n2 c2 : Nat) (st cols : List Int) (s : Value) (w : World) (h1 : SlI w a1 n1 c1 st) (h2 : SlI w a2 n2 c2 cols) (hb1 : n1 ≤ 17592186044000) (hb2 : n2 ≤ 17592186044000) (hno : ¬ IsGr rows width st cols) :
    Calls Try.prog 12 #[patV rows width a1 n1 c1 a2 n2 c2, s] w fun e w' => e = .returned (.tuple #[.int .i64 0, .slice none 0 0, .int .i64 220]) ∧ Below w.heap.size w w' := by
  obtain ⟨wb, hwb⟩ : ∃ x, w.alloc (.cells #[.int .i64 rows, .int .i64 width, .slice a1 n1 c1, .slice a2 n2 c2] 24) = x := ⟨_, rfl⟩
  have bb : Below w.heap.size w wb := by rw [← hwb]; exact (Below.refl _ _).alloc (Nat.le_refl _) _
  have hT := BoxP.made w #[.int .i64 rows, .int .i64 width, .slice a1 n1 c1, .slice a2 n2 c2] 24
  rw [hwb] at hT
  have p0 := (hT.all 0 _ rfl).1
  have p1 := (hT.all 1 _ rfl).1
  have p2 := (hT.all 2 _ rfl).1
  have p3 := (hT.all 3 _ rfl).1
  have K := hide (oisGraph_no rows width a1 a2 n1 c1 n2 c2 st cols wb (h1.below bb) (h2.below bb) hb1 hb2 hno)
  unfold patV at K
  have HB := hide bb
  clear hT bb h1 h2 hno
  unfold patV
  go_enter Try.func12, Try.ntmps12
  go_wp2_with fail
  refine (unhide K).mono ?_
  rintro _ w2 ⟨rfl, b2⟩
  have HB2 := hide ((unhide HB).trans (b2.mono (unhide HB).size))
  clear K b2 p0 p1 p2 p3
  go_wp2_with fail
  refine bodyPost_ret (by simp [results, Try.results12, go_sem]; try rfl) rfl ?_
  exact ⟨rfl, unhide HB2⟩
/-- What Back answers. -/
def BaP (R : Nat) (xs st cols : List Int) (ok : Bool) (w w' : World) (e : Ending) : Prop := Below w.heap.size w w' ∧ (ok = false → e = .returned (.tuple #[.int .i64 0, .slice none 0 0, .int .i64 182])) ∧ (ok = true → ∃ (v : Int) (g : Nat), e = .returned (.tuple #[.int .i64 v, .slice (some ⟨g, 0, none⟩) R R, .int .i64 0]) ∧ RoV w' g R (fun u => .int .i64 (bkO xs st cols R u : Int)) ∧ MaxTo (0 :: (List.range R).map (fun u => (bkO xs st cols R u : Int))) (R + 1) v)
set_option maxRecDepth 100000 in
set_option maxHeartbeats 8000000 in
/-- order.Back of a graph. -/
theorem oBack_gr (R : Nat) (a1 a2 : Option Addr) (n1 c1 n2 c2 : Nat) (st cols : List Int) (a : Option Addr) (m c : Nat) (xs : List Int) (w : World) (h1 : SlI w a1 n1 c1 st) (h2 : SlI w a2 n2 c2 cols) (h3 : SlI w a m c xs) (hb1 : n1 ≤ 17592186044000) (hb2 : n2 ≤ 17592186044000) (hb3 : m ≤ 17592186044000) (hm : MayP (R : Int) (R : Int) st cols) (hg : GraP st cols R R) (ok : Bool) (hok : TruQ ok (IsOrd xs R)) :
    Calls Try.prog 12 #[patV (R : Int) (R : Int) a1 n1 c1 a2 n2 c2, .slice a m c] w fun e w' => BaP R xs st cols ok w w' e := by
  have hR : R ≤ 128 := by have := hm.head.fit; omega
  obtain ⟨wb, hwb⟩ : ∃ x, w.alloc (.cells #[.int .i64 (R : Int), .int .i64 (R : Int), .slice a1 n1 c1, .slice a2 n2 c2] 24) = x := ⟨_, rfl⟩
  have bb : Below w.heap.size w wb := by rw [← hwb]; exact (Below.refl _ _).alloc (Nat.le_refl _) _
  have hT := BoxP.made w #[.int .i64 (R : Int), .int .i64 (R : Int), .slice a1 n1 c1, .slice a2 n2 c2] 24
  rw [hwb] at hT
  have p0 := (hT.all 0 _ rfl).1
  have p1 := (hT.all 1 _ rfl).1
  have p2 := (hT.all 2 _ rfl).1
  have p3 := (hT.all 3 _ rfl).1
  have K1 := hide (oisGraph_yes R a1 a2 n1 c1 n2 c2 st cols wb (h1.below bb) (h2.below bb) hb1 hb2 hm hg)
  have K2 := hide (fun (W : World) (b : Below w.heap.size w W) => oplaces_any a m c xs R W (h3.below b) (by omega) hR ok hok)
  have K3 := hide (fun (W : World) (b : Below w.heap.size w W) (gp : Nat) (hp : RoV W gp R (fun v => .int .i64 (posI xs R v))) => obacks_any R a1 a2 n1 c1 n2 c2 gp (posI xs R) st cols W (h1.below b) (h2.below b) hb1 hb2 hm hp)
  unfold patV at K1 K3
  have HB := hide bb
  have HT := hide hT
  clear hT bb h1 h2 h3 hm hg hok
  unfold patV
  go_enter Try.func12, Try.ntmps12
  go_wp2_with fail
  refine (unhide K1).mono ?_
  rintro _ w2 ⟨rfl, b2⟩
  have HB2 := hide ((unhide HB).trans (b2.mono (unhide HB).size))
  have HT2 := hide ((unhide HT).below b2)
  have K4 := hide (unhide K2 w2 (unhide HB2))
  clear K1 K2 b2 p0 p1 p2 p3
  have p0 := ((unhide HT2).all 0 _ rfl).1
  go_wp2_with fail
  refine (unhide K4).mono ?_
  intro e w3 hP
  have b3 := hP.1
  have HB3 := hide ((unhide HB2).trans (b3.mono (unhide HB2).size))
  have HT3 := hide ((unhide HT2).below b3)
  cases ok
  · have he := hP.2.1 rfl
    subst he
    clear hP b3 K4 p0 K3
    go_wp2_with fail
    refine bodyPost_ret (by simp [results, Try.results12, go_sem]; try rfl) rfl ?_
    exact ⟨unhide HB3, fun _ => rfl, fun h => (by cases h)⟩
  · obtain ⟨gp, hgp, he, hr⟩ := hP.2.2 rfl
    subst he
    have K5 := hide (unhide K3 w3 (unhide HB3) gp hr)
    clear hP b3 K4 p0 K3 hr
    have p0 := ((unhide HT3).all 0 _ rfl).1
    have p1 := ((unhide HT3).all 1 _ rfl).1
    have p2 := ((unhide HT3).all 2 _ rfl).1
    have p3 := ((unhide HT3).all 3 _ rfl).1
    go_wp2_with fail
    refine (unhide K5).mono ?_
    rintro _ w4 ⟨g, hg, rfl, hr4, hl4, b4⟩
    have K6 := hide (ogreatest_all g R (bkO xs st cols R) w4 hr4 hR)
    have HB4 := hide ((unhide HB3).trans (b4.mono (unhide HB3).size))
    have HR4 := hide (show RoV w4 g R (fun u => .int .i64 (bkO xs st cols R u : Int)) from hr4)
    clear K5 hg hr4 hl4 b4 p0 p1 p2 p3
    go_wp2_with fail
    refine (unhide K6).mono ?_
    rintro _ w5 ⟨v, rfl, hmx, b5⟩
    have HF := hide (And.intro ((unhide HB4).trans (b5.mono (unhide HB4).size)) (And.intro ((unhide HR4).below b5) hmx))
    clear K6 hmx b5
    go_wp2_with fail
    refine bodyPost_ret (by simp [results, Try.results12, go_sem]; try rfl) rfl ?_
    exact ⟨(unhide HF).1, fun h => (by cases h), fun _ => ⟨v, g, rfl, (unhide HF).2.1, (unhide HF).2.2⟩⟩
end Go.Proofs.Ytdcdgojcboinaaa

namespace Go.Proofs.Ytdcdgojcboinaaa
open Go.RowKit Go.Deep
set_option linter.unusedVariables false

/-- The i-th thing of a list. -/
def thg (xs : List Int) (i : Nat) : Nat := (xs.getD i 0).toNat
/-- The first i things. -/
def inF (xs : List Int) : Nat → Nat → Bool
  | 0, _ => false
  | i + 1, u => if u = thg xs i then true else inF xs i u
/-- How many of a thing's neighbours are among the first i. -/
def amF (xs st cols : List Int) (i u : Nat) : Nat := amN (inF xs i) (rowL st cols u) (rowL st cols u).length
/-- The backs behind i steps. -/
def lbF (xs st cols : List Int) : Nat → Nat → Nat
  | 0, _ => 0
  | i + 1, u => if u = thg xs i then amF xs st cols i u else lbF xs st cols i u
/-- The greatest of the first k. -/
def moG (C : Nat → Nat) : Nat → Nat
  | 0 => 0
  | k + 1 => if moG C k < C k then C k else moG C k
/-- What the document's Back answers. -/
def WbP (R : Nat) (xs st cols : List Int) (ok : Bool) (w w' : World) (e : Ending) : Prop := Below w.heap.size w w' ∧ (ok = false → e = .returned (.tuple #[.int .i64 0, .slice none 0 0, .int .i64 182])) ∧ (ok = true → ∃ g, e = .returned (.tuple #[.int .i64 (moG (fun i => amF xs st cols i (thg xs i)) R : Int), .slice (some ⟨g, 0, none⟩) R R, .int .i64 0]) ∧ RoV w' g R (fun u => .int .i64 (lbF xs st cols R u : Int)))
end Go.Proofs.Ytdcdgojcboinaaa

namespace Go.Proofs.Ytdcdgojcboinaaa
open Go.RowKit Go.Deep
set_option linter.unusedVariables false

theorem inF_iff (xs : List Int) (u : Nat) : ∀ i, inF xs i u = true ↔ ∃ j, j < i ∧ thg xs j = u
  | 0 => by simp [inF]
  | i + 1 => by
    simp only [inF]
    by_cases e : u = thg xs i
    · rw [if_pos e]
      exact ⟨fun _ => ⟨i, by omega, e.symm⟩, fun _ => rfl⟩
    · rw [if_neg e, inF_iff xs u i]
      exact ⟨fun ⟨j, h1, h2⟩ => ⟨j, by omega, h2⟩, fun ⟨j, h1, h2⟩ => ⟨j, by
        have : j ≠ i := fun x => e (by rw [← h2, x])
        omega, h2⟩⟩
theorem thg_inj {xs : List Int} {R i j : Nat} (h : OrdTo xs R R) (hi : i < R) (hj : j < R) (e : thg xs i = thg xs j) : i = j := by
  unfold thg at e
  have h1 := h.rng i hi
  have h2 := h.rng j hj
  rcases Nat.lt_trichotomy i j with c | c | c
  · exact absurd (by omega) (h.one i j c hj)
  · exact c
  · exact absurd (by omega) (h.one j i c hi)
theorem thg_place {xs : List Int} {R u : Nat} (h : OrdTo xs R R) (hu : u < R) : ∃ p, p < R ∧ thg xs p = u ∧ posI xs R u = (p : Int) := by
  obtain ⟨p, hp, e1, e2⟩ := h.place hu
  exact ⟨p, hp, by unfold thg; omega, e2⟩
theorem inF_pos {xs : List Int} {R u k : Nat} (h : OrdTo xs R R) (hu : u < R) (hk : k ≤ R) : inF xs k u = true ↔ posI xs R u < (k : Int) := by
  obtain ⟨p, hp, e1, e2⟩ := thg_place h hu
  rw [inF_iff, e2]
  exact ⟨fun ⟨j, h1, h2⟩ => by
    have := thg_inj h (i := j) (j := p) (by omega) hp (h2.trans e1.symm)
    omega, fun h1 => ⟨p, by omega, e1⟩⟩
theorem lbF_at {xs st cols : List Int} {R p : Nat} (h : OrdTo xs R R) (hp : p < R) : ∀ k, p < k → k ≤ R → lbF xs st cols k (thg xs p) = amF xs st cols p (thg xs p)
  | 0, h1, _ => absurd h1 (Nat.not_lt_zero p)
  | k + 1, h1, h2 => by
    simp only [lbF]
    by_cases e : thg xs p = thg xs k
    · have := thg_inj h hp (by omega) e
      subst this
      rw [if_pos rfl]
    · rw [if_neg e]
      exact lbF_at h hp k (by
        have : p ≠ k := fun x => e (by rw [x])
        omega) (by omega)
theorem am_ba {xs st cols : List Int} {R u p : Nat} (h : OrdTo xs R R) (hm : MayP (R : Int) (R : Int) st cols) (hu : u < R) (hp : p ≤ R) : ∀ i, i ≤ (rowL st cols u).length → amN (inF xs p) (rowL st cols u) i = baN (posI xs R) (rowL st cols u) (p : Int) i
  | 0, _ => rfl
  | i + 1, hi => by
    obtain ⟨y, e1, hy⟩ := row_at hm hu (i := i) (by omega)
    simp only [amN, baN]
    rw [am_ba h hm hu hp i (by omega), e1, show ((y : Int)).toNat = y by omega]
    have := inF_pos (k := p) h hy hp
    by_cases c : posI xs R y < (p : Int)
    · rw [if_pos c, if_pos (this.2 c)]
    · rw [if_neg c, if_neg (fun x => c (this.1 x))]
theorem amF_bk {xs st cols : List Int} {R p : Nat} (h : OrdTo xs R R) (hm : MayP (R : Int) (R : Int) st cols) (hp : p < R) : amF xs st cols p (thg xs p) = bkO xs st cols R (thg xs p) := by
  have hr := h.rng p hp
  have hu : thg xs p < R := by unfold thg; omega
  obtain ⟨q, hq, e1, e2⟩ := thg_place h hu
  have : q = p := thg_inj h hq hp e1
  subst this
  unfold amF bkO
  rw [am_ba h hm hu (by omega) _ (Nat.le_refl _), e2]
theorem lbF_bk {xs st cols : List Int} {R u : Nat} (h : OrdTo xs R R) (hm : MayP (R : Int) (R : Int) st cols) (hu : u < R) : lbF xs st cols R u = bkO xs st cols R u := by
  obtain ⟨p, hp, e1, e2⟩ := thg_place h hu
  rw [← e1, lbF_at h hp R hp (Nat.le_refl _), amF_bk h hm hp]
theorem moG_ge (C : Nat → Nat) : ∀ k i, i < k → C i ≤ moG C k
  | 0, i, h => absurd h (Nat.not_lt_zero i)
  | k + 1, i, h => by
    simp only [moG]
    by_cases e : i = k
    · subst e; split <;> omega
    · have := moG_ge C k i (by omega)
      split <;> omega
theorem moG_at (C : Nat → Nat) : ∀ k, moG C k = 0 ∨ ∃ i, i < k ∧ C i = moG C k
  | 0 => .inl rfl
  | k + 1 => by
    simp only [moG]
    by_cases e : moG C k < C k
    · rw [if_pos e]; exact .inr ⟨k, by omega, rfl⟩
    · rw [if_neg e]
      rcases moG_at C k with h | ⟨i, h1, h2⟩
      · exact .inl h
      · exact .inr ⟨i, by omega, h2⟩
/-- Both sides' greatest back. -/
theorem most_two {xs st cols : List Int} {R : Nat} {v : Int} (h : OrdTo xs R R) (hm : MayP (R : Int) (R : Int) st cols) (hv : MaxTo (0 :: (List.range R).map (fun u => (bkO xs st cols R u : Int))) (R + 1) v) : v = (moG (fun i => amF xs st cols i (thg xs i)) R : Int) := by
  have hg : ∀ u, u < R → (0 :: (List.range R).map (fun u => (bkO xs st cols R u : Int))).getD (u + 1) 0 = (bkO xs st cols R u : Int) := fun u hu => by simp [List.getD, hu]
  refine MaxTo.one hv ⟨?_, fun i hi => ?_⟩
  · rcases moG_at (fun i => amF xs st cols i (thg xs i)) R with e | ⟨p, hp, e⟩
    · exact ⟨0, by omega, by rw [e]; rfl⟩
    · have hr := h.rng p hp
      have hu : thg xs p < R := by unfold thg; omega
      refine ⟨thg xs p + 1, by omega, ?_⟩
      rw [hg _ hu, ← amF_bk h hm hp, ← e]
  · cases i with
    | zero => show (0 : Int) ≤ _; omega
    | succ u =>
      rw [hg u (by omega)]
      obtain ⟨p, hp, e1, e2⟩ := thg_place h (show u < R by omega)
      have := moG_ge (fun i => amF xs st cols i (thg xs i)) R p hp
      rw [amF_bk h hm hp, e1] at this
      omega
end Go.Proofs.Ytdcdgojcboinaaa
