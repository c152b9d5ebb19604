/-
  ORDERS: a renamed graph, plain; a list that grows in a slot.
-/
import Derived.Test.YtdcdgojcboinaaaCt4
namespace Go.Proofs.Ytdcdgojcboinaaa
open Go.RowKit Go.Deep
set_option linter.unusedVariables false
section
variable {R : Nat} {st cols xs ys : List Int}
/-- The thing at a place. -/
def ftN (xs : List Int) (i : Nat) : Nat := (xs.getD i 0).toNat
theorem ftN_at (h : IsOrd xs R) {i : Nat} (hi : i < R) : xs.getD i 0 = (ftN xs i : Int) ∧ ftN xs i < R := by
  have := h.2.rng i hi
  unfold ftN
  omega
theorem ftN_inj (h : IsOrd xs R) {i j : Nat} (hi : i < R) (hj : j < R) (e : ftN xs i = ftN xs j) : i = j := by
  have e1 := (ftN_at h hi).1
  have e2 := (ftN_at h hj).1
  rcases Nat.lt_trichotomy i j with c | c | c
  · exact absurd (by rw [e1, e2, e]) (h.2.one i j c hj)
  · exact c
  · exact absurd (by rw [e1, e2, e]) (h.2.one j i c hi)
/-- The graph with its vertices renamed. -/
theorem rn_of (hm : MayP (R : Int) (R : Int) st cols) (hg : GraP st cols R R) (hx : IsOrd xs R) : RnP R st cols (grS (fun i k => InC st cols (ftN xs k) (ftN xs i)) R R) (grC (fun i k => InC st cols (ftN xs k) (ftN xs i)) R R) (ftN xs) := by
  have hR : R ≤ 128 := by have := hm.head.fit; omega
  have hm' : MayP (R : Int) (R : Int) (grS (fun i k => InC st cols (ftN xs k) (ftN xs i)) R R) (grC (fun i k => InC st cols (ftN xs k) (ftN xs i)) R R) := may_gr hR
  have key : ∀ i k, i < R → k < R → (InC (grS (fun i k => InC st cols (ftN xs k) (ftN xs i)) R R) (grC (fun i k => InC st cols (ftN xs k) (ftN xs i)) R R) k i ↔ InC st cols (ftN xs k) (ftN xs i)) := fun i k hi hk => by
    rw [← rowL_mem hm' hi]
    exact mem_gr hi hk
  refine ⟨hm, hg, hm', ⟨rfl, fun u v hu hv h => ?_, fun ⟨r, hr, h⟩ => ?_⟩, fun i hi => (ftN_at hx hi).2, fun i j hi hj e => ftN_inj hx hi hj e, fun i k hi hk => ?_⟩
  · rw [key v u hv hu] at h
    rw [key u v hu hv]
    exact hg.2.1 _ _ (ftN_at hx hu).2 (ftN_at hx hv).2 h
  · rw [key r r hr hr] at h
    exact hg.2.2 ⟨_, (ftN_at hx hr).2, h⟩
  · rw [nb_mem hm' hi, nb_mem hm (ftN_at hx hi).2]
    exact key i k hi hk
/-- An order of the renamed, in the old names. -/
def thL (xs ys : List Int) (k : Nat) : List Int := (List.range k).map (fun i => xs.getD (ftN ys i) 0)
theorem thL_len (k : Nat) : (thL xs ys k).length = k := by simp [thL]
theorem thL_succ (k : Nat) : thL xs ys (k + 1) = thL xs ys k ++ [xs.getD (ftN ys k) 0] := by simp [thL, List.range_succ]
theorem thL_get {k i : Nat} (hi : i < k) : (thL xs ys k).getD i 0 = xs.getD (ftN ys i) 0 := by simp [thL, List.getD, hi]
theorem thL_ord (hx : IsOrd xs R) (hy : IsOrd ys R) : IsOrd (thL xs ys R) R := by
  refine ⟨thL_len R, ⟨fun j hj => ?_, fun i j hij hj e => ?_⟩⟩
  · rw [thL_get hj]
    exact hx.2.rng _ (ftN_at hy hj).2
  · rw [thL_get hj, thL_get (by omega)] at e
    have h1 := (ftN_at hx (ftN_at hy hj).2).1
    have h2 := (ftN_at hx (ftN_at hy (show i < R by omega)).2).1
    have e3 : ftN ys i = ftN ys j := ftN_inj hx (ftN_at hy (by omega)).2 (ftN_at hy hj).2 (by omega)
    have := ftN_inj hy (by omega) hj e3
    omega
theorem thL_is (hx : IsOrd xs R) (hy : IsOrd ys R) {j : Nat} (hj : j < R) : (thL xs ys R).getD j 0 = (ftN xs (ys.getD j 0).toNat : Int) := by
  rw [thL_get hj]
  exact (ftN_at hx (ftN_at hy hj).2).1
/-- The greatest back stays. -/
theorem back_same {st' cols' : List Int} (h : RnP R st cols st' cols' (ftN xs)) (hx : IsOrd xs R) (hy : IsOrd ys R) {v v' : Int} (h1 : MaxTo (0 :: (List.range R).map (fun u => (bkO ys st' cols' R u : Int))) (R + 1) v') (h2 : MaxTo (0 :: (List.range R).map (fun u => (bkO (thL xs ys R) st cols R u : Int))) (R + 1) v) : v' = v := by
  obtain ⟨M, hM⟩ : ∃ M, moF (bkO (thL xs ys R) st cols R) R = M := ⟨_, rfl⟩
  have e2 : v = (M : Int) := maxTo_is h2 (fun u hu => by rw [← hM]; exact moF_ge _ R u hu) (by rw [← hM]; exact moF_at _ R)
  have hb : ∀ i, i < R → bkO ys st' cols' R i = bkO (thL xs ys R) st cols R (ftN xs i) := fun i hi => h.bk hy (thL_ord hx hy) (fun j hj => thL_is hx hy hj) hi
  have e1 : v' = (M : Int) := maxTo_is h1 (fun u hu => by rw [hb u hu, ← hM]; exact moF_ge _ R _ (h.lt u hu)) (by
    rcases moF_at (bkO (thL xs ys R) st cols R) R with e | ⟨u, hu, e⟩
    · left; rw [← hM]; exact e
    · right
      obtain ⟨i, hi, e3⟩ := inj_surj R _ h.lt h.inj u hu
      exact ⟨i, hi, by rw [hb i hi, e3, e, hM]⟩)
  rw [e1, e2]
end
/-- A list of one's own that grows. -/
structure ThI (w1 W : World) (B : Nat) (v : Value) (S : List Int) : Prop where
  own : W.ownsRow B 3 1 v S.length (valsI S)
  bel : Below B w1 W
  le : B ≤ W.heap.size
theorem ThI.app {w1 W W3 : World} {B : Nat} {v : Value} {S : List Int} {x : Int} {g cap : Nat} (h : ThI w1 W B v S) (o : Obj) (hown : W3.ownsRow B 3 1 (.slice (some ⟨g, 0, none⟩) (S.length + 1) cap) (S.length + 1) (valsI S ++ [.int .i64 x])) (hg : (W.alloc o).grownBy W3 v.ownBlock) : ThI w1 W3 B (.slice (some ⟨g, 0, none⟩) (S.length + 1) cap) (S ++ [x]) := by
  have hB : Below B W W3 := Below.grown ((Below.refl B W).alloc h.le o) hg (by simp; have := h.le; omega) (fun j hj => (own_ge h.own j hj).1)
  exact ⟨by simpa [valsI] using hown, h.bel.trans hB, Nat.le_trans h.le hB.size⟩
end Go.Proofs.Ytdcdgojcboinaaa

namespace Go.Proofs.Ytdcdgojcboinaaa
open Go.Shelf Go.RowKit Go.Deep
set_option linter.unusedVariables false

set_option maxRecDepth 100000 in
set_option maxHeartbeats 8000000 in
/-- OrderNames of no graph. -/
theorem names_nogr (rows width : Int) (a1 a2 : Option Addr) (n1 c1 n2 c2 : Nat) (st cols : List Int) (lv ov : Value) (w : World) (h1 : SlI w a1 n1 c1 st) (h2 : SlI w a2 n2 c2 cols) (hb1 : n1 ≤ 17592186044000) (hb2 : n2 ≤ 17592186044000) (hno : ¬ IsGr rows width st cols) :
    Calls Try.prog 4 #[patV rows width a1 n1 c1 a2 n2 c2, lv, ov] w fun e w' => e = .returned (.bool true) ∧ Below w.heap.size w w' := by
  obtain ⟨wb, hwb⟩ : ∃ x, w.alloc (.cells #[.int .i64 rows, .int .i64 width, .slice a1 n1 c1, .slice a2 n2 c2] 24) = x := ⟨_, rfl⟩
  have bb : Below w.heap.size w wb := by rw [← hwb]; exact (Below.refl _ _).alloc (Nat.le_refl _) _
  have hT := BoxP.made w #[.int .i64 rows, .int .i64 width, .slice a1 n1 c1, .slice a2 n2 c2] 24
  rw [hwb] at hT
  have p0 := (hT.all 0 _ rfl).1
  have p1 := (hT.all 1 _ rfl).1
  have p2 := (hT.all 2 _ rfl).1
  have p3 := (hT.all 3 _ rfl).1
  have K2 := hide (wowrong_any rows width a1 a2 n1 c1 n2 c2 st cols wb (h1.below bb) (h2.below bb) hb1 hb2 false ⟨fun x => (by cases x), fun x => absurd x hno⟩)
  unfold patV at K2
  have HB := hide bb
  clear hT bb h1 h2 hno
  unfold patV
  go_enter Try.func4, Try.ntmps4
  go_wp2_with fail
  refine (unhide K2).mono ?_
  rintro _ w3 ⟨rfl, b3⟩
  have HB3 := hide ((unhide HB).trans (b3.mono (unhide HB).size))
  clear K2 b3 p0 p1 p2 p3
  go_wp2_with fail
  refine (oalive_any w3).mono ?_
  rintro _ w4 ⟨rfl, b4⟩
  have HB4 := hide ((unhide HB3).trans (b4.mono (unhide HB3).size))
  clear b4
  go_wp2_with fail
  try go_ret
  exact ⟨rfl, unhide HB4⟩
set_option maxRecDepth 100000 in
set_option maxHeartbeats 8000000 in
/-- OrderNames of lists one of which is no order. -/
theorem names_nord (R : Nat) (a1 a2 : Option Addr) (n1 c1 n2 c2 : Nat) (st cols : List Int) (a : Option Addr) (m c : Nat) (xs : List Int) (a' : Option Addr) (m' c' : Nat) (ys : List Int) (w : World) (h1 : SlI w a1 n1 c1 st) (h2 : SlI w a2 n2 c2 cols) (h3 : SlI w a m c xs) (h4 : SlI w a' m' c' ys) (hb1 : n1 ≤ 17592186044000) (hb2 : n2 ≤ 17592186044000) (hb3 : m ≤ 17592186044000) (hb4 : m' ≤ 17592186044000) (hm : MayP (R : Int) (R : Int) st cols) (hg : GraP st cols R R) (hno : ¬ (IsOrd xs R ∧ IsOrd ys R)) :
    Calls Try.prog 4 #[patV (R : Int) (R : Int) a1 n1 c1 a2 n2 c2, .slice a m c, .slice a' m' c'] w fun e w' => e = .returned (.bool true) ∧ Below w.heap.size w w' := by
  have hR : R ≤ 128 := by have := hm.head.fit; omega
  obtain ⟨wb, hwb⟩ : ∃ x, w.alloc (.cells #[.int .i64 (R : Int), .int .i64 (R : Int), .slice a1 n1 c1, .slice a2 n2 c2] 24) = x := ⟨_, rfl⟩
  have bb : Below w.heap.size w wb := by rw [← hwb]; exact (Below.refl _ _).alloc (Nat.le_refl _) _
  have hT := BoxP.made w #[.int .i64 (R : Int), .int .i64 (R : Int), .slice a1 n1 c1, .slice a2 n2 c2] 24
  rw [hwb] at hT
  have p0 := (hT.all 0 _ rfl).1
  have p1 := (hT.all 1 _ rfl).1
  have p2 := (hT.all 2 _ rfl).1
  have p3 := (hT.all 3 _ rfl).1
  have hgr : IsGr (R : Int) (R : Int) st cols := ⟨R, rfl, rfl, hm, hg⟩
  have K2 := hide (wowrong_any (R : Int) (R : Int) a1 a2 n1 c1 n2 c2 st cols wb (h1.below bb) (h2.below bb) hb1 hb2 true ⟨fun _ => hgr, fun _ => rfl⟩)
  have K3 := hide (fun (W : World) (b : Below w.heap.size w W) (ok : Bool) (hok : TruQ ok (IsOrd xs R)) => wocheck_in a m c xs R W (h3.below b) (by omega) hR ok hok)
  have K4 := hide (fun (W : World) (b : Below w.heap.size w W) (ok : Bool) (hok : TruQ ok (IsOrd ys R)) => wocheck_in a' m' c' ys R W (h4.below b) (by omega) hR ok hok)
  unfold patV at K2
  have HB := hide bb
  have HT := hide hT
  clear hT bb h1 h2 h3 h4 hgr hm hg
  unfold patV
  by_cases hx : IsOrd xs R
  · have hy : ¬ IsOrd ys R := fun hy => hno ⟨hx, hy⟩
    have HQ1 := hide (show TruQ true (IsOrd xs R) from ⟨fun _ => hx, fun _ => rfl⟩)
    have HQ2 := hide (show TruQ false (IsOrd ys R) from ⟨fun x => (by cases x), fun x => absurd x hy⟩)
    clear hx hy hno
    go_enter Try.func4, Try.ntmps4
    go_wp2_with fail
    refine (unhide K2).mono ?_
    rintro _ w3 ⟨rfl, b3⟩
    have HB3 := hide ((unhide HB).trans (b3.mono (unhide HB).size))
    have HT3 := hide ((unhide HT).below b3)
    clear K2 b3 p0 p1 p2 p3
    have p0 := ((unhide HT3).all 0 _ rfl).1
    go_wp2_with fail
    refine (unhide K3 w3 (unhide HB3) true (unhide HQ1)).mono ?_
    rintro _ w4 ⟨rfl, b4⟩
    unfold chkE
    have HB4 := hide ((unhide HB3).trans (b4.mono (unhide HB3).size))
    have HT4 := hide ((unhide HT3).below b4)
    clear K3 b4 p0
    have p0 := ((unhide HT4).all 0 _ rfl).1
    go_wp2_with fail
    refine (unhide K4 w4 (unhide HB4) false (unhide HQ2)).mono ?_
    rintro _ w5 ⟨rfl, b5⟩
    unfold chkE
    have HB5 := hide ((unhide HB4).trans (b5.mono (unhide HB4).size))
    clear K4 b5 p0
    go_wp2_with fail
    refine (oalive_any w5).mono ?_
    rintro _ w6 ⟨rfl, b6⟩
    have HB6 := hide ((unhide HB5).trans (b6.mono (unhide HB5).size))
    clear b6
    go_wp2_with fail
    try go_ret
    exact ⟨rfl, unhide HB6⟩
  · have HQ1 := hide (show TruQ false (IsOrd xs R) from ⟨fun x => (by cases x), fun x => absurd x hx⟩)
    clear hx hno
    go_enter Try.func4, Try.ntmps4
    go_wp2_with fail
    refine (unhide K2).mono ?_
    rintro _ w3 ⟨rfl, b3⟩
    have HB3 := hide ((unhide HB).trans (b3.mono (unhide HB).size))
    have HT3 := hide ((unhide HT).below b3)
    clear K2 b3 p0 p1 p2 p3
    have p0 := ((unhide HT3).all 0 _ rfl).1
    go_wp2_with fail
    refine (unhide K3 w3 (unhide HB3) false (unhide HQ1)).mono ?_
    rintro _ w4 ⟨rfl, b4⟩
    unfold chkE
    have HB4 := hide ((unhide HB3).trans (b4.mono (unhide HB3).size))
    clear K3 b4 p0
    go_wp2_with fail
    refine (oalive_any w4).mono ?_
    rintro _ w6 ⟨rfl, b6⟩
    have HB6 := hide ((unhide HB4).trans (b6.mono (unhide HB4).size))
    clear b6
    go_wp2_with fail
    try go_ret
    exact ⟨rfl, unhide HB6⟩
end Go.Proofs.Ytdcdgojcboinaaa
