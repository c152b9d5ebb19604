/-
  ORDERS: order.peel, plain, and what it begins with.
-/
import Derived.Test.YtdcdgojcboinaaaCp9
namespace Go.Proofs.Ytdcdgojcboinaaa
open Go.Shelf Go.RowKit Go.Deep
set_option linter.unusedVariables false

/-- slices.Reverse of a row of one's own. -/
theorem orev_any (g R : Nat) (f : Nat → Int) (w : World) (h : RoV w g R (fun i => .int .i64 (f i))) (hg : g < w.heap.size) (hR : R ≤ 128) :
    Calls Try.prog 38 #[.slice (some ⟨g, 0, none⟩) R R] w fun e w' => e = .returned (.tuple #[]) ∧ RoV w' g R (fun i => .int .i64 (f (R - 1 - i))) ∧ Chg (fun j => j = g) w w' := by
  have hl : ((List.range R).map f).length = R := by simp
  have hH : Sort.Holds (Value.int .i64) w g 0 ((List.range R).map f).toArray := fun j hj => by
    have hj' : j < R := by simpa using hj
    refine ⟨?_, by rw [Nat.zero_add]; exact (h j hj').2⟩
    rw [Nat.zero_add, (h j hj').1]
    simp [getElem!_pos, hj']
  have K := Any.slices_Reverse_int shRev g 0 R ((List.range R).map f) w hH (by rw [hl]; omega)
  rw [hl] at K
  refine Calls.mono K ?_
  rintro e w' ⟨he, q, rfl⟩
  have hsz : ((List.range R).map f).reverse.toArray.size = ((List.range R).map f).toArray.size := by simp
  have hN := Sort.holds_putRow (Value.int .i64) (Sort.ahead w q) g 0 _ _ (Sort.holds_ahead (Value.int .i64) w q g 0 _ hH) hsz
  refine ⟨he, fun i hi => ?_, Chg.of_putRow (S := fun j => j = g) w q g 0 _ rfl⟩
  have h1 := hN i (by simpa using hi)
  rw [Nat.zero_add] at h1
  refine ⟨h1.1.trans ?_, h1.2⟩
  simp [getElem!_pos, hi]
/-- The neighbours, as plain numbers. -/
def nbL (st cols : List Int) (v : Nat) : List Nat := (rowL st cols v).map Int.toNat
/-- Ranks fall with the numbers. -/
def brF (R : Nat) (r : Nat) : Nat := R - 1 - r
/-- What is left, and the counts, ahead of step k. -/
def peS (R : Nat) (nb : Nat → List Nat) (dg : Nat → Nat) : Nat → (Nat → Bool) × (Nat → Nat)
  | 0 => (fun _ => false, dg)
  | k + 1 =>
    let s := peS R nb dg k
    let v := brF R (lowR R (brF R) s.1 s.2 (lowC R (brF R) s.1 s.2))
    (fun u => if u = v then true else s.1 u, (nb v).foldl (fun ct u => decF (fun u => if u = v then true else s.1 u) u ct) s.2)
/-- The count and the vertex of step k. -/
def peC (R : Nat) (nb : Nat → List Nat) (dg : Nat → Nat) (k : Nat) : Nat := lowC R (brF R) (peS R nb dg k).1 (peS R nb dg k).2
def peV (R : Nat) (nb : Nat → List Nat) (dg : Nat → Nat) (k : Nat) : Nat := brF R (lowR R (brF R) (peS R nb dg k).1 (peS R nb dg k).2 (peC R nb dg k))
def peG (R : Nat) (nb : Nat → List Nat) (dg : Nat → Nat) (k : Nat) : Nat → Bool := fun u => if u = peV R nb dg k then true else (peS R nb dg k).1 u
/-- The counts within step k, behind i neighbours. -/
def peT (R : Nat) (nb : Nat → List Nat) (dg : Nat → Nat) (k i : Nat) : Nat → Nat := ((nb (peV R nb dg k)).take i).foldl (fun ct u => decF (peG R nb dg k) u ct) (peS R nb dg k).2
/-- Step k can be done. -/
structure PeO (R : Nat) (nb : Nat → List Nat) (dg : Nat → Nat) (k : Nat) : Prop where
  ex : ∃ r, r < R ∧ (peS R nb dg k).1 (brF R r) = false ∧ (peS R nb dg k).2 (brF R r) < R
  ct : ∀ v, v < R → (peS R nb dg k).2 v < R
  ok : ∀ i u, (nb (peV R nb dg k))[i]? = some u → peG R nb dg k u = false → 1 ≤ peT R nb dg k i u
theorem peS_succ (R : Nat) (nb : Nat → List Nat) (dg : Nat → Nat) (k : Nat) : peS R nb dg (k + 1) = (peG R nb dg k, peT R nb dg k (nb (peV R nb dg k)).length) := by
  unfold peT
  rw [List.take_length]
  rfl
theorem peT_zero (R : Nat) (nb : Nat → List Nat) (dg : Nat → Nat) (k : Nat) : peT R nb dg k 0 = (peS R nb dg k).2 := by
  unfold peT
  simp
theorem peT_succ (R : Nat) (nb : Nat → List Nat) (dg : Nat → Nat) (k i u : Nat) (h : (nb (peV R nb dg k))[i]? = some u) : peT R nb dg k (i + 1) = decF (peG R nb dg k) u (peT R nb dg k i) := by
  unfold peT
  rw [List.take_add_one, h]
  simp
theorem decF_le (g : Nat → Bool) (u : Nat) (ct : Nat → Nat) (x : Nat) : decF g u ct x ≤ ct x := by
  unfold decF
  split
  · rename_i h; rw [h.1]; omega
  · exact Nat.le_refl _
theorem peT_le (R : Nat) (nb : Nat → List Nat) (dg : Nat → Nat) (k x : Nat) : ∀ i, i ≤ (nb (peV R nb dg k)).length → peT R nb dg k i x ≤ (peS R nb dg k).2 x
  | 0, _ => by rw [peT_zero]; exact Nat.le_refl _
  | i + 1, h => by
    rw [peT_succ R nb dg k i _ (List.getElem?_eq_getElem (by omega))]
    exact Nat.le_trans (decF_le _ _ _ _) (peT_le R nb dg k x i (by omega))
theorem brF_inj (R a b : Nat) (ha : a < R) (hb : b < R) (h : brF R a = brF R b) : a = b := by unfold brF at h; omega
theorem brF_lt (R i : Nat) (h : i < R) : brF R i < R := by unfold brF; omega
theorem brF_brF (R i : Nat) (h : i < R) : brF R (brF R i) = i := by unfold brF; omega
/-- What fill leaves, by what is left and by counts. -/
theorem FlP.buq {n g0 g1 : Nat} {br ct : Nat → Nat} {w w' : World} {e : Ending} (h : FlP n g0 g1 br ct w w' e) (h0 : RoV w g0 n (fun i => .int .i64 (br i : Int))) (h1 : RoV w g1 n (fun i => .int .i64 (ct i : Int))) (hl0 : g0 < w.heap.size) (hl1 : g1 < w.heap.size) (hne : g0 ≠ g1) :
    ∃ X gr gk gg t, e = .returned (.pointer (some ⟨X, 0, none⟩)) ∧ BuQ (fun _ => False) w' t X g0 gr g1 gk gg n br (rkF br n) ct (fun _ => false) ∧ (w.heap.size ≤ gk ∧ w.heap.size ≤ gg ∧ w.heap.size ≤ t) ∧ Below w.heap.size w w' := by
  obtain ⟨X, gr, gk, gg, t, f, rfl, hX, hR, hL, hG, ne, lo, lt, ht, hB⟩ := h
  refine ⟨X, gr, gk, gg, t, rfl, ⟨f, ⟨hX, h0.below hB, hR, h1.below hB, (BnI.of_lnI hL).congr (fun c hc => ?_), hG, ⟨by omega, by omega, by omega, by omega, by omega⟩, by omega, ht, fun j hj => hj.elim⟩⟩, by omega, hB⟩
  rw [bkF_fil]
  refine filL_congr (fun q hq => ?_)
  simp [bP]
/-- The buckets, while other rows grow. -/
theorem BuQ.move {A B S : Nat → Prop} {W W' : World} {t X g0 gr gc gk gg n : Nat} {br : Nat → Nat} {rk : Nat → Int} {ct : Nat → Nat} {gone : Nat → Bool} (h : BuQ A W t X g0 gr gc gk gg n br rk ct gone) (k : Chg S W W') (h1 : ∀ j, j < t → ¬ S j) (h2 : ∀ j, t ≤ j → j < W.heap.size → ¬ A j → ¬ S j ∧ ¬ B j) (h3 : ∀ j, B j → j < W'.heap.size) : BuQ B W' t X g0 gr gc gk gg n br rk ct gone := by
  obtain ⟨f, h⟩ := h
  have hl := h.lt
  refine ⟨f, ⟨h.box.chg k (h1 _ hl.1.1), h.r0.chg k (h1 _ hl.1.2.1), h.rr.chg k (h1 _ hl.1.2.2), h.rc.chg k (h1 _ hl.2.1), ⟨h.bk.row.chg k (h1 _ hl.2.2.1), fun r hr => ?_, h.bk.apart⟩, h.gn.chg k (h1 _ hl.2.2.2), h.ne, h.lt, Nat.le_trans h.ht k.size, h3⟩⟩
  have ho := h.bk.own r hr
  exact (ho.chg k (fun j hj => (h2 j (ho.ge j hj).1 (ho.ge j hj).2 (ho.na j hj)).1)).re (fun j hj => (h2 j (ho.ge j hj).1 (ho.ge j hj).2 (ho.na j hj)).2)
theorem BuQ.lts {A : Nat → Prop} {W : World} {t X g0 gr gc gk gg n : Nat} {br : Nat → Nat} {rk : Nat → Int} {ct : Nat → Nat} {gone : Nat → Bool} (h : BuQ A W t X g0 gr gc gk gg n br rk ct gone) : (gc < t ∧ gk < t ∧ gg < t) ∧ t ≤ W.heap.size := by
  obtain ⟨f, h⟩ := h
  exact ⟨h.lt.2, h.ht⟩
theorem nbL_at {st cols : List Int} {R : Nat} (hm : MayP (R : Int) (R : Int) st cols) {v i : Nat} (hv : v < R) (hi : i < (rowL st cols v).length) : ∃ u : Nat, (rowL st cols v).getD i 0 = (u : Int) ∧ u < R ∧ (nbL st cols v)[i]? = some u := by
  obtain ⟨X, Y, hR⟩ := hm.rowAt (k := v) (by omega)
  have e : rowL st cols v = (cols.drop X).take (Y - X) := by unfold rowL; rw [hR.hX, hR.hY]; simp
  have hg : (rowL st cols v).getD i 0 = cols.getD (X + i) 0 := by
    rw [e]
    rw [e] at hi
    have : i < Y - X := by rw [List.length_take] at hi; omega
    simp [List.getD, List.getElem?_take_of_lt this, List.getElem?_drop]
  have hr := hR.row.rng (X + i) (by omega) (by rw [e, List.length_take] at hi; have := hR.le; omega)
  refine ⟨(cols.getD (X + i) 0).toNat, by rw [hg]; omega, by omega, ?_⟩
  unfold nbL
  rw [List.getElem?_map, List.getElem?_eq_getElem hi]
  have h2 : (rowL st cols v)[i] = (rowL st cols v).getD i 0 := by simp [List.getD, List.getElem?_eq_getElem hi]
  rw [h2, hg]
  rfl
end Go.Proofs.Ytdcdgojcboinaaa
