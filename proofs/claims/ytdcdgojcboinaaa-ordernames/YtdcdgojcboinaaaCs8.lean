/-
  ORDERS: the edges of a graph, and its degeneracy, plain.
-/
import Derived.Test.YtdcdgojcboinaaaCs3
namespace Go.Proofs.Ytdcdgojcboinaaa
open Go.RowKit Go.Deep
set_option linter.unusedVariables false
section
variable {R : Nat} {st cols : List Int}

def sumN (f : Nat → Nat) : Nat → Nat
  | 0 => 0
  | k + 1 => sumN f k + f k
theorem sumN_le {f g : Nat → Nat} : ∀ k, (∀ i, i < k → f i ≤ g i) → sumN f k ≤ sumN g k
  | 0, _ => Nat.le_refl _
  | k + 1, h => Nat.add_le_add (sumN_le k (fun i hi => h i (by omega))) (h k (by omega))
theorem sumN_add (f g : Nat → Nat) : ∀ k, sumN (fun i => f i + g i) k = sumN f k + sumN g k
  | 0 => rfl
  | k + 1 => by
    simp only [sumN]
    rw [sumN_add f g k]
    omega
theorem sumN_one (a c : Nat) : ∀ k, sumN (fun u => if u = a then c else 0) k = if a < k then c else 0
  | 0 => by simp [sumN]
  | k + 1 => by
    simp only [sumN]
    rw [sumN_one a c k]
    by_cases e : k = a
    · subst e
      simp
    · rw [if_neg e]
      by_cases c1 : a < k
      · rw [if_pos c1, if_pos (by omega)]
        rfl
      · rw [if_neg c1, if_neg (by omega)]
theorem sumN_zero {f : Nat → Nat} : ∀ k, (∀ i, i < k → f i = 0) → sumN f k = 0
  | 0, _ => rfl
  | k + 1, h => by
    simp only [sumN]
    rw [sumN_zero k (fun i hi => h i (by omega)), h k (by omega)]
theorem sumN_const {f : Nat → Nat} {d : Nat} : ∀ k, (∀ i, i < k → f i ≤ d) → sumN f k ≤ d * k
  | 0, _ => Nat.zero_le _
  | k + 1, h => by
    simp only [sumN]
    rw [Nat.mul_add, Nat.mul_one]
    exact Nat.add_le_add (sumN_const k (fun i hi => h i (by omega))) (h k (by omega))
/-- Those of a list that are left, counted among all. -/
theorem sum_lf (g : Nat → Bool) : ∀ l : List Nat, sumN (fun u => if u ∈ l ∧ g u = false then 1 else 0) R ≤ lfN g l
  | [] => by
    rw [sumN_zero R (fun i _ => by simp)]
    exact Nat.zero_le _
  | a :: l => by
    have h1 : sumN (fun u => if u ∈ a :: l ∧ g u = false then 1 else 0) R ≤ sumN (fun u => (if u = a then (if g a = false then 1 else 0) else 0) + (if u ∈ l ∧ g u = false then 1 else 0)) R := sumN_le R (fun u _ => by
      by_cases e : u = a
      · subst e
        cases hu : g u
        · simp
        · simp
      · simp [e])
    rw [sumN_add, sumN_one] at h1
    have h2 := sum_lf g l
    have h3 : lfN g (a :: l) = lfN g l + (if g a = false then 1 else 0) := by
      unfold lfN
      rw [List.countP_cons]
      cases g a <;> rfl
    rw [h3]
    have h4 : (if a < R then (if g a = false then 1 else 0) else 0) ≤ (if g a = false then 1 else 0) := by
      by_cases c : a < R
      · rw [if_pos c]; exact Nat.le_refl _
      · rw [if_neg c]; exact Nat.zero_le _
    omega
/-- What is left of all degrees. -/
def tN (R : Nat) (st cols : List Int) (g : Nat → Bool) : Nat := sumN (fun u => if g u = true then 0 else lfN g (nbL st cols u)) R
theorem tN_step (hm : MayP (R : Int) (R : Int) st cols) (hg : GraP st cols R R) (g : Nat → Bool) {v : Nat} (hv : v < R) (hn : g v = false) : tN R st cols g ≤ tN R st cols (fun u => if u = v then true else g u) + 2 * lfN g (nbL st cols v) := by
  have h1 : tN R st cols g ≤ sumN (fun u => ((if (fun u => if u = v then true else g u) u = true then 0 else lfN (fun u => if u = v then true else g u) (nbL st cols u)) + (if u = v then lfN g (nbL st cols v) else 0)) + (if u ∈ nbL st cols v ∧ g u = false then 1 else 0)) R := sumN_le R (fun u hu => by
    by_cases e : u = v
    · subst e
      simp [hn]
    · cases hgu : g u
      · simp only [e, if_false, hgu]
        have := lfN_upd g v hn (nbL st cols u) (nb_nodup hm hu)
        obtain ⟨z, hz⟩ : ∃ z, lfN (fun u => if u = v then true else g u) (nbL st cols u) = z := ⟨_, rfl⟩
        rw [hz] at this ⊢
        have hs : v ∈ nbL st cols u ↔ u ∈ nbL st cols v := by
          rw [nb_mem hm hu, nb_mem hm hv]
          exact ⟨fun x => hg.2.1 _ _ hv hu x, fun x => hg.2.1 _ _ hu hv x⟩
        by_cases c : u ∈ nbL st cols v
        · rw [if_pos (hs.2 c)] at this
          simp [c]
          omega
        · rw [if_neg (fun x => c (hs.1 x))] at this
          simp [c]
          omega
      · simp [hgu])
  rw [sumN_add, sumN_add, sumN_one, if_pos hv] at h1
  have h2 := sum_lf (R := R) g (nbL st cols v)
  unfold tN at h1 ⊢
  omega
theorem tN_all (hm : MayP (R : Int) (R : Int) st cols) (hg : GraP st cols R R) : ∀ k, k ≤ R → tN R st cols (fun _ => false) ≤ tN R st cols (peS R (nbL st cols) (fun v => (rowL st cols v).length) k).1 + 2 * sumN (peC R (nbL st cols) (fun v => (rowL st cols v).length)) k
  | 0, _ => Nat.le_refl _
  | k + 1, hk => by
    have h1 := tN_all hm hg k (by omega)
    have hS := stp_all hm hg k (by omega)
    have h2 := tN_step hm hg _ hS.lt hS.new
    rw [← hS.is] at h2
    rw [peS_succ]
    show _ ≤ tN R st cols (peG R (nbL st cols) (fun v => (rowL st cols v).length) k) + _
    simp only [sumN]
    unfold peG
    omega
theorem deg_sum (hm : MayP (R : Int) (R : Int) st cols) : ∀ k, k ≤ R → (sumN (fun u => (nbL st cols u).length) k : Int) = st.getD k 0
  | 0, _ => by rw [hm.head.first]; rfl
  | k + 1, hk => by
    obtain ⟨X, Y, hR⟩ := hm.rowAt (k := k) (by omega)
    have hlen : (nbL st cols k).length = Y - X := by
      unfold nbL rowL
      rw [hR.hX, hR.hY, List.length_map, List.length_take, List.length_drop]
      have := hR.lt
      simp
      omega
    have h1 := deg_sum hm k (by omega)
    rw [hR.hX] at h1
    rw [hR.hY]
    simp only [sumN]
    rw [hlen]
    have := hR.le
    omega
/-- Twice the edges. -/
theorem edges_le (hm : MayP (R : Int) (R : Int) st cols) (hg : GraP st cols R R) : cols.length ≤ 2 * dgN R st cols * R := by
  have h1 := tN_all hm hg R (Nat.le_refl _)
  have h2 : tN R st cols (peS R (nbL st cols) (fun v => (rowL st cols v).length) R).1 = 0 := sumN_zero R (fun u hu => by
    obtain ⟨p, hp, e⟩ := pev_surj hm hg u hu
    rw [if_pos (((peW_all hm hg R (Nat.le_refl _)).gone u).2 ⟨p, hp, e⟩)])
  have h3 : sumN (peC R (nbL st cols) (fun v => (rowL st cols v).length)) R ≤ dgN R st cols * R := sumN_const R (fun i hi => moF_ge _ R i hi)
  have h4 := deg_sum hm R (Nat.le_refl _)
  have h5 := hm.head.last
  have h6 : tN R st cols (fun _ => false) = sumN (fun u => (nbL st cols u).length) R := by
    unfold tN
    congr 1
    funext u
    simp [lfN]
  rw [show ((R : Int)).toNat = R by omega] at h5
  rw [Nat.mul_assoc]
  omega
end
end Go.Proofs.Ytdcdgojcboinaaa

namespace Go.Proofs.Ytdcdgojcboinaaa
open Go.RowKit Go.Deep
set_option linter.unusedVariables false

theorem sumN_congr {f g : Nat → Nat} : ∀ k, (∀ i, i < k → f i = g i) → sumN f k = sumN g k
  | 0, _ => rfl
  | k + 1, h => by
    simp only [sumN]
    rw [sumN_congr k (fun i hi => h i (by omega)), h k (by omega)]
theorem sumN_swap (F : Nat → Nat → Nat) (m : Nat) : ∀ n, sumN (fun i => sumN (fun u => F i u) m) n = sumN (fun u => sumN (fun i => F i u) n) m
  | 0 => by
    simp only [sumN]
    exact (sumN_zero m (fun _ _ => rfl)).symm
  | n + 1 => by
    simp only [sumN]
    rw [sumN_swap F m n, ← sumN_add]
/-- A sum in another order. -/
theorem sumN_perm {R : Nat} {f : Nat → Nat} (hf : ∀ i, i < R → f i < R) (inj : ∀ i j, i < R → j < R → f i = f j → i = j) (h : Nat → Nat) : sumN (fun i => h (f i)) R = sumN h R := by
  have h1 : sumN (fun i => h (f i)) R = sumN (fun i => sumN (fun u => if u = f i then h u else 0) R) R := sumN_congr R (fun i hi => by
    have e : (fun u => if u = f i then h u else 0) = (fun u => if u = f i then h (f i) else 0) := by
      funext u
      by_cases c : u = f i
      · rw [if_pos c, if_pos c, c]
      · rw [if_neg c, if_neg c]
    rw [e, sumN_one, if_pos (hf i hi)])
  rw [h1, sumN_swap]
  refine sumN_congr R (fun u hu => ?_)
  obtain ⟨i0, hi0, e0⟩ := inj_surj R f hf inj u hu
  have e : sumN (fun i => if u = f i then h u else 0) R = sumN (fun i => if i = i0 then h u else 0) R := sumN_congr R (fun i hi => by
    by_cases c : i = i0
    · rw [if_pos c, if_pos (by rw [c, e0])]
    · rw [if_neg c, if_neg (fun x => c (inj i i0 hi hi0 (by rw [e0, ← x])))])
  rw [e, sumN_one, if_pos hi0]
/-- Those of a list that are left, counted among all. -/
theorem lf_sum {R : Nat} (g : Nat → Bool) : ∀ l : List Nat, l.Nodup → (∀ x ∈ l, x < R) → lfN g l = sumN (fun u => if u ∈ l ∧ g u = false then 1 else 0) R
  | [], _, _ => by
    rw [sumN_zero R (fun i _ => by simp)]
    rfl
  | a :: l, hn, hl => by
    have hn' := List.nodup_cons.1 hn
    have h1 : sumN (fun u => if u ∈ a :: l ∧ g u = false then 1 else 0) R = sumN (fun u => (if u = a then (if g a = false then 1 else 0) else 0) + (if u ∈ l ∧ g u = false then 1 else 0)) R := sumN_congr R (fun u _ => by
      by_cases e : u = a
      · subst e
        cases hu : g u
        · simp [hn'.1]
        · simp
      · simp [e])
    rw [h1, sumN_add, sumN_one, if_pos (hl a (by simp)), ← lf_sum g l hn'.2 (fun x hx => hl x (by simp [hx]))]
    unfold lfN
    rw [List.countP_cons]
    cases g a <;> simp <;> omega
/-- One graph is another one, with vertex f i called i. -/
structure RnP (R : Nat) (st cols st' cols' : List Int) (f : Nat → Nat) : Prop where
  hm : MayP (R : Int) (R : Int) st cols
  hg : GraP st cols R R
  hm' : MayP (R : Int) (R : Int) st' cols'
  hg' : GraP st' cols' R R
  lt : ∀ i, i < R → f i < R
  inj : ∀ i j, i < R → j < R → f i = f j → i = j
  nb : ∀ i k, i < R → k < R → (k ∈ nbL st' cols' i ↔ f k ∈ nbL st cols (f i))
section
variable {R : Nat} {st cols st' cols' : List Int} {f : Nat → Nat}
theorem RnP.lf (h : RnP R st cols st' cols' f) {g g' : Nat → Bool} {i : Nat} (hi : i < R) (hgg : ∀ k, k < R → g' k = g (f k)) : lfN g' (nbL st' cols' i) = lfN g (nbL st cols (f i)) := by
  rw [lf_sum (R := R) g' _ (nb_nodup h.hm' hi) (fun x hx => nb_lt h.hm' hi hx), lf_sum (R := R) g _ (nb_nodup h.hm (h.lt i hi)) (fun x hx => nb_lt h.hm (h.lt i hi) hx)]
  rw [← sumN_perm h.lt h.inj (fun u => if u ∈ nbL st cols (f i) ∧ g u = false then 1 else 0)]
  refine sumN_congr R (fun k hk => ?_)
  have := h.nb i k hi hk
  by_cases c : k ∈ nbL st' cols' i
  · simp [c, this.1 c, hgg k hk]
  · have c2 : f k ∉ nbL st cols (f i) := fun x => c (this.2 x)
    simp [c, c2]
theorem RnP.am (h : RnP R st cols st' cols' f) {T T' : Nat → Bool} {i : Nat} (hi : i < R) (hT : ∀ k, k < R → T' k = T (f k)) : amN T' (rowL st' cols' i) (rowL st' cols' i).length = amN T (rowL st cols (f i)) (rowL st cols (f i)).length := by
  rw [am_all h.hm' hi, am_all h.hm (h.lt i hi)]
  exact h.lf hi (fun k hk => by rw [hT k hk])
theorem RnP.inK (h : RnP R st cols st' cols' f) {k i : Nat} (hi : i < R) : InK R st' cols' k i ↔ InK R st cols k (f i) := by
  constructor
  · rintro ⟨T', hT, e⟩
    refine ⟨fun u => tb (∃ j, j < R ∧ f j = u ∧ T' j = true), fun v hv ev => ?_, ?_⟩
    · obtain ⟨j, hj, e1, e2⟩ := (show tb (∃ j, j < R ∧ f j = v ∧ T' j = true) = true ↔ _ from tb_iff).1 ev
      subst e1
      rw [← h.am (T' := T') hj (fun k hk => ?_)]
      · exact hT j hj e2
      · have : tb (∃ j, j < R ∧ f j = f k ∧ T' j = true) = true ↔ T' k = true := by
          rw [tb_iff]
          exact ⟨fun ⟨j, h1, h2, h3⟩ => by rw [← h.inj j k h1 hk h2]; exact h3, fun x => ⟨k, hk, rfl, x⟩⟩
        exact Bool.eq_iff_iff.2 this.symm
    · exact tb_iff.2 ⟨i, hi, rfl, e⟩
  · rintro ⟨T, hT, e⟩
    refine ⟨fun k => T (f k), fun v hv ev => ?_, e⟩
    rw [h.am (T := T) hv (fun _ _ => rfl)]
    exact hT _ (h.lt v hv) ev
theorem RnP.co (h : RnP R st cols st' cols' f) {i : Nat} (hi : i < R) : coV R st' cols' i = coV R st cols (f i) := by
  have key : ∀ k, 1 ≤ k → (k ≤ coV R st' cols' i ↔ k ≤ coV R st cols (f i)) := fun k hk => by
    rw [← inK_iff h.hm' h.hg' hk hi, ← inK_iff h.hm h.hg hk (h.lt i hi)]
    exact h.inK hi
  rcases Nat.lt_trichotomy (coV R st' cols' i) (coV R st cols (f i)) with c | c | c
  · have := (key _ (by omega)).2 (Nat.le_refl (coV R st cols (f i)))
    omega
  · exact c
  · have := (key _ (by omega)).1 (Nat.le_refl (coV R st' cols' i))
    omega
theorem RnP.dg (h : RnP R st cols st' cols' f) : dgN R st' cols' = dgN R st cols := by
  have h1 := core_most h.hm h.hg
  have h2 := core_most h.hm' h.hg'
  apply Nat.le_antisymm
  · rcases h2.2 with e | ⟨u, hu, e⟩
    · omega
    · rw [← e, h.co hu]
      exact h1.1 _ (h.lt u hu)
  · rcases h1.2 with e | ⟨u, hu, e⟩
    · omega
    · obtain ⟨i, hi, rfl⟩ := inj_surj R f h.lt h.inj u hu
      rw [← e, ← h.co hi]
      exact h2.1 _ hi
theorem RnP.pos (h : RnP R st cols st' cols' f) {xs ys : List Int} (hx : IsOrd xs R) (hy : IsOrd ys R) (he : ∀ j, j < R → ys.getD j 0 = (f (xs.getD j 0).toNat : Int)) {k : Nat} (hk : k < R) : posI xs R k = posI ys R (f k) := by
  obtain ⟨j, hj, e1, e2⟩ := hx.2.place hk
  rw [e2]
  have := posI_at hy.2 hj R hj (Nat.le_refl _)
  rw [he j hj, e1] at this
  simpa using this.symm
theorem RnP.bk (h : RnP R st cols st' cols' f) {xs ys : List Int} (hx : IsOrd xs R) (hy : IsOrd ys R) (he : ∀ j, j < R → ys.getD j 0 = (f (xs.getD j 0).toNat : Int)) {i : Nat} (hi : i < R) : bkO xs st' cols' R i = bkO ys st cols R (f i) := by
  rw [bk_lf h.hm' xs hi, bk_lf h.hm ys (h.lt i hi)]
  exact h.lf hi (fun k hk => by rw [h.pos hx hy he hk, h.pos hx hy he hi])
end
end Go.Proofs.Ytdcdgojcboinaaa
