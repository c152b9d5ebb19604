/-
  ORDERS: peeling a graph never stands still, plain.
-/
import Derived.Test.YtdcdgojcboinaaaCq1
namespace Go.Proofs.Ytdcdgojcboinaaa
open Go.RowKit Go.Deep
set_option linter.unusedVariables false

/-- Counts that fall by one, along a list without repeats. -/
theorem decs_at (g : Nat → Bool) (x : Nat) : ∀ (l : List Nat) (ct : Nat → Nat), l.Nodup → (l.foldl (fun c u => decF g u c) ct) x = if x ∈ l ∧ g x = false then ct x - 1 else ct x
  | [], ct, _ => by simp
  | u :: l, ct, h => by
    have hn := List.nodup_cons.1 h
    simp only [List.foldl_cons]
    rw [decs_at g x l _ hn.2]
    unfold decF
    by_cases e : x = u
    · subst e
      have : ¬ x ∈ l := hn.1
      by_cases hg : g x = false
      · simp [this, hg]
      · simp [this, hg]
    · by_cases hm : x ∈ l ∧ g x = false
      · simp [e, hm]
      · have : ¬ ((x = u ∨ x ∈ l) ∧ g x = false) := fun ⟨h1, h2⟩ => h1.elim e (fun h3 => hm ⟨h3, h2⟩)
        simp only [List.mem_cons]
        rw [if_neg hm, if_neg this, if_neg (fun h => e h.1)]
/-- How many are left of a list. -/
def lfN (g : Nat → Bool) (l : List Nat) : Nat := l.countP (fun y => !g y)
theorem lfN_upd (g : Nat → Bool) (v : Nat) (hv : g v = false) : ∀ (l : List Nat), l.Nodup → lfN g l = lfN (fun u => if u = v then true else g u) l + (if v ∈ l then 1 else 0)
  | [], _ => by simp [lfN]
  | u :: l, h => by
    have hn := List.nodup_cons.1 h
    have ih := lfN_upd g v hv l hn.2
    unfold lfN at *
    rw [List.countP_cons, List.countP_cons]
    by_cases e : u = v
    · subst e
      have : ¬ u ∈ l := hn.1
      simp only [this, if_false, Nat.add_zero] at ih
      simp [hv, ih]
    · have e2 : ¬ v = u := fun x => e x.symm
      have ih2 : l.countP (fun y => !g y) = l.countP (fun y => !if y = v then true else g y) + (if v ∈ l then 1 else 0) := ih
      simp only [List.mem_cons, e2, false_or, if_neg e]
      omega
theorem lfN_pos {g : Nat → Bool} {v : Nat} {l : List Nat} (hv : g v = false) (hm : v ∈ l) : 1 ≤ lfN g l := by
  unfold lfN
  exact List.countP_pos_iff.2 ⟨v, hm, by simp [hv]⟩
theorem nb_at {st cols : List Int} {R v : Nat} (hm : MayP (R : Int) (R : Int) st cols) (hv : v < R) : ∀ i, i < (nbL st cols v).length → ((nbL st cols v).getD i 0 : Int) = (rowL st cols v).getD i 0 ∧ (nbL st cols v).getD i 0 < R := fun i hi => by
  have hl : (nbL st cols v).length = (rowL st cols v).length := by simp [nbL]
  obtain ⟨u, h1, h2, h3⟩ := nbL_at hm hv (i := i) (by omega)
  rw [List.getD, h3, h1]
  exact ⟨rfl, h2⟩
theorem nb_up {st cols : List Int} {R v : Nat} (hm : MayP (R : Int) (R : Int) st cols) (hv : v < R) {i j : Nat} (hij : i < j) (hj : j < (nbL st cols v).length) : (nbL st cols v).getD i 0 < (nbL st cols v).getD j 0 := by
  obtain ⟨X, Y, hR⟩ := hm.rowAt (k := v) (by omega)
  have e : rowL st cols v = (cols.drop X).take (Y - X) := by unfold rowL; rw [hR.hX, hR.hY]; simp
  have hl : (nbL st cols v).length = (rowL st cols v).length := by simp [nbL]
  have hl2 : (rowL st cols v).length = Y - X := by rw [e, List.length_take, List.length_drop]; have := hR.lt; omega
  have h1 := (nb_at hm hv i (by omega)).1
  have h2 := (nb_at hm hv j hj).1
  have hu := hR.up.lt' (i := i) (j := j) hij (by omega)
  rw [← e] at hu
  omega
theorem nb_nodup {st cols : List Int} {R v : Nat} (hm : MayP (R : Int) (R : Int) st cols) (hv : v < R) : (nbL st cols v).Nodup := by
  rw [List.nodup_iff_pairwise_ne, List.pairwise_iff_getElem]
  intro i j hi hj hij
  have h := nb_up hm hv hij hj
  simp only [List.getD, List.getElem?_eq_getElem hi, List.getElem?_eq_getElem hj, Option.getD_some] at h
  omega
theorem nb_mem {st cols : List Int} {R v u : Nat} (hm : MayP (R : Int) (R : Int) st cols) (hv : v < R) : u ∈ nbL st cols v ↔ InC st cols u v := by
  rw [← rowL_mem hm hv]
  unfold nbL
  rw [List.mem_map]
  constructor
  · rintro ⟨y, hy, rfl⟩
    obtain ⟨i, hi, e⟩ := mem_getD.1 hy
    obtain ⟨z, h1, _, _⟩ := nbL_at hm hv hi
    rw [h1] at e
    rw [← e]
    simpa [← e] using hy
  · intro h
    exact ⟨_, h, by omega⟩
theorem nb_lt {st cols : List Int} {R v u : Nat} (hm : MayP (R : Int) (R : Int) st cols) (hv : v < R) (h : u ∈ nbL st cols v) : u < R := by
  obtain ⟨i, hi, e⟩ := List.getElem_of_mem h
  have := (nb_at hm hv i hi).2
  simp only [List.getD, List.getElem?_eq_getElem hi, Option.getD_some] at this
  omega
theorem up_ge {l : List Nat} (h : ∀ i j, i < j → j < l.length → l.getD i 0 < l.getD j 0) : ∀ i, i < l.length → i ≤ l.getD i 0
  | 0, _ => Nat.zero_le _
  | i + 1, hi => by
    have := up_ge h i (by omega)
    have := h i (i + 1) (by omega) hi
    omega
theorem up_le {l : List Nat} {R : Nat} (h : ∀ i j, i < j → j < l.length → l.getD i 0 < l.getD j 0) (hR : ∀ i, i < l.length → l.getD i 0 < R) : ∀ d i, i + d + 1 = l.length → l.getD i 0 + d < R
  | 0, i, e => by have := hR i (by omega); omega
  | d + 1, i, e => by
    have := up_le h hR d (i + 1) (by omega)
    have := h i (i + 1) (by omega) (by omega)
    omega
/-- A vertex of a graph has fewer neighbours than there are vertices. -/
theorem deg_lt {st cols : List Int} {R v : Nat} (hm : MayP (R : Int) (R : Int) st cols) (hg : GraP st cols R R) (hv : v < R) : (rowL st cols v).length < R := by
  have hl : (nbL st cols v).length = (rowL st cols v).length := by simp [nbL]
  rw [← hl]
  apply Nat.lt_of_not_le
  intro hle
  have hup : ∀ i j, i < j → j < (nbL st cols v).length → (nbL st cols v).getD i 0 < (nbL st cols v).getD j 0 := fun i j h1 h2 => nb_up hm hv h1 h2
  have h1 := up_ge hup v (by omega)
  have h2 := up_le hup (fun i hi => (nb_at hm hv i hi).2) ((nbL st cols v).length - 1 - v) v (by omega)
  have h3 : (nbL st cols v).getD v 0 = v := by omega
  have h4 : v ∈ nbL st cols v := by
    have hvl : v < (nbL st cols v).length := by omega
    simp only [List.getD, List.getElem?_eq_getElem hvl, Option.getD_some] at h3
    have := List.getElem_mem hvl
    rw [h3] at this
    exact this
  exact hg.2.2 ⟨v, hv, (nb_mem hm hv).1 h4⟩
/-- No list of fewer than R things has all things below R. -/
theorem few_not_all {R k : Nat} (f : Nat → Nat) (h : ∀ u, u < R → ∃ i, i < k ∧ f i = u) : R ≤ k := by
  apply Nat.le_of_not_lt
  intro hk
  have hc : ∀ u, ∃ i, u < R → i < k ∧ f i = u := fun u => by
    by_cases hu : u < R
    · obtain ⟨i, h1, h2⟩ := h u hu
      exact ⟨i, fun _ => ⟨h1, h2⟩⟩
    · exact ⟨0, fun x => absurd x hu⟩
  obtain ⟨g, hg⟩ := Classical.axiomOfChoice hc
  obtain ⟨u, hu, e⟩ := inj_surj R g (fun u hu => Nat.lt_trans (hg u hu).1 hk) (fun a b ha hb e => by
    have h1 := (hg a ha).2
    have h2 := (hg b hb).2
    rw [← h1, ← h2, e]) k hk
  have := (hg u hu).1
  omega
/-- What holds ahead of step k. -/
structure PeW (R : Nat) (st cols : List Int) (dg : Nat → Nat) (k : Nat) : Prop where
  gone : ∀ u, (peS R (nbL st cols) dg k).1 u = true ↔ ∃ i, i < k ∧ peV R (nbL st cols) dg i = u
  ct : ∀ u, u < R → (peS R (nbL st cols) dg k).1 u = false → (peS R (nbL st cols) dg k).2 u = lfN (peS R (nbL st cols) dg k).1 (nbL st cols u)
  le : ∀ u, (peS R (nbL st cols) dg k).2 u ≤ dg u
theorem peW_peO {R k : Nat} {st cols : List Int} (hm : MayP (R : Int) (R : Int) st cols) (hg : GraP st cols R R) (hk : k < R) (h : PeW R st cols (fun v => (rowL st cols v).length) k) : PeO R (nbL st cols) (fun v => (rowL st cols v).length) k := by
  have hlt : ∀ v, v < R → (peS R (nbL st cols) (fun v => (rowL st cols v).length) k).2 v < R := fun v hv => Nat.lt_of_le_of_lt (h.le v) (deg_lt hm hg hv)
  have hex : ∃ r, r < R ∧ (peS R (nbL st cols) (fun v => (rowL st cols v).length) k).1 (brF R r) = false ∧ (peS R (nbL st cols) (fun v => (rowL st cols v).length) k).2 (brF R r) < R := by
    apply Classical.byContradiction
    intro hno
    have : R ≤ k := few_not_all (peV R (nbL st cols) (fun v => (rowL st cols v).length)) (fun u hu => by
      apply (h.gone u).1
      cases hc : (peS R (nbL st cols) (fun v => (rowL st cols v).length) k).1 u with
      | true => rfl
      | false =>
        exact absurd ⟨brF R u, brF_lt R u hu, by rw [brF_brF R u hu]; exact hc, by rw [brF_brF R u hu]; exact hlt u hu⟩ hno)
    omega
  have hlow := low_is hex
  have hvR : peV R (nbL st cols) (fun v => (rowL st cols v).length) k < R := brF_lt R _ hlow.rn
  have hval : (peS R (nbL st cols) (fun v => (rowL st cols v).length) k).1 (peV R (nbL st cols) (fun v => (rowL st cols v).length) k) = false := by
    have := hlow.is
    unfold bP at this
    simp at this
    exact this.1
  refine ⟨hex, hlt, fun i u hu hgu => ?_⟩
  obtain ⟨v, hv⟩ : ∃ v, peV R (nbL st cols) (fun v => (rowL st cols v).length) k = v := ⟨_, rfl⟩
  have hnd := nb_nodup hm hvR
  have hmem := List.mem_of_getElem? hu
  have huR := nb_lt hm hvR hmem
  have hgu2 : (peS R (nbL st cols) (fun v => (rowL st cols v).length) k).1 u = false := by
    unfold peG at hgu
    by_cases e : u = peV R (nbL st cols) (fun v => (rowL st cols v).length) k
    · rw [if_pos e] at hgu; cases hgu
    · rw [if_neg e] at hgu; exact hgu
  have hnt : ¬ u ∈ (nbL st cols (peV R (nbL st cols) (fun v => (rowL st cols v).length) k)).take i := fun hin => by
    obtain ⟨j, hj, e⟩ := List.getElem_of_mem hin
    rw [List.length_take] at hj
    rw [List.getElem_take] at e
    obtain ⟨hi, e2⟩ := List.getElem?_eq_some_iff.1 hu
    have := (List.nodup_iff_pairwise_ne.1 hnd)
    rw [List.pairwise_iff_getElem] at this
    exact this j i (by omega) hi (by omega) (e.trans e2.symm)
  unfold peT
  rw [decs_at _ _ _ _ (List.Nodup.sublist (List.take_sublist _ _) hnd), if_neg (fun x => hnt x.1), h.ct u huR hgu2]
  refine lfN_pos hval ?_
  rw [nb_mem hm huR]
  exact hg.2.1 _ _ huR hvR ((nb_mem hm hvR).1 hmem)
theorem peW_all {R : Nat} {st cols : List Int} (hm : MayP (R : Int) (R : Int) st cols) (hg : GraP st cols R R) : ∀ k, k ≤ R → PeW R st cols (fun v => (rowL st cols v).length) k
  | 0, _ => ⟨fun u => ⟨fun e => by simp [peS] at e, fun ⟨i, hi, _⟩ => absurd hi (Nat.not_lt_zero i)⟩, fun u _ _ => by
      show (rowL st cols u).length = lfN (fun _ => false) (nbL st cols u)
      unfold lfN nbL
      rw [List.countP_map]
      simp, fun u => Nat.le_refl _⟩
  | k + 1, hk => by
    have h := peW_all hm hg k (by omega)
    have hO := peW_peO hm hg (by omega) h
    have hlow := low_is hO.ex
    have hvR : peV R (nbL st cols) (fun v => (rowL st cols v).length) k < R := brF_lt R _ hlow.rn
    have hval : (peS R (nbL st cols) (fun v => (rowL st cols v).length) k).1 (peV R (nbL st cols) (fun v => (rowL st cols v).length) k) = false := by
      have := hlow.is
      unfold bP at this
      simp at this
      exact this.1
    have hnd := nb_nodup hm hvR
    refine ⟨fun u => ?_, fun u hu hgu => ?_, fun u => ?_⟩
    · rw [peS_succ]
      show peG R (nbL st cols) _ k u = true ↔ _
      unfold peG
      by_cases e : u = peV R (nbL st cols) (fun v => (rowL st cols v).length) k
      · rw [if_pos e]
        exact ⟨fun _ => ⟨k, by omega, e.symm⟩, fun _ => rfl⟩
      · rw [if_neg e, h.gone u]
        exact ⟨fun ⟨i, h1, h2⟩ => ⟨i, by omega, h2⟩, fun ⟨i, h1, h2⟩ => ⟨i, by
          have : i ≠ k := fun x => e (by rw [← h2, x])
          omega, h2⟩⟩
    · rw [peS_succ] at hgu ⊢
      have hgu' : peG R (nbL st cols) (fun v => (rowL st cols v).length) k u = false := hgu
      have hne : u ≠ peV R (nbL st cols) (fun v => (rowL st cols v).length) k := fun e => by
        unfold peG at hgu'
        rw [if_pos e] at hgu'
        cases hgu'
      have hgu2 : (peS R (nbL st cols) (fun v => (rowL st cols v).length) k).1 u = false := by
        unfold peG at hgu'
        rw [if_neg hne] at hgu'
        exact hgu'
      show peT R (nbL st cols) _ k _ u = lfN (peG R (nbL st cols) _ k) (nbL st cols u)
      unfold peT
      rw [List.take_length, decs_at _ _ _ _ hnd, h.ct u hu hgu2, lfN_upd _ _ hval _ (nb_nodup hm hu)]
      have hsym : u ∈ nbL st cols (peV R (nbL st cols) (fun v => (rowL st cols v).length) k) ↔ peV R (nbL st cols) (fun v => (rowL st cols v).length) k ∈ nbL st cols u := by
        rw [nb_mem hm hvR, nb_mem hm hu]
        exact ⟨fun x => hg.2.1 _ _ hu hvR x, fun x => hg.2.1 _ _ hvR hu x⟩
      by_cases hin : u ∈ nbL st cols (peV R (nbL st cols) (fun v => (rowL st cols v).length) k)
      · rw [if_pos ⟨hin, hgu'⟩, if_pos (hsym.1 hin)]
        rfl
      · rw [if_neg (fun x => hin x.1), if_neg (fun x => hin (hsym.2 x))]
        rfl
    · rw [peS_succ]
      exact Nat.le_trans (peT_le R (nbL st cols) _ k u _ (Nat.le_refl _)) (h.le u)
/-- Every step of peeling a graph can be done. -/
theorem peO_all {R : Nat} {st cols : List Int} (hm : MayP (R : Int) (R : Int) st cols) (hg : GraP st cols R R) : ∀ k, k < R → PeO R (nbL st cols) (fun v => (rowL st cols v).length) k := fun k hk => peW_peO hm hg hk (peW_all hm hg k (by omega))
end Go.Proofs.Ytdcdgojcboinaaa
