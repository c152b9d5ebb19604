/-
  ORDERS: what OrderSmallest is worth, plain.
-/
import Derived.Test.YtdcdgojcboinaaaCpc
import Derived.Test.YtdcdgojcboinaaaCr4
import Derived.Test.YtdcdgojcboinaaaCq8
namespace Go.Proofs.Ytdcdgojcboinaaa
open Go.RowKit Go.Deep
set_option linter.unusedVariables false
section
variable {R : Nat} {st cols : List Int}

/-- The degeneracy, by peeling. -/
def dgN (R : Nat) (st cols : List Int) : Nat := moF (peC R (nbL st cols) (fun v => (rowL st cols v).length)) R
theorem smL_len : (smL R st cols).length = R := by simp [smL, peL]
theorem smL_at {i : Nat} (hi : i < R) : (smL R st cols).getD i 0 = (peV R (nbL st cols) (fun v => (rowL st cols v).length) (R - 1 - i) : Int) := by
  simp [smL, peL, List.getD, hi]
theorem smL_ord (hm : MayP (R : Int) (R : Int) st cols) (hg : GraP st cols R R) : IsOrd (smL R st cols) R := by
  refine ⟨smL_len, fun j hj => ?_, fun i j hij hj e => ?_⟩
  · rw [smL_at hj]
    have := (stp_all hm hg (R - 1 - j) (by omega)).lt
    omega
  · rw [smL_at hj, smL_at (by omega)] at e
    have := pev_inj hm hg (R - 1 - i) (R - 1 - j) (by omega) (by omega) (by omega)
    omega
theorem smL_pos (hm : MayP (R : Int) (R : Int) st cols) (hg : GraP st cols R R) {p : Nat} (hp : p < R) : posI (smL R st cols) R (peV R (nbL st cols) (fun v => (rowL st cols v).length) p) = ((R - 1 - p : Nat) : Int) := by
  have h := posI_at (smL_ord hm hg).2 (j := R - 1 - p) (by omega) R (by omega) (Nat.le_refl _)
  rw [smL_at (by omega), show R - 1 - (R - 1 - p) = p by omega] at h
  simpa using h
theorem ba_am (pl : Nat → Int) (l : List Int) (y : Int) : ∀ i, baN pl l y i = amN (fun v => decide (pl v < y)) l i
  | 0 => rfl
  | i + 1 => by
    simp only [baN, amN]
    rw [ba_am pl l y i]
    simp
theorem bk_lf (hm : MayP (R : Int) (R : Int) st cols) (xs : List Int) {u : Nat} (hu : u < R) : bkO xs st cols R u = lfN (fun y => !decide (posI xs R y < posI xs R u)) (nbL st cols u) := by
  unfold bkO
  rw [ba_am, am_all hm hu]
theorem nb_irr (hm : MayP (R : Int) (R : Int) st cols) (hg : GraP st cols R R) {u : Nat} (hu : u < R) : u ∉ nbL st cols u := fun h => hg.2.2 ⟨u, hu, (nb_mem hm hu).1 h⟩
/-- In OrderSmallest a vertex has as many neighbours ahead as it had when it was taken. -/
theorem bk_small (hm : MayP (R : Int) (R : Int) st cols) (hg : GraP st cols R R) {p : Nat} (hp : p < R) : bkO (smL R st cols) st cols R (peV R (nbL st cols) (fun v => (rowL st cols v).length) p) = peC R (nbL st cols) (fun v => (rowL st cols v).length) p := by
  have hS := stp_all hm hg p hp
  rw [bk_lf hm _ hS.lt, hS.is]
  have key : ∀ y ∈ nbL st cols (peV R (nbL st cols) (fun v => (rowL st cols v).length) p), ((peS R (nbL st cols) (fun v => (rowL st cols v).length) p).1 y = true ↔ (!decide (posI (smL R st cols) R y < posI (smL R st cols) R (peV R (nbL st cols) (fun v => (rowL st cols v).length) p))) = true) := fun y hy => by
    have hyR := nb_lt hm hS.lt hy
    have hne : y ≠ peV R (nbL st cols) (fun v => (rowL st cols v).length) p := fun e => nb_irr hm hg hS.lt (by rw [← e] at hy ⊢; exact hy)
    obtain ⟨q, hq, rfl⟩ := pev_surj hm hg y hyR
    have hqp : q ≠ p := fun e => hne (by rw [e])
    rw [smL_pos hm hg hq, smL_pos hm hg hp, (peW_all hm hg p (by omega)).gone]
    simp only [Bool.not_eq_true', decide_eq_false_iff_not]
    constructor
    · rintro ⟨i, hi, e⟩
      have := pev_inj hm hg i q (by omega) hq e
      omega
    · intro h
      exact ⟨q, by omega, rfl⟩
  exact Nat.le_antisymm (lfN_mono (fun y hy h => (key y hy).1 h)) (lfN_mono (fun y hy h => (key y hy).2 h))
theorem last_of {P : Nat → Prop} : ∀ n, (∃ p, p < n ∧ P p) → ∃ p, p < n ∧ P p ∧ ∀ q, p < q → q < n → ¬ P q
  | 0, ⟨p, h, _⟩ => absurd h (Nat.not_lt_zero _)
  | n + 1, ⟨p, h, hP⟩ => by
    by_cases c : P n
    · exact ⟨n, by omega, c, fun q h1 h2 => by omega⟩
    · have hpn : p ≠ n := fun e => c (e ▸ hP)
      obtain ⟨k, h1, h2, h3⟩ := last_of n ⟨p, by omega, hP⟩
      exact ⟨k, by omega, h2, fun q h4 h5 hq => by
        rcases Nat.lt_or_ge q n with h6 | h6
        · exact h3 q h4 h6 hq
        · exact c ((show q = n by omega) ▸ hq)⟩
/-- No order has a lesser back. -/
theorem bk_ge (hm : MayP (R : Int) (R : Int) st cols) (hg : GraP st cols R R) {xs : List Int} (ho : IsOrd xs R) : dgN R st cols = 0 ∨ ∃ u, u < R ∧ dgN R st cols ≤ bkO xs st cols R u := by
  unfold dgN
  rcases moF_at (peC R (nbL st cols) (fun v => (rowL st cols v).length)) R with e | ⟨i, hi, e⟩
  · exact .inl e
  · refine .inr ?_
    rw [← e]
    have hS := stp_all hm hg i hi
    obtain ⟨p0, hp0, e0, _⟩ := thg_place ho.2 hS.lt
    obtain ⟨p, hp, hT, hL⟩ := last_of (P := fun p => (peS R (nbL st cols) (fun v => (rowL st cols v).length) i).1 (thg xs p) = false) R ⟨p0, hp0, by show _ = false; rw [e0]; exact hS.new⟩
    have hr := ho.2.rng p hp
    have hu : thg xs p < R := by unfold thg; omega
    refine ⟨thg xs p, hu, Nat.le_trans (hS.le _ hu hT) ?_⟩
    rw [bk_lf hm _ hu]
    refine lfN_mono (fun y hy h => ?_)
    have hyR := nb_lt hm hu hy
    obtain ⟨q, hq, eq, e2⟩ := thg_place ho.2 hyR
    obtain ⟨p', hp', e3, e4⟩ := thg_place ho.2 hu
    have hpp := thg_inj ho.2 hp' hp e3
    subst hpp
    rw [e2, e4] at h
    simp only [Bool.not_eq_true', decide_eq_false_iff_not] at h
    have hne : q ≠ p' := fun e => nb_irr hm hg hu (by rw [← e, eq] at hy ⊢; exact hy)
    have := hL q (by omega) hq
    rw [eq] at this
    simpa using this
theorem maxTo_is {f : Nat → Nat} {M : Nat} {v : Int} (h : MaxTo (0 :: (List.range R).map (fun u => (f u : Int))) (R + 1) v) (h1 : ∀ u, u < R → f u ≤ M) (h2 : M = 0 ∨ ∃ u, u < R ∧ f u = M) : v = (M : Int) := by
  have hat : ∀ i, i < R → (0 :: (List.range R).map (fun u => (f u : Int))).getD (i + 1) 0 = (f i : Int) := fun i hi => by simp [List.getD, hi]
  obtain ⟨i, hi, e⟩ := h.at_
  have hle : v ≤ (M : Int) := by
    rcases i with _ | i
    · have : (0 :: (List.range R).map (fun u => (f u : Int))).getD 0 0 = 0 := rfl
      omega
    · rw [hat i (by omega)] at e
      have := h1 i (by omega)
      omega
  have hge : (M : Int) ≤ v := by
    rcases h2 with h2 | ⟨u, hu, h2⟩
    · have := h.le 0 (by omega)
      have h0 : (0 :: (List.range R).map (fun u => (f u : Int))).getD 0 0 = 0 := rfl
      omega
    · have := h.le (u + 1) (by omega)
      rw [hat u hu] at this
      omega
  omega
theorem maxTo_ge {f : Nat → Nat} {M : Nat} {v : Int} (h : MaxTo (0 :: (List.range R).map (fun u => (f u : Int))) (R + 1) v) (h2 : M = 0 ∨ ∃ u, u < R ∧ M ≤ f u) : (M : Int) ≤ v := by
  rcases h2 with h2 | ⟨u, hu, h2⟩
  · have := h.le 0 (by omega)
    have h0 : (0 :: (List.range R).map (fun u => (f u : Int))).getD 0 0 = 0 := rfl
    omega
  · have := h.le (u + 1) (by omega)
    rw [show (0 :: (List.range R).map (fun u => (f u : Int))).getD (u + 1) 0 = (f u : Int) by simp [List.getD, hu]] at this
    omega
/-- The back of OrderSmallest. -/
theorem small_back (hm : MayP (R : Int) (R : Int) st cols) (hg : GraP st cols R R) {v : Int} (h : MaxTo (0 :: (List.range R).map (fun u => (bkO (smL R st cols) st cols R u : Int))) (R + 1) v) : v = (dgN R st cols : Int) := by
  refine maxTo_is h (fun u hu => ?_) ?_
  · obtain ⟨p, hp, rfl⟩ := pev_surj hm hg u hu
    rw [bk_small hm hg hp]
    exact moF_ge _ R p hp
  · rcases moF_at (peC R (nbL st cols) (fun v => (rowL st cols v).length)) R with e | ⟨i, hi, e⟩
    · exact .inl e
    · exact .inr ⟨_, (stp_all hm hg i hi).lt, by rw [bk_small hm hg hi]; exact e⟩
/-- The greatest core. -/
theorem core_most (hm : MayP (R : Int) (R : Int) st cols) (hg : GraP st cols R R) : (∀ u, u < R → coV R st cols u ≤ dgN R st cols) ∧ (dgN R st cols = 0 ∨ ∃ u, u < R ∧ coV R st cols u = dgN R st cols) := by
  have hat : ∀ p, p < R → coV R st cols (peV R (nbL st cols) (fun v => (rowL st cols v).length) p) = moF (peC R (nbL st cols) (fun v => (rowL st cols v).length)) (p + 1) := fun p hp => by
    unfold coV
    exact coF_at (pev_inj hm hg) hp R hp (Nat.le_refl _)
  refine ⟨fun u hu => ?_, ?_⟩
  · obtain ⟨p, hp, rfl⟩ := pev_surj hm hg u hu
    rw [hat p hp]
    unfold dgN
    rcases moF_at (peC R (nbL st cols) (fun v => (rowL st cols v).length)) (p + 1) with e | ⟨i, hi, e⟩
    · omega
    · rw [← e]
      exact moF_ge _ R i (by omega)
  · rcases Nat.eq_zero_or_pos R with e | e
    · subst e
      exact .inl rfl
    · refine .inr ⟨_, (stp_all hm hg (R - 1) (by omega)).lt, ?_⟩
      rw [hat (R - 1) (by omega), show R - 1 + 1 = R by omega]
      rfl
theorem degen_is (hm : MayP (R : Int) (R : Int) st cols) (hg : GraP st cols R R) {v : Int} (h : MaxTo (0 :: (List.range R).map (fun i => (coV R st cols i : Int))) (R + 1) v) : v = (dgN R st cols : Int) := maxTo_is h (core_most hm hg).1 (core_most hm hg).2
theorem any_back (hm : MayP (R : Int) (R : Int) st cols) (hg : GraP st cols R R) {xs : List Int} (ho : IsOrd xs R) {v : Int} (h : MaxTo (0 :: (List.range R).map (fun u => (bkO xs st cols R u : Int))) (R + 1) v) : (dgN R st cols : Int) ≤ v := maxTo_ge h (bk_ge hm hg ho)
end
end Go.Proofs.Ytdcdgojcboinaaa
