/-
  THE ORDER OF SETS: what BitOrder asks, plain.
-/
import Derived.Test.YtbendkndnojihabDoorBc4
import Derived.Test.YtbendkndnojihabDoorBp0
import Derived.Test.YtbendkndnojihabDoorBtc
import Derived.Test.YtbendkndnojihabDoorBtj
import Derived.Test.YtbendkndnojihabDoorBk5
import Derived.Test.YtbendkndnojihabDoorBv1
namespace Go.Proofs.YtbendkndnojihabDoor
set_option linter.unusedVariables false

theorem cmpI_neg (x y : Int) : cmpI y x = - cmpI x y := by
  unfold cmpI
  by_cases h1 : x < y
  · rw [if_neg (by omega), if_pos h1, if_pos h1]; rfl
  · by_cases h2 : y < x
    · rw [if_pos h2, if_neg h1, if_pos h2]
    · rw [if_neg h2, if_neg h1, if_neg h1, if_neg h2]; rfl
theorem cmpI_one (x y : Int) : cmpI x y = 0 ∨ cmpI x y = 1 ∨ cmpI x y = -1 := by
  unfold cmpI
  by_cases h1 : x < y
  · rw [if_pos h1]; simp
  · rw [if_neg h1]
    by_cases h2 : y < x
    · rw [if_pos h2]; simp
    · rw [if_neg h2]; simp
theorem cmpI_le (x y : Int) : cmpI x y ≤ 0 ↔ x ≤ y := by
  unfold cmpI
  by_cases h1 : x < y
  · rw [if_pos h1]; omega
  · rw [if_neg h1]
    by_cases h2 : y < x
    · rw [if_pos h2]; omega
    · rw [if_neg h2]; omega

section
variable {s1 : Int} {x1 : List Nat} {s2 : Int} {x2 : List Nat} {s3 : Int} {x3 : List Nat}
theorem cmpR_neg : cmpR s2 x2 s1 x1 = - cmpR s1 x1 s2 x2 := by
  unfold cmpR
  rw [Bool.and_comm]
  cases h : (MayS s1 x1 && MayS s2 x2)
  · simp
  · simp only [if_true]
    by_cases e : s1 = s2
    · subst e; simp only [if_true]; exact cmpB_neg _ _ _
    · rw [if_neg e, if_neg (fun h => e h.symm)]; exact cmpI_neg _ _
theorem cmpR_one : cmpR s1 x1 s2 x2 = 0 ∨ cmpR s1 x1 s2 x2 = 1 ∨ cmpR s1 x1 s2 x2 = -1 := by
  unfold cmpR
  split
  · split
    · exact cmpB_one _ _ _
    · exact cmpI_one _ _
  · exact .inl rfl
theorem cmpR_self : cmpR s1 x1 s1 x1 = 0 := by
  unfold cmpR
  split
  · rw [if_pos rfl]; exact cmpB_self _ _
  · rfl
theorem cmpR_le (h1 : MayS s1 x1 = true) (h2 : MayS s2 x2 = true) : cmpR s1 x1 s2 x2 ≤ 0 ↔ s1 < s2 ∨ (s1 = s2 ∧ cmpB (hasB (gW x1)) (hasB (gW x2)) s1.toNat ≤ 0) := by
  by_cases e : s1 = s2
  · subst e
    rw [cmpR_same h1 h2]
    constructor
    · intro h; exact .inr ⟨rfl, h⟩
    · intro h; rcases h with h | h
      · omega
      · exact h.2
  · rw [cmpR_off h1 h2 e, cmpI_le]
    constructor
    · intro h; exact .inl (by omega)
    · intro h; rcases h with h | h
      · omega
      · exact absurd h.1 e
theorem cmpR_trans (h1 : MayS s1 x1 = true) (h2 : MayS s2 x2 = true) (h3 : MayS s3 x3 = true) (k1 : cmpR s1 x1 s2 x2 ≤ 0) (k2 : cmpR s2 x2 s3 x3 ≤ 0) : cmpR s1 x1 s3 x3 ≤ 0 := by
  rw [cmpR_le h1 h2] at k1
  rw [cmpR_le h2 h3] at k2
  rw [cmpR_le h1 h3]
  rcases k1 with k1 | ⟨e1, k1⟩
  · rcases k2 with k2 | ⟨e2, k2⟩
    · exact .inl (by omega)
    · exact .inl (by omega)
  · rcases k2 with k2 | ⟨e2, k2⟩
    · exact .inl (by omega)
    · subst e1; subst e2
      exact .inr ⟨rfl, cmpB_trans k1 k2⟩
theorem cmpR_zero (h1 : MayS s1 x1 = true) (h2 : MayS s2 x2 = true) (h : cmpR s1 x1 s2 x2 = 0) : s1 = s2 ∧ ∀ x, x < s1.toNat → hasB (gW x1) x = hasB (gW x2) x := by
  by_cases e : s1 = s2
  · subst e
    rw [cmpR_same h1 h2, cmpB_zero] at h
    exact ⟨rfl, h⟩
  · rw [cmpR_off h1 h2 e] at h
    unfold cmpI at h
    split at h
    · cases h
    · split at h
      · cases h
      · omega
theorem cmpR_alike (h1 : MayS s1 x1 = true) (h2 : MayS s2 x2 = true) (h3 : MayS s3 x3 = true) (h : cmpR s1 x1 s2 x2 = 0) : cmpR s1 x1 s3 x3 = cmpR s2 x2 s3 x3 := by
  obtain ⟨rfl, hx⟩ := cmpR_zero h1 h2 h
  by_cases e : s1 = s3
  · subst e
    rw [cmpR_same h1 h3, cmpR_same h2 h3]
    exact cmpB_congr hx (fun _ _ => rfl)
  · rw [cmpR_off h1 h3 e, cmpR_off h2 h3 e]
theorem equal_cmp (o1 : OkW x1) (o2 : OkW x2) (h1 : MayS s1 x1 = true) (h2 : MayS s2 x2 = true) : leavesR jXor s1 x1 s2 x2 = decide (cmpR s1 x1 s2 x2 = 0) := by
  by_cases e : s1 = s2
  · subst e
    rw [leaves_bits (op := fun x y => x != y) jXor_bits rfl o1 o2 h1 h2, cmpR_same h1 h2, Bool.eq_iff_iff, decide_eq_true_eq, cmpB_zero]
    simp
  · rw [leaves_no (fun _ _ h => e h), cmpR_off h1 h2 e]
    symm
    rw [decide_eq_false_iff_not]
    unfold cmpI
    split
    · omega
    · split
      · omega
      · omega
theorem subset_cmp (o1 : OkW x1) (o2 : OkW x2) (h1 : MayS s1 x1 = true) (h2 : MayS s2 x2 = true) (h : leavesR jAndNot s1 x1 s2 x2 = true) : cmpR s1 x1 s2 x2 ≤ 0 := by
  by_cases e : s1 = s2
  · subst e
    rw [leaves_bits (op := fun x y => x && !y) jAndNot_bits rfl o1 o2 h1 h2] at h
    rw [cmpR_same h1 h2]
    refine cmpB_sub (fun x hx hp => ?_)
    have := List.all_eq_true.1 h x (List.mem_range.2 hx)
    rw [hp] at this
    simpa using this
  · rw [leaves_no (fun _ _ h => e h)] at h
    cases h
end
end Go.Proofs.YtbendkndnojihabDoor

namespace Go.Proofs.YtbendkndnojihabDoor
open Go.RowKit Go.Deep
set_option linter.unusedVariables false

end Go.Proofs.YtbendkndnojihabDoor

namespace Go.Proofs.YtbendkndnojihabDoor
set_option linter.unusedVariables false

theorem covR_acc {sz n : Nat} {S : Nat → Nat → Bool} : ∀ (f : Nat) (P : Nat → Bool) (acc : List Int), covR sz n S f P acc = (covR sz n S f P []).map (acc ++ ·)
  | 0, P, acc => by simp [covR]
  | f + 1, P, acc => by
    simp only [covR]
    split
    · simp
    · split
      · rfl
      · rw [covR_acc f _ (acc ++ _), covR_acc f _ ([] ++ _)]
        simp [Option.map_map, Function.comp_def]
theorem covR_nil {sz n : Nat} {S : Nat → Nat → Bool} {f : Nat} {P : Nat → Bool} (hf : cntB P sz ≤ f) (h : covR sz n S f P [] = some []) : cntB P sz = 0 := by
  by_cases h0 : cntB P sz = 0
  · exact h0
  · rcases pkR_at (covC sz S P) n with ⟨h1, h2⟩ | ⟨i, h1, h2, h3, h4⟩
    · rw [covR_none h0 hf (by rw [h1]; decide)] at h; cases h
    · rw [covR_step h0 hf h1, covR_acc] at h
      cases hc : covR sz n S (f - 1) (fun e => P e && !S i e) [] with
      | none => rw [hc] at h; cases h
      | some l => rw [hc] at h; simp at h
theorem covR_cons {sz n : Nat} {S : Nat → Nat → Bool} {f : Nat} {P : Nat → Bool} {b : Int} {l : List Int} (hf : cntB P sz ≤ f) (h : covR sz n S f P [] = some (b :: l)) :
    ∃ i : Nat, b = (i : Int) ∧ i < n ∧ 0 < covC sz S P i ∧ covR sz n S (f - 1) (fun e => P e && !S i e) [] = some l ∧ cntB (fun e => P e && !S i e) sz ≤ f - 1 ∧ ∀ j, j < n → covC sz S P j ≤ covC sz S P i := by
  by_cases h0 : cntB P sz = 0
  · rw [covR_end h0] at h; cases h
  · rcases pkR_at (covC sz S P) n with ⟨h1, h2⟩ | ⟨i, h1, h2, h3, h4⟩
    · rw [covR_none h0 hf (by rw [h1]; decide)] at h; cases h
    · rw [covR_step h0 hf h1, covR_acc] at h
      cases hc : covR sz n S (f - 1) (fun e => P e && !S i e) [] with
      | none => rw [hc] at h; cases h
      | some l' =>
        rw [hc] at h
        simp at h
        have hl := cov_less h4
        refine ⟨i, h.1.symm, h2, h4, by rw [← h.2]; exact hc, by omega, fun j hj => ?_⟩
        have := pkR_le (covC sz S P) n j hj
        rw [h3] at this
        exact this
theorem cntB_pos {P : Nat → Bool} {n x : Nat} (hx : x < n) (h : P x = true) : 0 < cntB P n := by
  rcases Nat.eq_zero_or_pos (cntB P n) with h0 | h0
  · have := cntB_zero h0 x hx
    rw [this] at h; cases h
  · exact h0
theorem covR_all {sz n : Nat} {S : Nat → Nat → Bool} : ∀ (f : Nat) (P : Nat → Bool), cntB P sz ≤ f → (∀ e, e < sz → P e = true → ∃ i, i < n ∧ S i e = true) → ∃ l, covR sz n S f P [] = some l
  | 0, P, _, _ => ⟨[], rfl⟩
  | f + 1, P, hf, h => by
    by_cases h0 : cntB P sz = 0
    · exact ⟨[], covR_end h0 _⟩
    · rcases pkR_at (covC sz S P) n with ⟨h1, h2⟩ | ⟨i, h1, h2, h3, h4⟩
      · exfalso
        have hex : ∃ e, e < sz ∧ P e = true := by
          rcases Classical.em (∃ e, e < sz ∧ P e = true) with hh | hh
          · exact hh
          · exfalso
            apply h0
            have : cntB P sz = cntB (fun _ => false) sz := cntB_congr (fun x hx => by
              cases hp : P x
              · rfl
              · exact absurd ⟨x, hx, hp⟩ hh)
            have z : ∀ k, cntB (fun _ => false) k = 0 := fun k => by induction k with
              | zero => rfl
              | succ k ih => simp only [cntB]; rw [ih]; rfl
            rw [this, z]
        obtain ⟨e, he, hp⟩ := hex
        obtain ⟨i, hi, hs⟩ := h e he hp
        have hpos : 0 < covC sz S P i := cntB_pos (x := e) he (by simp [hp, hs])
        have := pkR_le (covC sz S P) n i hi
        omega
      · have hl := cov_less h4
        obtain ⟨l, hl2⟩ := covR_all (sz := sz) (n := n) (S := S) f (fun e => P e && !S i e) (by omega) (fun e he hp => by
          simp at hp
          exact h e he hp.1)
        refine ⟨(i : Int) :: l, ?_⟩
        rw [covR_step h0 hf h1, covR_acc]
        show Option.map _ (covR sz n S f _ []) = _
        rw [hl2]
        rfl
theorem covR_sub {sz n : Nat} {S : Nat → Nat → Bool} : ∀ (l : List Int) (f : Nat) (P : Nat → Bool), cntB P sz ≤ f → covR sz n S f P [] = some l → ∀ e, e < sz → P e = true → ∃ i, i < n ∧ S i e = true
  | [], f, P, hf, h, e, he, hp => by
    have := cntB_zero (covR_nil hf h) e he
    rw [this] at hp; cases hp
  | b :: l, f, P, hf, h, e, he, hp => by
    obtain ⟨i, h1, h2, h3, h4, h5, h6⟩ := covR_cons hf h
    cases hs : S i e
    · exact covR_sub l (f - 1) _ h5 h4 e he (by simp [hp, hs])
    · exact ⟨i, h2, hs⟩
set_option linter.unusedVariables false

theorem has_beyond' {xs : List Nat} {x : Nat} (h : xs.length ≤ x / 64) : hasB (gW xs) x = false := by
  unfold hasB gW
  simp [List.getD, List.getElem?_eq_none h]
theorem good_may {sz : Nat} {xs : List Nat} (m : MayS sz xs = true) (o : OkW xs) : Good sz xs (hasB (gW xs)) := by
  have hl : xs.length = nW sz := by have := MayS.len m; simpa using this
  have hsz : sz ≤ 4096 := by have := MayS.fits m; simp [fitsI] at this; omega
  refine ⟨?_, fun x hx => ?_, hsz⟩
  · have hr : RepB (nW sz) (fun i => xs.getD i 0) (hasB (gW xs)) := RepB.self (fun i _ => gW_ok o i)
    rw [← wordsL_of hr, ← hl]
    exact (lstG_self xs 0).symm
  · by_cases h2 : x < 64 * xs.length
    · exact MayS.zero m x (by simpa using hx) h2
    · exact has_beyond' (by omega)
theorem alike_may {sz : Nat} {L : List SetC} (m1 : MayT sz L = true) (hsz : sz ≤ 4096) : alikeE sz L = 0 := by
  have h := MayT.all m1
  have h1 : L.any notMay = false := by
    rw [List.any_eq_false]
    intro e he
    simp [notMay, (h e he).1]
  have h2 : L.any (offS sz) = false := by
    rw [List.any_eq_false]
    intro e he
    simp [offS, (h e he).2]
  have h3 : fitsI (sz : Int) = true := by simp [fitsI]; omega
  simp [alikeE, h1, h2, h3]
theorem many_may {sz : Nat} {L : List SetC} (m1 : MayT sz L = true) (hsz : sz ≤ 4096) : ∃ U, manyR sz L false = ((sz : Int), U, 0) ∧ Good sz U (fun x => decide (x < sz) && L.any (hasS x)) := by
  refine ⟨_, ?_, Good.mk' (P := fun x => decide (x < sz) && L.any (hasS x)) (fun x hx => ?_) hsz⟩
  · unfold manyR
    rw [alike_may m1 hsz]
    simp [manyB]
  · simp [show ¬ x < sz from by omega]
theorem any_set {L : List SetC} {e : Nat} : L.any (hasS e) = true ↔ ∃ i, i < L.length ∧ setP L i e = true := by
  rw [List.any_eq_true]
  constructor
  · rintro ⟨x, hx, hh⟩
    obtain ⟨i, hi, rfl⟩ := List.getElem_of_mem hx
    refine ⟨i, hi, ?_⟩
    unfold setP
    rw [show L.getD i .nul = L[i] from by simp [List.getD, hi]]
    exact hh
  · rintro ⟨i, hi, hh⟩
    refine ⟨L[i], List.getElem_mem hi, ?_⟩
    unfold setP at hh
    rw [show L.getD i .nul = L[i] from by simp [List.getD, hi]] at hh
    exact hh
theorem cover_sub {sz : Nat} {L : List SetC} {xs U : List Nat} (o : OkW xs) (m2 : MayS sz xs = true) (gU : Good sz U (fun x => decide (x < sz) && L.any (hasS x))) :
    leavesR jAndNot sz xs sz U = (covR sz L.length (setP L) 4096 (hasB (gW xs)) []).isSome := by
  have hn : sz ≤ 64 * nW sz := by unfold nW; omega
  have hc : cntB (hasB (gW xs)) sz ≤ 4096 := by have := cntB_le (hasB (gW xs)) sz; have := gU.le; omega
  rw [Bool.eq_iff_iff, leaves_bits (op := fun x y => x && !y) jAndNot_bits rfl o gU.ok m2 gU.may, List.all_eq_true]
  have key : (∀ e, e < sz → hasB (gW xs) e = true → ∃ i, i < L.length ∧ setP L i e = true) ↔ ∀ e ∈ List.range ((sz : Int)).toNat, (!(hasB (gW xs) e && !hasB (gW U) e)) = true := by
    constructor
    · intro h e he
      have hes : e < sz := by simpa using he
      rw [gU.has e (by omega)]
      cases hp : hasB (gW xs) e
      · rfl
      · have := any_set.2 (h e hes hp)
        simp [this, hes]
    · intro h e hes hp
      have := h e (by simpa using hes)
      rw [gU.has e (by omega), hp] at this
      simp [hes] at this
      exact any_set.1 (by simpa using this)
  rw [← key]
  constructor
  · intro h
    obtain ⟨l, hl⟩ := covR_all 4096 (hasB (gW xs)) hc h
    rw [hl]; rfl
  · intro h
    cases hr : covR sz L.length (setP L) 4096 (hasB (gW xs)) [] with
    | none => rw [hr] at h; cases h
    | some l => exact covR_sub l 4096 _ hc hr
open Go.RowKit Go.Deep
set_option linter.unusedVariables false

theorem set2_cell (w : World) (R : Nat) (u0 u1 : Value) (b o : Nat) (h : b ≠ R) : ((w.setCell ⟨R, 0, none⟩ u0).setCell ⟨R, 1, none⟩ u1).cell? ⟨b, o, none⟩ = w.cell? ⟨b, o, none⟩ := by
  rw [World.cell?_setCell_other _ _ _ _ (by intro hh; injection hh with h1 h2; exact h h1.symm), World.cell?_setCell_other _ _ _ _ (by intro hh; injection hh with h1 h2; exact h h1.symm)]
structure CdSt (wb wr : World) (sz n : Nat) (L : List SetC) (l : List Int) (k m fu : Nat) (X : List Nat) (P : Nat → Bool) (ax : Option Addr) (nx cx : Nat) : Prop where
  bel : Below wb.heap.size wb wr
  lef : Two wr wb.heap.size (.int .i64 sz) (.slice ax nx cx)
  sl : SlW wr ax nx cx X
  good : Good sz X P
  res : covR sz n (setP L) fu P [] = some (l.drop k)
  fuel : cntB P sz ≤ fu
  most : ∀ j, j < n → covC sz (setP L) P j ≤ m
theorem CdSt.keep {wb wr w' : World} {sz n : Nat} {L : List SetC} {l : List Int} {k m fu : Nat} {X : List Nat} {P : Nat → Bool} {ax : Option Addr} {nx cx : Nat} (h : CdSt wb wr sz n L l k m fu X P ax nx cx) (hk : Below wr.heap.size wr w') : CdSt wb w' sz n L l k m fu X P ax nx cx :=
  ⟨h.bel.trans (hk.mono h.bel.size), h.lef.keep hk, h.sl.below hk, h.good, h.res, h.fuel, h.most⟩
/-- What one pick leaves. -/
theorem good_minus {sz : Nat} {X exs : List Nat} {P Q : Nat → Bool} (g : Good sz X P) (q : Good sz exs Q) : ∃ X', pairR false sz X sz exs = ((sz : Int), X', 0) ∧ Good sz X' (fun e => P e && !Q e) := by
  refine ⟨_, pair_good false g q rfl, ?_⟩
  have e : (fun x => mOp false (P x) (Q x)) = (fun e => P e && !Q e) := by
    funext x
    cases P x <;> cases Q x <;> rfl
  rw [e]
  exact Good.mk' (fun x hx => by rw [g.zero x hx]; rfl) g.le
end Go.Proofs.YtbendkndnojihabDoor
