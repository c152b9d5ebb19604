/-
  ORDERS: sloperef11.Degeneracy: contract.
-/
import Derived.Test.YtdcdgojcboinaaaCr2
import Derived.Test.YtdcdgojcboinaaaCq6
namespace Go.Proofs.Ytdcdgojcboinaaa
open Go.RowKit Go.Deep
set_option linter.unusedVariables false

/-- A vertex lies in a set in which each has k neighbours. -/
def InK (R : Nat) (st cols : List Int) (k v : Nat) : Prop := ∃ T, StB R st cols k T ∧ T v = true
/-- The greatest k below K, from 1 on, for which it does. -/
noncomputable def clF (R : Nat) (st cols : List Int) : Nat → Nat → Nat
  | 0, _ => 0
  | K + 1, v => if tb (1 ≤ K ∧ InK R st cols K v) = true then K else clF R st cols K v
/-- .. and for which some vertex does. -/
noncomputable def mdF (R : Nat) (st cols : List Int) : Nat → Nat
  | 0 => 0
  | K + 1 => if tb (1 ≤ K ∧ ∃ v, v < R ∧ InK R st cols K v) = true then K else mdF R st cols K
theorem core_in {R : Nat} {st cols : List Int} {k : Nat} {lf : Nat → Bool} (h1 : StB R st cols k lf) (h2 : MxB R st cols k lf) {v : Nat} (hv : v < R) : lf v = true ↔ InK R st cols k v := ⟨fun e => ⟨lf, h1, e⟩, fun ⟨T, hT, e⟩ => h2 T hT v hv e⟩
/-- The greatest, within k's pass. -/
noncomputable def moI (R : Nat) (st cols : List Int) (k v : Nat) : Nat := if tb (∃ u, u < v ∧ InK R st cols k u) = true then k else mdF R st cols k
/-- The cores, within k's pass. -/
noncomputable def clI (R : Nat) (st cols : List Int) (k v u : Nat) : Nat := if u < v then clF R st cols (k + 1) u else clF R st cols k u
/-- What the document's Degeneracy answers. -/
def WdP (R : Nat) (st cols : List Int) (w w' : World) (e : Ending) : Prop := ∃ g, e = .returned (.tuple #[.int .i64 (mdF R st cols R : Int), .slice (some ⟨g, 0, none⟩) R R, .int .i64 0]) ∧ RoV w' g R (fun v => .int .i64 (clF R st cols R v : Int)) ∧ Below w.heap.size w w'
end Go.Proofs.Ytdcdgojcboinaaa

namespace Go.Proofs.Ytdcdgojcboinaaa
open Go.RowKit Go.Deep
set_option linter.unusedVariables false

theorem moF_ge (C : Nat → Nat) : ∀ k i, i < k → C i ≤ moF C k
  | 0, i, h => absurd h (Nat.not_lt_zero i)
  | k + 1, i, h => by
    simp only [moF]
    by_cases e : i = k
    · subst e; omega
    · have := moF_ge C k i (by omega); omega
theorem moF_at (C : Nat → Nat) : ∀ k, moF C k = 0 ∨ ∃ i, i < k ∧ C i = moF C k
  | 0 => .inl rfl
  | k + 1 => by
    simp only [moF]
    by_cases e : moF C k ≤ C k
    · exact .inr ⟨k, by omega, by omega⟩
    · rcases moF_at C k with h | ⟨i, h1, h2⟩
      · exact .inl (by omega)
      · exact .inr ⟨i, by omega, by omega⟩
theorem coF_at {V C : Nat → Nat} {R p : Nat} (inj : ∀ i j, i < R → j < R → V i = V j → i = j) (hp : p < R) : ∀ K, p < K → K ≤ R → coF V C K (V p) = moF C (p + 1)
  | 0, h, _ => absurd h (Nat.not_lt_zero p)
  | K + 1, h1, h2 => by
    simp only [coF]
    by_cases e : V p = V K
    · have := inj p K hp (by omega) e
      subst this
      rw [if_pos rfl]
    · rw [if_neg e]
      exact coF_at inj hp K (by
        have : p ≠ K := fun x => e (by rw [x])
        omega) (by omega)
theorem am_lf {T : Nat → Bool} {R u : Nat} {st cols : List Int} (hm : MayP (R : Int) (R : Int) st cols) (hu : u < R) : ∀ i, i ≤ (rowL st cols u).length → amN T (rowL st cols u) i = lfN (fun y => !T y) ((nbL st cols u).take i)
  | 0, _ => by simp [amN, lfN]
  | i + 1, hi => by
    obtain ⟨y, e1, hy, e3⟩ := nbL_at hm hu (i := i) (by omega)
    simp only [amN]
    rw [am_lf hm hu i (by omega), e1, show ((y : Int)).toNat = y by omega, List.take_add_one, e3]
    unfold lfN
    rw [List.countP_append]
    simp
theorem am_all {T : Nat → Bool} {R u : Nat} {st cols : List Int} (hm : MayP (R : Int) (R : Int) st cols) (hu : u < R) : amN T (rowL st cols u) (rowL st cols u).length = lfN (fun y => !T y) (nbL st cols u) := by
  rw [am_lf hm hu _ (Nat.le_refl _), show (rowL st cols u).length = (nbL st cols u).length by simp [nbL], List.take_length]
theorem lfN_mono {g h : Nat → Bool} : ∀ {l : List Nat}, (∀ y ∈ l, h y = true → g y = true) → lfN g l ≤ lfN h l
  | [], _ => by simp [lfN]
  | y :: l, e => by
    have ih := lfN_mono (g := g) (h := h) (l := l) (fun z hz => e z (List.mem_cons_of_mem _ hz))
    have hy := e y (by simp)
    unfold lfN at *
    rw [List.countP_cons, List.countP_cons]
    by_cases c : h y = true
    · simp [c, hy c]; exact ih
    · have : h y = false := by cases hh : h y; rfl; exact absurd hh c
      simp [this]
      split <;> omega
section
variable {R : Nat} {st cols : List Int}
/-- What peeling does at step k. -/
structure StpP (R : Nat) (st cols : List Int) (k : Nat) : Prop where
  lt : peV R (nbL st cols) (fun v => (rowL st cols v).length) k < R
  new : (peS R (nbL st cols) (fun v => (rowL st cols v).length) k).1 (peV R (nbL st cols) (fun v => (rowL st cols v).length) k) = false
  is : peC R (nbL st cols) (fun v => (rowL st cols v).length) k = lfN (peS R (nbL st cols) (fun v => (rowL st cols v).length) k).1 (nbL st cols (peV R (nbL st cols) (fun v => (rowL st cols v).length) k))
  le : ∀ u, u < R → (peS R (nbL st cols) (fun v => (rowL st cols v).length) k).1 u = false → peC R (nbL st cols) (fun v => (rowL st cols v).length) k ≤ lfN (peS R (nbL st cols) (fun v => (rowL st cols v).length) k).1 (nbL st cols u)
  cn : peC R (nbL st cols) (fun v => (rowL st cols v).length) k < R
theorem stp_all (hm : MayP (R : Int) (R : Int) st cols) (hg : GraP st cols R R) (k : Nat) (hk : k < R) : StpP R st cols k := by
  have hW := peW_all hm hg k (by omega)
  have hl := low_is (peO_all hm hg k hk).ex
  have hvR : peV R (nbL st cols) (fun v => (rowL st cols v).length) k < R := brF_lt R _ hl.rn
  have hb : (peS R (nbL st cols) (fun v => (rowL st cols v).length) k).1 (peV R (nbL st cols) (fun v => (rowL st cols v).length) k) = false ∧ (peS R (nbL st cols) (fun v => (rowL st cols v).length) k).2 (peV R (nbL st cols) (fun v => (rowL st cols v).length) k) = peC R (nbL st cols) (fun v => (rowL st cols v).length) k := by
    have := hl.is
    unfold bP at this
    simp at this
    exact this
  refine ⟨hvR, hb.1, by rw [← hW.ct _ hvR hb.1]; exact hb.2.symm, fun u hu hgu => ?_, hl.cn⟩
  rw [← hW.ct u hu hgu]
  apply Nat.le_of_not_lt
  intro hlt
  have := hl.clo _ (brF R u) hlt (brF_lt R u hu)
  unfold bP at this
  rw [brF_brF R u hu, hgu] at this
  simp at this
theorem pev_inj (hm : MayP (R : Int) (R : Int) st cols) (hg : GraP st cols R R) : ∀ i j, i < R → j < R → peV R (nbL st cols) (fun v => (rowL st cols v).length) i = peV R (nbL st cols) (fun v => (rowL st cols v).length) j → i = j := by
  have key : ∀ i j, i < j → j < R → peV R (nbL st cols) (fun v => (rowL st cols v).length) i ≠ peV R (nbL st cols) (fun v => (rowL st cols v).length) j := fun i j hij hj e => by
    have h1 := (stp_all hm hg j hj).new
    have h2 := ((peW_all hm hg j (by omega)).gone (peV R (nbL st cols) (fun v => (rowL st cols v).length) j)).2 ⟨i, hij, e⟩
    rw [h1] at h2
    cases h2
  intro i j hi hj e
  rcases Nat.lt_trichotomy i j with c | c | c
  · exact absurd e (key i j c hj)
  · exact c
  · exact absurd e.symm (key j i c hi)
theorem pev_surj (hm : MayP (R : Int) (R : Int) st cols) (hg : GraP st cols R R) (v : Nat) (hv : v < R) : ∃ p, p < R ∧ peV R (nbL st cols) (fun v => (rowL st cols v).length) p = v :=
  inj_surj R _ (fun i hi => (stp_all hm hg i hi).lt) (pev_inj hm hg) v hv
/-- The core of a vertex. -/
def coV (R : Nat) (st cols : List Int) (v : Nat) : Nat := coF (peV R (nbL st cols) (fun v => (rowL st cols v).length)) (peC R (nbL st cols) (fun v => (rowL st cols v).length)) R v
theorem coV_lt (hm : MayP (R : Int) (R : Int) st cols) (hg : GraP st cols R R) (v : Nat) (hv : v < R) : coV R st cols v < R := by
  obtain ⟨p, hp, rfl⟩ := pev_surj hm hg v hv
  unfold coV
  rw [coF_at (pev_inj hm hg) hp R hp (Nat.le_refl _)]
  rcases moF_at (peC R (nbL st cols) (fun v => (rowL st cols v).length)) (p + 1) with e | ⟨i, hi, e⟩
  · omega
  · have := (stp_all hm hg i (by omega)).cn
    omega
theorem inK_iff (hm : MayP (R : Int) (R : Int) st cols) (hg : GraP st cols R R) {k v : Nat} (hk : 1 ≤ k) (hv : v < R) : InK R st cols k v ↔ k ≤ coV R st cols v := by
  obtain ⟨p, hp, rfl⟩ := pev_surj hm hg v hv
  have ec : coV R st cols (peV R (nbL st cols) (fun v => (rowL st cols v).length) p) = moF (peC R (nbL st cols) (fun v => (rowL st cols v).length)) (p + 1) := by
    unfold coV
    rw [coF_at (pev_inj hm hg) hp R hp (Nat.le_refl _)]
  rw [ec]
  constructor
  · rintro ⟨T, hT, hTv⟩
    obtain ⟨j, _, hj, h1, h2⟩ := find_range (p := fun i => T (peV R (nbL st cols) (fun v => (rowL st cols v).length) i)) (n := p + 1) (i := p) (by omega) hTv
    have hS := stp_all hm hg j (by omega)
    have h3 := hT _ hS.lt h1
    rw [am_all hm hS.lt] at h3
    have h4 : lfN (fun y => !T y) (nbL st cols (peV R (nbL st cols) (fun v => (rowL st cols v).length) j)) ≤ lfN (peS R (nbL st cols) (fun v => (rowL st cols v).length) j).1 (nbL st cols (peV R (nbL st cols) (fun v => (rowL st cols v).length) j)) := lfN_mono (fun y hy hgy => by
      obtain ⟨i, hi, e⟩ := ((peW_all hm hg j (by omega)).gone y).1 hgy
      have := h2 i hi
      rw [e] at this
      simp [this])
    rw [← hS.is] at h4
    have := moF_ge (peC R (nbL st cols) (fun v => (rowL st cols v).length)) (p + 1) j hj
    omega
  · intro hle
    rcases moF_at (peC R (nbL st cols) (fun v => (rowL st cols v).length)) (p + 1) with e | ⟨j, hj, e⟩
    · omega
    · have hS := stp_all hm hg j (by omega)
      have hW := peW_all hm hg j (by omega)
      refine ⟨fun u => !(peS R (nbL st cols) (fun v => (rowL st cols v).length) j).1 u, fun u hu hTu => ?_, ?_⟩
      · have hgu : (peS R (nbL st cols) (fun v => (rowL st cols v).length) j).1 u = false := by simpa using hTu
        rw [am_all hm hu]
        have := hS.le u hu hgu
        have e2 : lfN (fun y => !(fun u => !(peS R (nbL st cols) (fun v => (rowL st cols v).length) j).1 u) y) (nbL st cols u) = lfN (peS R (nbL st cols) (fun v => (rowL st cols v).length) j).1 (nbL st cols u) := lfN_congr (fun y _ => by simp)
        rw [e2]
        omega
      · cases hc : (peS R (nbL st cols) (fun v => (rowL st cols v).length) j).1 (peV R (nbL st cols) (fun v => (rowL st cols v).length) p) with
        | false => simp [hc]
        | true =>
          obtain ⟨i, hi, e3⟩ := (hW.gone _).1 hc
          have := pev_inj hm hg i p (by omega) hp e3
          omega
theorem clF_min (hm : MayP (R : Int) (R : Int) st cols) (hg : GraP st cols R R) {v : Nat} (hv : v < R) : ∀ K, clF R st cols K v = min (coV R st cols v) (K - 1)
  | 0 => by simp [clF]
  | K + 1 => by
    simp only [clF]
    by_cases h1 : 1 ≤ K
    · by_cases h2 : K ≤ coV R st cols v
      · rw [tb_yes ⟨h1, (inK_iff hm hg h1 hv).2 h2⟩]
        simp only [if_true]
        omega
      · rw [tb_no (fun h => h2 ((inK_iff hm hg h1 hv).1 h.2)), clF_min hm hg hv K]
        simp only [Bool.false_eq_true, if_false]
        omega
    · rw [tb_no (fun h => h1 h.1), clF_min hm hg hv K]
      simp only [Bool.false_eq_true, if_false]
      omega
/-- The cores are the same. -/
theorem core_two (hm : MayP (R : Int) (R : Int) st cols) (hg : GraP st cols R R) {v : Nat} (hv : v < R) : clF R st cols R v = coV R st cols v := by
  rw [clF_min hm hg hv]
  have := coV_lt hm hg v hv
  omega
theorem mdF_le (hm : MayP (R : Int) (R : Int) st cols) (hg : GraP st cols R R) {M : Nat} (hM : ∀ v, v < R → coV R st cols v ≤ M) (hA : M = 0 ∨ ∃ v, v < R ∧ coV R st cols v = M) : ∀ K, mdF R st cols K = min M (K - 1)
  | 0 => by simp [mdF]
  | K + 1 => by
    simp only [mdF]
    by_cases h1 : 1 ≤ K
    · by_cases h2 : K ≤ M
      · have hex : ∃ v, v < R ∧ InK R st cols K v := by
          rcases hA with e | ⟨v, hv, e⟩
          · omega
          · exact ⟨v, hv, (inK_iff hm hg h1 hv).2 (by omega)⟩
        rw [tb_yes ⟨h1, hex⟩]
        simp only [if_true]
        omega
      · rw [tb_no (fun ⟨_, v, hv, h⟩ => by
          have := (inK_iff hm hg h1 hv).1 h
          have := hM v hv
          omega), mdF_le hm hg hM hA K]
        simp only [Bool.false_eq_true, if_false]
        omega
    · rw [tb_no (fun h => h1 h.1), mdF_le hm hg hM hA K]
      simp only [Bool.false_eq_true, if_false]
      omega
/-- Both sides' degeneracy. -/
theorem degen_two (hm : MayP (R : Int) (R : Int) st cols) (hg : GraP st cols R R) {v : Int} (h : MaxTo (0 :: (List.range R).map (fun i => (coV R st cols i : Int))) (R + 1) v) : v = (mdF R st cols R : Int) := by
  have hgd : ∀ u, u < R → (0 :: (List.range R).map (fun u => (coV R st cols u : Int))).getD (u + 1) 0 = (coV R st cols u : Int) := fun u hu => by simp [List.getD, hu]
  have h0 := h.le 0 (by omega)
  have h0' : (0 : Int) ≤ v := h0
  obtain ⟨M, rfl⟩ : ∃ M : Nat, v = (M : Int) := ⟨v.toNat, by omega⟩
  have hM : ∀ u, u < R → coV R st cols u ≤ M := fun u hu => by
    have := h.le (u + 1) (by omega)
    rw [hgd u hu] at this
    omega
  have hA : M = 0 ∨ ∃ u, u < R ∧ coV R st cols u = M := by
    obtain ⟨i, hi, e⟩ := h.at_
    cases i with
    | zero => left; have e' : (0 : Int) = (M : Int) := e; omega
    | succ u => right; rw [hgd u (by omega)] at e; exact ⟨u, by omega, by omega⟩
  rw [mdF_le hm hg hM hA]
  rcases hA with e | ⟨u, hu, e⟩
  · omega
  · have := coV_lt hm hg u hu
    omega
end
end Go.Proofs.Ytdcdgojcboinaaa
