/-
  BOUNDS: the pattern of a relation may be, plain.
-/
import Derived.Test.YtmlodfgpedoloaaGreatCga
import Derived.Test.YtmlodfgpedoloaaGreatCj4
namespace Go.Proofs.YtmlodfgpedoloaaGreat
open Go.RowKit Go.Deep
set_option linter.unusedVariables false

theorem grS_get {P : Nat → Nat → Prop} {n : Nat} : ∀ k i, i ≤ k → (grS P n k).getD i 0 = ((grC P n i).length : Int)
  | 0, i, hi => by rw [show i = 0 by omega]; rfl
  | k + 1, i, hi => by
    simp only [grS]
    by_cases e : i = k + 1
    · subst e
      rw [List.getD, List.getElem?_append_right (by rw [grS_len]; omega), grS_len]
      simp
    · rw [List.getD, List.getElem?_append_left (by rw [grS_len]; omega)]
      exact grS_get k i (by omega)
theorem grC_split {P : Nat → Nat → Prop} {n v : Nat} : ∀ k, v < k → ∃ r, grC P n k = grC P n v ++ (grR P v n ++ r)
  | 0, h => absurd h (Nat.not_lt_zero _)
  | k + 1, h => by
    by_cases e : v = k
    · subst e; exact ⟨[], by simp [grC]⟩
    · obtain ⟨r, hr⟩ := grC_split (P := P) (n := n) (v := v) k (by omega)
      exact ⟨r ++ grR P k n, by simp only [grC]; rw [hr]; simp⟩
theorem rowL_gr {P : Nat → Nat → Prop} {n v k : Nat} (h : v < k) : rowL (grS P n k) (grC P n k) v = grR P v n := by
  unfold rowL
  rw [grS_get k v (by omega), grS_get k (v + 1) (by omega)]
  obtain ⟨r, hr⟩ := grC_split (P := P) (n := n) k h
  rw [hr]
  simp only [grC, List.length_append]
  rw [show ((((grC P n v).length : Nat) : Int)).toNat = (grC P n v).length by omega, show (((((grC P n v).length + (grR P v n).length : Nat)) : Int)).toNat = (grC P n v).length + (grR P v n).length by omega]
  rw [List.drop_left, show (grC P n v).length + (grR P v n).length - (grC P n v).length = (grR P v n).length by omega, List.take_left]
theorem grR_ok {P : Nat → Nat → Prop} {u : Nat} : ∀ k, (∀ i, i < (grR P u k).length → 0 ≤ (grR P u k).getD i 0 ∧ (grR P u k).getD i 0 < (k : Int)) ∧ (∀ i, 0 < i → i < (grR P u k).length → (grR P u k).getD (i - 1) 0 < (grR P u k).getD i 0)
  | 0 => ⟨fun i hi => absurd hi (Nat.not_lt_zero _), fun i _ hi => absurd hi (Nat.not_lt_zero _)⟩
  | k + 1 => by
    obtain ⟨h1, h2⟩ := grR_ok (P := P) (u := u) k
    by_cases c : P u k
    · have e : grR P u (k + 1) = grR P u k ++ [(k : Int)] := by simp [grR, tb_yes c]
      rw [e]
      have gl : ∀ i, i < (grR P u k).length → (grR P u k ++ [(k : Int)]).getD i 0 = (grR P u k).getD i 0 := fun i hi => by rw [List.getD, List.getElem?_append_left hi]; rfl
      have gr : (grR P u k ++ [(k : Int)]).getD (grR P u k).length 0 = (k : Int) := by simp [List.getD]
      refine ⟨fun i hi => ?_, fun i h0 hi => ?_⟩
      · by_cases q : i = (grR P u k).length
        · rw [q, gr]; omega
        · have hi' : i < (grR P u k).length := by simp at hi; omega
          rw [gl i hi']
          have := h1 i hi'
          omega
      · by_cases q : i = (grR P u k).length
        · rw [q, gr, gl _ (by omega)]
          exact (h1 _ (by omega)).2
        · have hi' : i < (grR P u k).length := by simp at hi; omega
          rw [gl i hi', gl _ (by omega)]
          exact h2 i h0 hi'
    · have e : grR P u (k + 1) = grR P u k := by simp [grR, tb_no c]
      rw [e]
      exact ⟨fun i hi => by have := h1 i hi; omega, h2⟩
theorem grC_get {P : Nat → Nat → Prop} {n v k i : Nat} (h : v < k) (hi : i < (grR P v n).length) : (grC P n k).getD ((grC P n v).length + i) 0 = (grR P v n).getD i 0 := by
  obtain ⟨r, hr⟩ := grC_split (P := P) (n := n) k h
  rw [hr, List.getD, List.getElem?_append_right (by omega), show (grC P n v).length + i - (grC P n v).length = i by omega, List.getElem?_append_left hi]
  rfl
theorem may_gr {P : Nat → Nat → Prop} {n : Nat} (hn : n ≤ 128) : MayP (n : Int) (n : Int) (grS P n n) (grC P n n) := by
  refine ⟨⟨by omega, by rw [grS_len]; omega, by rw [grS_get n 0 (by omega)]; rfl, by rw [show ((n : Int)).toNat = n by omega]; exact grS_get n n (Nat.le_refl _)⟩, fun i _ hi => ?_, fun r hr => ?_⟩
  · rw [grS_len] at hi
    rw [grS_get n i (by omega), grS_get n (i + 1) (by omega)]
    simp only [grC, List.length_append]
    omega
  · rw [grS_len] at hr
    rw [grS_get n r (by omega), grS_get n (r + 1) (by omega)]
    simp only [grC, List.length_append]
    obtain ⟨h1, h2⟩ := grR_ok (P := P) (u := r) n
    refine ⟨fun i a b => ?_, fun i a b => ?_⟩
    · obtain ⟨j, rfl⟩ : ∃ j, i = (grC P n r).length + j := ⟨i - (grC P n r).length, by omega⟩
      rw [grC_get (by omega) (by omega)]
      exact h1 j (by omega)
    · obtain ⟨j, rfl⟩ : ∃ j, i = (grC P n r).length + j := ⟨i - (grC P n r).length, by omega⟩
      rw [show (grC P n r).length + j - 1 = (grC P n r).length + (j - 1) by omega, grC_get (by omega) (by omega), grC_get (by omega) (by omega)]
      exact h2 j (by omega) (by omega)
theorem mem_gr {P : Nat → Nat → Prop} {n u v : Nat} (hv : v < n) (hu : u < n) : ((u : Int) ∈ rowL (grS P n n) (grC P n n) v) ↔ P v u := by
  rw [rowL_gr hv, grR_mem]
  constructor
  · rintro ⟨j, _, e, h⟩
    rw [show u = j by omega]; exact h
  · intro h
    exact ⟨u, hu, rfl, h⟩
end Go.Proofs.YtmlodfgpedoloaaGreat

namespace Go.Proofs.YtmlodfgpedoloaaGreat
open Go.RowKit Go.Deep
set_option linter.unusedVariables false

/-- Near by neighbours is near by places. -/
theorem near_same {m : Nat} {S C xs : List Int} {E : Nat → Nat → Prop} {wd : Bool} (hm : MayP (m : Int) (m : Int) S C) (hE : ∀ u v, u < m → v < m → (((v : Nat) : Int) ∈ rowL S C u ↔ E u v)) (ho : OrdTo xs m m) {i j : Nat} (hi : i < m) (hj : j < i) : NeaC S C xs m wd (xs.getD i 0).toNat (xs.getD j 0).toNat ↔ NwT E xs wd i j i := by
  have hri := ho.rng i hi
  have hrj := ho.rng j (by omega)
  have pi := posI_at ho hi m hi (Nat.le_refl _)
  obtain ⟨v, hv⟩ : ∃ v, (xs.getD i 0).toNat = v := ⟨_, rfl⟩
  obtain ⟨k, hk⟩ : ∃ k, (xs.getD j 0).toNat = k := ⟨_, rfl⟩
  have hvm : v < m := by omega
  have hkm : k < m := by omega
  unfold NeaC NeT NwT
  rw [hv, hk]
  rw [hv] at pi
  constructor
  · rintro (⟨p, hp, e⟩ | ⟨h1, p, hp, h2, h3⟩)
    · exact .inl ((hE v k hvm hkm).1 (mem_getD.2 ⟨p, hp, e⟩))
    · right
      have hr := row_rng hm hvm hp
      obtain ⟨u, hu⟩ : ∃ u : Nat, (rowL S C v).getD p 0 = (u : Int) := ⟨((rowL S C v).getD p 0).toNat, by omega⟩
      rw [hu, show ((u : Int)).toNat = u by omega] at h2 h3
      have hum : u < m := by omega
      obtain ⟨q, hq, eq, pq⟩ := ho.place hum
      rw [pq, pi] at h2
      refine ⟨h1, q, by omega, ?_, ?_⟩
      · rw [show (xs.getD q 0).toNat = u by omega]
        exact (hE v u hvm hum).1 (mem_getD.2 ⟨p, hp, hu⟩)
      · rw [show (xs.getD q 0).toNat = u by omega]
        exact (hE u k hum hkm).1 h3
  · rintro (e | ⟨h1, q, hq, h2, h3⟩)
    · exact .inl (mem_getD.1 ((hE v k hvm hkm).2 e))
    · right
      have hrq := ho.rng q (by omega)
      have pq := posI_at ho (j := q) (by omega) m (by omega) (Nat.le_refl _)
      obtain ⟨u, hu⟩ : ∃ u, (xs.getD q 0).toNat = u := ⟨_, rfl⟩
      rw [hu] at h2 h3 pq
      have hum : u < m := by omega
      obtain ⟨p, hp, e⟩ := mem_getD.1 ((hE v u hvm hum).2 h2)
      refine ⟨h1, p, hp, ?_, ?_⟩
      · rw [e, show ((u : Int)).toNat = u by omega, pq, pi]; omega
      · rw [e, show ((u : Int)).toNat = u by omega]; exact (hE u k hum hkm).2 h3
theorem bound_same {m : Nat} {S C xs : List Int} {E : Nat → Nat → Prop} {wd : Bool} (hm : MayP (m : Int) (m : Int) S C) (hE : ∀ u v, u < m → v < m → (((v : Nat) : Int) ∈ rowL S C u ↔ E u v)) (ho : OrdTo xs m m) {i : Nat} (hi : i < m) : bnF S C xs m wd (xs.getD i 0).toNat = bwF E xs wd i := by
  unfold bnF bwF
  rw [posI_at ho hi m hi (Nat.le_refl _), show ((i : Int)).toNat = i by omega]
  congr 1
  exact cnP_congr (fun j hj => near_same hm hE ho hi hj)
theorem lgT_same {m q q' : Nat} {S C xs : List Int} {E : Nat → Nat → Prop} {wd : Bool} (hm : MayP (m : Int) (m : Int) S C) (hE : ∀ u v, u < m → v < m → (((v : Nat) : Int) ∈ rowL S C u ↔ E u v)) (ho : OrdTo xs m m) (h : LgT (bnF S C xs m wd) m q) (g : LgT (bwF E xs wd) m q') : q = q' := by
  have h1 : q ≤ q' := by
    rcases h.at_ with e | ⟨v, hv, e⟩
    · omega
    · obtain ⟨i, hi, ei, _⟩ := ho.place hv
      have := bound_same (wd := wd) hm hE ho hi
      rw [show (xs.getD i 0).toNat = v by omega] at this
      have := g.le i hi
      omega
  have h2 : q' ≤ q := by
    rcases g.at_ with e | ⟨i, hi, e⟩
    · omega
    · have hr := ho.rng i hi
      have := bound_same (wd := wd) hm hE ho hi
      have := h.le (xs.getD i 0).toNat (by omega)
      omega
  omega
/-- Rising numbers are those that there are. -/
theorem rise_len {P : Nat → Prop} : ∀ (k : Nat) (L : List Int), (∀ i, i < L.length → 0 ≤ L.getD i 0 ∧ L.getD i 0 < (k : Int)) → (∀ i, 0 < i → i < L.length → L.getD (i - 1) 0 < L.getD i 0) → (∀ c : Nat, c < k → ((c : Int) ∈ L ↔ P c)) → L.length = cnP P k
  | 0, L, h1, _, _ => by
    cases L with
    | nil => rfl
    | cons x l => have := h1 0 (by simp); simp at this; omega
  | k + 1, L, h1, h2, h3 => by
    have hmono : ∀ d i, i + d < L.length → L.getD i 0 + (d : Int) ≤ L.getD (i + d) 0 := by
      intro d
      induction d with
      | zero => intro i hi; simp
      | succ d ih =>
        intro i hi
        have a := ih i (by omega)
        have b := h2 (i + (d + 1)) (by omega) hi
        rw [show i + (d + 1) - 1 = i + d by omega] at b
        omega
    by_cases c : P k
    · obtain ⟨p, hp, e⟩ := mem_getD.1 ((h3 k (by omega)).2 c)
      have hlast : p + 1 = L.length := by
        rcases Nat.lt_or_ge (p + 1) L.length with q | q
        · have a := hmono 1 p q
          have b := h1 (p + 1) q
          omega
        · omega
      have hd : L.dropLast.length = p := by rw [List.length_dropLast]; omega
      have hg : ∀ i, i < p → L.dropLast.getD i 0 = L.getD i 0 := fun i hi => by
        rw [List.dropLast_eq_take, List.getD, List.getElem?_take_of_lt (by omega)]
        rfl
      have ih := rise_len (P := P) k L.dropLast (fun i hi => by
        rw [hd] at hi
        rw [hg i hi]
        have a := hmono (p - i) i (by omega)
        rw [show i + (p - i) = p by omega, e] at a
        have := h1 i (by omega)
        omega) (fun i h0 hi => by
        rw [hd] at hi
        rw [hg i hi, hg (i - 1) (by omega)]
        exact h2 i h0 (by omega)) (fun d hdk => by
        rw [← h3 d (by omega), mem_getD, mem_getD]
        constructor
        · rintro ⟨i, hi, ei⟩
          rw [hd] at hi
          exact ⟨i, by omega, by rw [← hg i hi]; exact ei⟩
        · rintro ⟨i, hi, ei⟩
          have hip : i ≠ p := fun q => by rw [q, e] at ei; omega
          exact ⟨i, by rw [hd]; omega, by rw [hg i (by omega)]; exact ei⟩)
      rw [cnP_yes c, ← ih, hd]
      omega
    · rw [cnP_no c]
      refine rise_len k L (fun i hi => ?_) h2 (fun d hd => h3 d (by omega))
      have := h1 i hi
      have hne : L.getD i 0 ≠ (k : Int) := fun q => c ((h3 k (by omega)).1 (mem_getD.2 ⟨i, hi, q⟩))
      omega
theorem rowL_cnP {R width : Nat} {st cols : List Int} (hm : MayP (R : Int) (width : Int) st cols) {r : Nat} (hr : r < R) : (rowL st cols r).length = cnP (fun c => InC st cols c r) width := by
  obtain ⟨X, Y, hR⟩ := hm.rowAt (k := r) (by omega)
  have hl : rowL st cols r = (cols.drop X).take (Y - X) := by
    unfold rowL
    rw [hR.hX, hR.hY]
    simp
  have hlen : (rowL st cols r).length = Y - X := by
    rw [hl, List.length_take, List.length_drop]
    have := hR.lt
    omega
  have hg : ∀ i, i < Y - X → (rowL st cols r).getD i 0 = cols.getD (X + i) 0 := fun i hi => by
    rw [hl, List.getD, List.getElem?_take_of_lt hi, List.getElem?_drop]
    rfl
  refine rise_len width _ (fun i hi => ?_) (fun i h0 hi => ?_) (fun c hc => rowL_mem hm hr)
  · rw [hlen] at hi
    rw [hg i hi]
    exact hR.row.rng (X + i) (by omega) (by omega)
  · rw [hlen] at hi
    rw [hg i hi, hg (i - 1) (by omega)]
    have := hR.row.up (X + i) (by omega) (by omega)
    rw [show X + i - 1 = X + (i - 1) by omega] at this
    exact this
theorem grR_cnP {P : Nat → Nat → Prop} {u : Nat} : ∀ k, (grR P u k).length = cnP (fun j => P u j) k
  | 0 => rfl
  | k + 1 => by
    rw [cnP_next, ← grR_cnP k]
    simp only [grR, List.length_append]
    split <;> simp
theorem LgT.congr {f g : Nat → Nat} {k y : Nat} (h : LgT f k y) (e : ∀ i, i < k → f i = g i) : LgT g k y :=
  ⟨fun i hi => by rw [← e i hi]; exact h.le i hi, h.at_.imp_right (fun ⟨i, hi, q⟩ => ⟨i, hi, by rw [← e i hi]; exact q⟩)⟩
/-- A graph never has one place alone. -/
theorem gra_two {R : Nat} {st cols : List Int} (hm : MayP (R : Int) (R : Int) st cols) (hg : GraP st cols R R) : cols.length ≠ 1 := by
  intro h1
  have hlast := hm.head.last
  have hfirst := hm.head.first
  rw [h1, show ((R : Int)).toNat = R by omega] at hlast
  have hex : ∀ k, k ≤ R → 0 < st.getD k 0 → ∃ r, r < k ∧ st.getD r 0 ≤ 0 ∧ 0 < st.getD (r + 1) 0 := by
    intro k
    induction k with
    | zero => intro _ h; omega
    | succ k ih =>
      intro hk h
      by_cases c : 0 < st.getD k 0
      · obtain ⟨r, hr, e⟩ := ih (by omega) c
        exact ⟨r, by omega, e⟩
      · exact ⟨k, by omega, by omega, h⟩
  obtain ⟨r, hr, e1, e2⟩ := hex R (Nat.le_refl _) (by omega)
  obtain ⟨X, Y, hR⟩ := hm.rowAt (k := r) (by omega)
  have hrng := hR.row.rng 0 (by have := hR.hX; omega) (by have := hR.hY; omega)
  obtain ⟨c, hc⟩ : ∃ c : Nat, cols.getD 0 0 = (c : Int) := ⟨(cols.getD 0 0).toNat, by omega⟩
  have hin : InC st cols c r := ⟨0, by omega, by omega, hc⟩
  have hcR : c < R := by omega
  obtain ⟨_, hsy, hdi⟩ := hg
  obtain ⟨j, j1, j2, j3⟩ := hsy c r hcR hr hin
  obtain ⟨X', Y', hR'⟩ := hm.rowAt (k := c) (by omega)
  have hj0 : j = 0 := by
    have := hR'.lt
    have := hR'.hY
    omega
  subst hj0
  have hcr : c = r := by
    have := row_one hm (r := c) (k := r) (j := 0) hcR hr (by omega) (by omega) (by omega) (by omega)
    exact this
  subst hcr
  exact hdi ⟨c, hr, hin⟩
end Go.Proofs.YtmlodfgpedoloaaGreat

namespace Go.Proofs.YtmlodfgpedoloaaGreat
open Go.RowKit Go.Deep
set_option linter.unusedVariables false

/-- Both sides' Bound. -/
structure BnT (k rows width : Int) (n1 n2 n : Nat) (st cols xs : List Int) (q er : Int) : Prop where
  one : ∀ (a1 a2 a : Option Addr) (c1 c2 c : Nat) (w : World), SlI w a1 n1 c1 st → SlI w a2 n2 c2 cols → SlI w a n c xs → Calls Tryz.prog 4 #[.int .i64 k, patV rows width a1 n1 c1 a2 n2 c2, .slice a n c] w fun e w' => e = .returned (.tuple #[.int .i64 q, .int .i64 er]) ∧ Below w.heap.size w w'
  two : ∀ (a1 a2 a : Option Addr) (c1 c2 c : Nat) (w : World), SlI w a1 n1 c1 st → SlI w a2 n2 c2 cols → SlI w a n c xs → Calls Tryz.prog 7 #[.int .i64 k, patV rows width a1 n1 c1 a2 n2 c2, .slice a n c] w fun e w' => e = .returned (.tuple #[.int .i64 q, .int .i64 er]) ∧ Below w.heap.size w w'
/-- Both sides' Floor. -/
structure FlT (k rows width : Int) (n1 n2 : Nat) (st cols : List Int) (q er : Int) : Prop where
  one : ∀ (a1 a2 : Option Addr) (c1 c2 : Nat) (w : World), SlI w a1 n1 c1 st → SlI w a2 n2 c2 cols → Calls Tryz.prog 8 #[.int .i64 k, patV rows width a1 n1 c1 a2 n2 c2] w fun e w' => e = .returned (.tuple #[.int .i64 q, .int .i64 er]) ∧ Below w.heap.size w w'
  two : ∀ (a1 a2 : Option Addr) (c1 c2 : Nat) (w : World), SlI w a1 n1 c1 st → SlI w a2 n2 c2 cols → Calls Tryz.prog 9 #[.int .i64 k, patV rows width a1 n1 c1 a2 n2 c2] w fun e w' => e = .returned (.tuple #[.int .i64 q, .int .i64 er]) ∧ Below w.heap.size w w'
/-- A task and the document's things go with one another. -/
theorem bnT_of {k : Int} {G G1 G2 G3 : Nat} {wd : Bool} {R width m : Nat} {S C : List Int} {E : Nat → Nat → Prop} {n1 n2 n : Nat} {st cols xs : List Int} (hn : n ≤ 17592186044000) (hbs : S.length ≤ 17592186044000) (hbc : C.length ≤ 17592186044000) (hm : MayP (m : Int) (m : Int) S C) (hE : ∀ u v, u < m → v < m → (((v : Nat) : Int) ∈ rowL S C u ↔ E u v))
    (hP : ∀ (a1 a2 : Option Addr) (c1 c2 : Nat) W, SlI W a1 n1 c1 st → SlI W a2 n2 c2 cols → Calls Tryz.prog 13 #[.int .i64 k, patV (R : Int) (width : Int) a1 n1 c1 a2 n2 c2] W fun e w' => TkP W w' e G G1 G2 G3 wd R width a1 n1 c1 a2 n2 c2 m S C)
    (hW : ∀ (a1 a2 a : Option Addr) (c1 c2 c : Nat) W, SlI W a1 n1 c1 st → SlI W a2 n2 c2 cols → SlI W a n c xs → Calls Tryz.prog 7 #[.int .i64 k, patV (R : Int) (width : Int) a1 n1 c1 a2 n2 c2, .slice a n c] W fun e w' => BdP xs m (bwF E xs wd) W w' e) : ∃ q er, BnT k (R : Int) (width : Int) n1 n2 n st cols xs q er := by
  have hp : ∀ (a1 a2 a : Option Addr) (c1 c2 c : Nat) W, SlI W a1 n1 c1 st → SlI W a2 n2 c2 cols → SlI W a n c xs → Calls Tryz.prog 4 #[.int .i64 k, patV (R : Int) (width : Int) a1 n1 c1 a2 n2 c2, .slice a n c] W fun e w' => BdP xs m (bnF S C xs m wd) W w' e := fun a1 a2 a c1 c2 c W h1 h2 h3 =>
    cBound_yes k G G1 G2 G3 wd R width m S C a n c xs a1 a2 n1 c1 n2 c2 st cols W h1 h2 h3 hn hbs hbc hm (fun W' => hP a1 a2 c1 c2 W')
  by_cases ho : IsOrd xs m
  · obtain ⟨q, hq⟩ : ∃ q, LgT (bwF E xs wd) m q := by
      have : ∀ j, ∃ q, LgT (bwF E xs wd) j q := by
        intro j
        induction j with
        | zero => exact ⟨0, fun i hi => absurd hi (Nat.not_lt_zero _), .inl rfl⟩
        | succ j ih => obtain ⟨q, h⟩ := ih; exact ⟨_, h.next⟩
      exact this m
    refine ⟨(q : Int), 0, fun a1 a2 a c1 c2 c W h1 h2 h3 => (hp a1 a2 a c1 c2 c W h1 h2 h3).mono (fun e w' h => ?_), fun a1 a2 a c1 c2 c W h1 h2 h3 => (hW a1 a2 a c1 c2 c W h1 h2 h3).mono (fun e w' h => ?_)⟩
    · obtain ⟨q', e', h'⟩ := h.2.1 ho
      rw [lgT_same hm hE ho.2 h' hq] at e'
      exact ⟨e', h.1⟩
    · obtain ⟨q', e', h'⟩ := h.2.1 ho
      rw [h'.one hq] at e'
      exact ⟨e', h.1⟩
  · exact ⟨0, 182, fun a1 a2 a c1 c2 c W h1 h2 h3 => (hp a1 a2 a c1 c2 c W h1 h2 h3).mono (fun e w' h => ⟨h.2.2 ho, h.1⟩), fun a1 a2 a c1 c2 c W h1 h2 h3 => (hW a1 a2 a c1 c2 c W h1 h2 h3).mono (fun e w' h => ⟨h.2.2 ho, h.1⟩)⟩
/-- Both refuse. -/
theorem bnT_no {k rows width er : Int} {n1 n2 n : Nat} {st cols xs : List Int} (her : (er != 0) = true)
    (hP : ∀ (a1 a2 : Option Addr) (c1 c2 : Nat) W, SlI W a1 n1 c1 st → SlI W a2 n2 c2 cols → Calls Tryz.prog 13 #[.int .i64 k, patV rows width a1 n1 c1 a2 n2 c2] W fun e w' => TkN W w' e er)
    (hW : ∀ (a1 a2 : Option Addr) (c1 c2 : Nat) W, SlI W a1 n1 c1 st → SlI W a2 n2 c2 cols → Calls Tryz.prog 17 #[.int .i64 k, patV rows width a1 n1 c1 a2 n2 c2] W fun e w' => e = .returned (.tuple #[.agg #[.int .i64 0, .slice none 0 0], .int .i64 er]) ∧ Below W.heap.size W w') : (∃ q er, BnT k rows width n1 n2 n st cols xs q er) ∧ (∃ q er, FlT k rows width n1 n2 st cols q er) :=
  ⟨⟨0, er, fun a1 a2 a c1 c2 c W h1 h2 h3 => cBound_no k rows width er her a n c a1 a2 n1 c1 n2 c2 st cols W h1 h2 (hP a1 a2 c1 c2), fun a1 a2 a c1 c2 c W h1 h2 h3 => wBound_no k rows width er her a n c a1 a2 n1 c1 n2 c2 st cols W h1 h2 (hW a1 a2 c1 c2)⟩,
   ⟨0, er, fun a1 a2 c1 c2 W h1 h2 => cFloor_no k rows width er her a1 a2 n1 c1 n2 c2 st cols W h1 h2 (hP a1 a2 c1 c2), fun a1 a2 c1 c2 W h1 h2 => wFloor_no k rows width er her a1 a2 n1 c1 n2 c2 st cols W h1 h2 (hW a1 a2 c1 c2)⟩⟩
/-- Both answer alike. -/
theorem flT_of {k rows width : Int} {m n1 n2 : Nat} {st cols : List Int} {P P' : Nat → Prop} (hone : ∀ q q', P q → P' q' → q = q') (hone2 : ∀ q q', P' q → P' q' → q = q') (hex : ∃ q, P' q)
    (hP : ∀ (a1 a2 : Option Addr) (c1 c2 : Nat) W, SlI W a1 n1 c1 st → SlI W a2 n2 c2 cols → Calls Tryz.prog 8 #[.int .i64 k, patV rows width a1 n1 c1 a2 n2 c2] W fun e w' => FlP m P W w' e)
    (hW : ∀ (a1 a2 : Option Addr) (c1 c2 : Nat) W, SlI W a1 n1 c1 st → SlI W a2 n2 c2 cols → Calls Tryz.prog 9 #[.int .i64 k, patV rows width a1 n1 c1 a2 n2 c2] W fun e w' => FlP m P' W w' e) : ∃ q er, FlT k rows width n1 n2 st cols q er := by
  by_cases h0 : m = 0
  · exact ⟨0, 0, fun a1 a2 c1 c2 W h1 h2 => (hP a1 a2 c1 c2 W h1 h2).mono (fun e w' ⟨b, q, eq, z, _⟩ => ⟨by rw [eq, z h0]; rfl, b⟩), fun a1 a2 c1 c2 W h1 h2 => (hW a1 a2 c1 c2 W h1 h2).mono (fun e w' ⟨b, q, eq, z, _⟩ => ⟨by rw [eq, z h0]; rfl, b⟩)⟩
  · obtain ⟨q0, hq0⟩ := hex
    exact ⟨(q0 : Int), 0, fun a1 a2 c1 c2 W h1 h2 => (hP a1 a2 c1 c2 W h1 h2).mono (fun e w' ⟨b, q, eq, _, z⟩ => ⟨by rw [eq, hone q q0 (z (by omega)) hq0], b⟩), fun a1 a2 c1 c2 W h1 h2 => (hW a1 a2 c1 c2 W h1 h2).mono (fun e w' ⟨b, q, eq, _, z⟩ => ⟨by rw [eq, hone2 q q0 (z (by omega)) hq0], b⟩)⟩
end Go.Proofs.YtmlodfgpedoloaaGreat
