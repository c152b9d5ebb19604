/- Tb0 -/
import Derived.Test.YtiadccaaoenccaaDoorTa0
import Derived.Test.YtiadccaaoenccaaDoorRv2
namespace Go.Proofs.YtiadccaaoenccaaDoor
open Go.RowKit Go.Deep
set_option linter.unusedVariables false
def tyG : Nat → TypeId
  | 0 => 49
  | 1 => 49
  | 2 => 59
  | 3 => 59
  | 4 => 23
  | 5 => 23
  | 8 => 64
  | 9 => 64
  | 14 => 22
  | 15 => 22
  | _ => 23
def GO (B : Nat) (f : Nat → Value) (k : Nat) : Prop := k = B ∨ ∃ i, i < 18 ∧ (f i).ownBlock = some k
def GS (B : Nat) (f : Nat → Value) (P : Nat → Prop) (k : Nat) : Prop := GO B f k ∨ P k
structure GvS (w : World) (B : Nat) (f : Nat → Value) (R : Nat → List Value) (P : Nat → Prop) : Prop where
  blk : ∃ cur, w.heap[B]? = some (.cells cur 38) ∧ cur.size = 20 ∧ ∀ i, i < 20 → cur[i]? = some (f i)
  own : ∀ i, i < 18 → w.ownsRow (B + 1) (tyG i) 1 (f i) (R i).length (R i)
  ap : ∀ i j, i < 18 → j < 18 → i ≠ j → ∀ k, (f i).ownBlock = some k → (f j).ownBlock ≠ some k
  pd : ∀ k, P k → k < w.heap.size ∧ ¬ GO B f k
  md : f 18 = .slice none 0 0
def upd {α : Type} (f : Nat → α) (i : Nat) (v : α) : Nat → α := fun j => if j = i then v else f j
theorem upd_same {α : Type} (f : Nat → α) (i : Nat) (v : α) : upd f i v i = v := by unfold upd; rw [if_pos rfl]
theorem upd_ne {α : Type} (f : Nat → α) {i j : Nat} (v : α) (h : j ≠ i) : upd f i v j = f j := by unfold upd; rw [if_neg h]
theorem GvS.bd {w : World} {B : Nat} {f : Nat → Value} {R : Nat → List Value} {P : Nat → Prop} (h : GvS w B f R P) {i : Nat} (hi : i < 18) {k : Nat} (hk : (f i).ownBlock = some k) : B + 1 ≤ k ∧ k < w.heap.size := own_ge (h.own i hi) k hk
theorem GvS.ltB {w : World} {B : Nat} {f : Nat → Value} {R : Nat → List Value} {P : Nat → Prop} (h : GvS w B f R P) : B < w.heap.size := by
  obtain ⟨cur, hc, _⟩ := h.blk
  exact block_lt hc
theorem GvS.go_lt {w : World} {B : Nat} {f : Nat → Value} {R : Nat → List Value} {P : Nat → Prop} (h : GvS w B f R P) {k : Nat} (hk : GO B f k) : k < w.heap.size := by
  rcases hk with rfl | ⟨i, hi, hk⟩
  · exact h.ltB
  · exact (h.bd hi hk).2
theorem GvS.go_ge {w : World} {B : Nat} {f : Nat → Value} {R : Nat → List Value} {P : Nat → Prop} (h : GvS w B f R P) {k : Nat} (hk : GO B f k) : B ≤ k := by
  rcases hk with rfl | ⟨i, hi, hk⟩
  · exact Nat.le_refl _
  · have := (h.bd hi hk).1; omega
theorem GvS.cell {w : World} {B : Nat} {f : Nat → Value} {R : Nat → List Value} {P : Nat → Prop} (h : GvS w B f R P) (i : Nat) (hi : i < 20) : w.cell? ⟨B, i, none⟩ = some (f i) ∧ w.frozen? ⟨B, i, none⟩ = false := by
  obtain ⟨cur, hc, _, hr⟩ := h.blk
  exact ⟨(cell_of_block hc i).trans (hr i hi), frozen_of_block hc _⟩
theorem GvS.chg {T : Nat → Prop} {w w' : World} {B : Nat} {f : Nat → Value} {R : Nat → List Value} {P : Nat → Prop} (h : GvS w B f R P) (k : Chg T w w') (hT : ∀ k, GO B f k → ¬ T k) : GvS w' B f R P := by
  obtain ⟨cur, hc, hr⟩ := h.blk
  refine ⟨⟨cur, by rw [k.block B (block_lt hc) (hT B (.inl rfl))]; exact hc, hr⟩, fun i hi => ownsRow_chg (h.own i hi) k (fun k hk => hT k (.inr ⟨i, hi, hk⟩)), h.ap, fun j hj => ⟨Nat.lt_of_lt_of_le (h.pd j hj).1 k.size, (h.pd j hj).2⟩, h.md⟩
theorem GvS.below {w w' : World} {B : Nat} {f : Nat → Value} {R : Nat → List Value} {P : Nat → Prop} (h : GvS w B f R P) (k : Below w.heap.size w w') : GvS w' B f R P := h.chg (T := fun _ => False) (.of_below k) (fun _ _ => id)
theorem GvS.guard {w : World} {B : Nat} {f : Nat → Value} {R : Nat → List Value} {P : Nat → Prop} (h : GvS w B f R P) (Q : Nat → Prop) (hQ : ∀ k, Q k → k < w.heap.size ∧ ¬ GO B f k) : GvS w B f R Q := ⟨h.blk, h.own, h.ap, hQ, h.md⟩
theorem GvS.row {w w' W : World} {B : Nat} {f : Nat → Value} {R : Nat → List Value} {P : Nat → Prop} (h : GvS w B f R P) {i g m c : Nat} (hi : i < 18) {o : Obj} {x : Value} (hm : (R i).length = m) (hg : (w.alloc o).grownBy w' (f i).ownBlock)
    (ho : w'.ownsRow (B + 1) (tyG i) 1 (.slice (some ⟨g, 0, none⟩) (m + 1) c) (m + 1) (R i ++ [x])) (ha : (f i).ownBlock = some g ∨ g = w.heap.size + 1) (HW : w'.setCell ⟨B, i, none⟩ (.slice (some ⟨g, 0, none⟩) (m + 1) c) = W) :
    GvS W B (upd f i (.slice (some ⟨g, 0, none⟩) (m + 1) c)) (upd R i (R i ++ [x])) P ∧ Chg (fun k => k = B ∨ (f i).ownBlock = some k) w W ∧ ∀ k, k < w.heap.size → ¬ GO B f k → ¬ GO B (upd f i (.slice (some ⟨g, 0, none⟩) (m + 1) c)) k := by
  have hsz := hg.size
  simp only [World.size_alloc] at hsz
  have hB := h.ltB
  have hgB : B + 1 ≤ g := (own_ge ho g rfl).1
  have hgw : g < w'.heap.size := (own_ge ho g rfl).2
  have nB : some B ≠ (f i).ownBlock := fun e => by have := (h.bd hi e.symm).1; omega
  have kk : Chg (fun k => k = B ∨ (f i).ownBlock = some k) w W := by
    rw [← HW]
    exact ((Chg.of_alloc w o).trans (.of_grown hg (fun k hk => .inr hk))).trans (.of_set w' B i _ (.inl rfl))
  have safe : ∀ k, k < w.heap.size → ¬ GO B f k → ¬ GO B (upd f i (.slice (some ⟨g, 0, none⟩) (m + 1) c)) k := by
    rintro k hk hn (e | ⟨j, hj, e⟩)
    · exact hn (.inl e)
    · by_cases hji : j = i
      · subst hji
        rw [upd_same] at e
        have e' : g = k := by simpa [Value.ownBlock] using e
        rcases ha with ha | ha
        · exact hn (.inr ⟨j, hj, by rw [← e']; exact ha⟩)
        · omega
      · rw [upd_ne _ _ hji] at e
        exact hn (.inr ⟨j, hj, e⟩)
  have gne : ∀ j, j < 18 → j ≠ i → (f j).ownBlock ≠ some g := by
    intro j hj hne e
    rcases ha with ha | ha
    · exact h.ap j i hj hi hne g e ha
    · have := (h.bd hj e).2; omega
  refine ⟨⟨?_, ?_, ?_, ?_, (upd_ne _ _ (by omega)).trans h.md⟩, kk, safe⟩
  · obtain ⟨cur, hc, hs, hr⟩ := h.blk
    have e1 : w'.heap[B]? = some (.cells cur 38) := by rw [hg.block B (by simp; omega) nB, Below.heap_alloc _ _ _ (by omega)]; exact hc
    rw [← HW]
    refine ⟨_, set_block e1 i _, by simpa using hs, fun j hj => ?_⟩
    by_cases hji : j = i
    · subst hji
      rw [upd_same, Array.getElem?_setIfInBounds_self_of_lt (by omega)]
    · rw [upd_ne _ _ hji, Array.getElem?_setIfInBounds_ne (fun e => hji e.symm)]
      exact hr j hj
  · intro j hj
    by_cases hji : j = i
    · subst hji
      rw [upd_same, upd_same, ← HW]
      have := ownsRow_chg ho (Chg.of_set (S := fun k => k = B) w' B j (.slice (some ⟨g, 0, none⟩) (m + 1) c) rfl) (fun k hk e => by simp [Value.ownBlock] at hk; omega)
      simpa [hm] using this
    · rw [upd_ne _ _ hji, upd_ne _ _ hji]
      refine ownsRow_chg (h.own j hj) kk ?_
      rintro k hk (e | e)
      · have := (h.bd hj hk).1; omega
      · exact h.ap j i hj hi hji k hk e
  · intro p q hp hq hpq k
    by_cases hpi : p = i
    · subst hpi
      rw [upd_same, upd_ne _ _ (fun e => hpq e.symm)]
      intro e e2
      have e' : g = k := by simpa [Value.ownBlock] using e
      exact gne q hq (fun e => hpq e.symm) (by rw [e']; exact e2)
    · by_cases hqi : q = i
      · subst hqi
        rw [upd_same, upd_ne _ _ hpi]
        intro e e2
        have e' : g = k := by simpa [Value.ownBlock] using e2
        exact gne p hp hpi (by rw [e']; exact e)
      · rw [upd_ne _ _ hpi, upd_ne _ _ hqi]
        exact h.ap p q hp hq hpq k
  · intro k hk
    exact ⟨Nat.lt_of_lt_of_le (h.pd k hk).1 kk.size, safe k (h.pd k hk).1 (h.pd k hk).2⟩
theorem GvS.two {w w' : World} {B : Nat} {f : Nat → Value} {R : Nat → List Value} {P : Nat → Prop} (h : GvS w B f R P) {i j : Nat} (hi : i < 18) (hj : j < 18) (hij : i ≠ j) {v0 v1 : Value} {r0 r1 : List Value}
    (hb : ∃ cur, w'.heap[B]? = some (.cells cur 38) ∧ cur.size = 20 ∧ cur[i]? = some v0 ∧ cur[j]? = some v1 ∧ ∀ q, q ≠ i → q ≠ j → q < 20 → cur[q]? = some (f q))
    (o0 : w'.ownsRow (B + 1) (tyG i) 1 v0 r0.length r0) (o1 : w'.ownsRow (B + 1) (tyG j) 1 v1 r1.length r1) (hap : ∀ k, v0.ownBlock = some k → v1.ownBlock ≠ some k)
    (hc : Chg (Own B (f i) (f j)) w w') (hs : ∀ k, k < w.heap.size → ¬ Own B (f i) (f j) k → ¬ Own B v0 v1 k) :
    GvS w' B (upd (upd f i v0) j v1) (upd (upd R i r0) j r1) P ∧ Chg (GO B f) w w' ∧ ∀ k, k < w.heap.size → ¬ GO B f k → ¬ GO B (upd (upd f i v0) j v1) k := by
  have nO : ∀ q, q < 18 → q ≠ i → q ≠ j → ∀ k, (f q).ownBlock = some k → ¬ Own B (f i) (f j) k := by
    rintro q hq h1 h2 k hk (e | e | e)
    · have := (h.bd hq hk).1; omega
    · exact h.ap q i hq hi h1 k hk e
    · exact h.ap q j hq hj h2 k hk e
  have nV : ∀ q, q < 18 → q ≠ i → q ≠ j → ∀ k, (f q).ownBlock = some k → v0.ownBlock ≠ some k ∧ v1.ownBlock ≠ some k := by
    intro q hq h1 h2 k hk
    have := hs k (h.bd hq hk).2 (nO q hq h1 h2 k hk)
    exact ⟨fun e => this (.inr (.inl e)), fun e => this (.inr (.inr e))⟩
  have ui : upd (upd f i v0) j v1 i = v0 := by rw [upd_ne _ _ hij, upd_same]
  have uj : upd (upd f i v0) j v1 j = v1 := upd_same _ _ _
  have uq : ∀ q, q ≠ i → q ≠ j → upd (upd f i v0) j v1 q = f q := fun q h1 h2 => by rw [upd_ne _ _ h2, upd_ne _ _ h1]
  have sub : ∀ k, Own B (f i) (f j) k → GO B f k := by
    rintro k (e | e | e)
    · exact .inl e
    · exact .inr ⟨i, hi, e⟩
    · exact .inr ⟨j, hj, e⟩
  have safe : ∀ k, k < w.heap.size → ¬ GO B f k → ¬ GO B (upd (upd f i v0) j v1) k := by
    rintro k hk hn (e | ⟨q, hq, e⟩)
    · exact hn (.inl e)
    · have hO := hs k hk (fun e => hn (sub k e))
      by_cases h1 : q = i
      · subst h1
        rw [ui] at e
        exact hO (.inr (.inl e))
      · by_cases h2 : q = j
        · subst h2
          rw [uj] at e
          exact hO (.inr (.inr e))
        · rw [uq q h1 h2] at e
          exact hn (.inr ⟨q, hq, e⟩)
  refine ⟨⟨?_, ?_, ?_, ?_, (upd_ne _ _ (by omega)).trans ((upd_ne _ _ (by omega)).trans h.md)⟩, hc.mono (fun k _ hk => sub k hk), safe⟩
  · obtain ⟨cur, hc, hsz, h0, h1, hr⟩ := hb
    refine ⟨cur, hc, hsz, fun q hq => ?_⟩
    by_cases h1' : q = i
    · subst h1'; rw [ui]; exact h0
    · by_cases h2 : q = j
      · subst h2; rw [uj]; exact h1
      · rw [uq q h1' h2]; exact hr q h1' h2 hq
  · intro q hq
    by_cases h1 : q = i
    · subst h1
      rw [ui, upd_ne _ _ hij, upd_same]
      exact o0
    · by_cases h2 : q = j
      · subst h2
        rw [uj, upd_same]
        exact o1
      · rw [uq q h1 h2, upd_ne _ _ h2, upd_ne _ _ h1]
        exact ownsRow_chg (h.own q hq) hc (nO q hq h1 h2)
  · intro p q hp hq hpq k
    by_cases p1 : p = i
    · subst p1
      rw [ui]
      by_cases q2 : q = j
      · subst q2; rw [uj]; exact hap k
      · rw [uq q (fun e => hpq e.symm) q2]
        exact fun e e2 => (nV q hq (fun e => hpq e.symm) q2 k e2).1 e
    · by_cases p2 : p = j
      · subst p2
        rw [uj]
        by_cases q1 : q = i
        · subst q1; rw [ui]; exact fun e e2 => hap k e2 e
        · rw [uq q q1 (fun e => hpq e.symm)]
          exact fun e e2 => (nV q hq q1 (fun e => hpq e.symm) k e2).2 e
      · rw [uq p p1 p2]
        by_cases q1 : q = i
        · subst q1; rw [ui]; exact fun e e2 => (nV p hp p1 p2 k e).1 e2
        · by_cases q2 : q = j
          · subst q2; rw [uj]; exact fun e e2 => (nV p hp p1 p2 k e).2 e2
          · rw [uq q q1 q2]
            exact h.ap p q hp hq hpq k
  · intro k hk
    exact ⟨Nat.lt_of_lt_of_le (h.pd k hk).1 hc.size, safe k (h.pd k hk).1 (h.pd k hk).2⟩

structure Fp where
  p : World → Prop
  fp : Nat → Prop
  st : ∀ {T : Nat → Prop} {w w' : World}, p w → Chg T w w' → (∀ k, fp k → ¬ T k) → p w'
  lt : ∀ {w : World}, p w → ∀ k, fp k → k < w.heap.size
def Fp.ok (F : Fp) (w : World) (S : Nat → Prop) : Prop := F.p w ∧ ∀ k, F.fp k → ¬ S k
theorem Fp.step {F : Fp} {w w' : World} {S S' T : Nat → Prop} (h : F.ok w S) (k : Chg T w w') (h1 : ∀ k, k < w.heap.size → ¬ S k → ¬ T k) (h2 : ∀ k, k < w.heap.size → ¬ S k → ¬ S' k) : F.ok w' S' :=
  ⟨F.st h.1 k (fun j hj => h1 j (F.lt h.1 j hj) (h.2 j hj)), fun j hj => h2 j (F.lt h.1 j hj) (h.2 j hj)⟩
def inB (a : Option Addr) (e : Prop) (k : Nat) : Prop := ∃ z, a = some z ∧ e ∧ z.block = k
def FpE (e : Ent) : Fp := ⟨fun w => Sl w (some ⟨e.b, 0, none⟩) (e.xs.length + 3) e.c (e.xs ++ marks) ∧ Sl w (some ⟨e.b0, 0, none⟩) (e.xs.length + 3) e.c0 (e.xs ++ marks), fun k => k = e.b ∨ k = e.b0,
  fun h k hf => ⟨h.1.chg k (fun x hx _ => by cases hx; exact hf _ (.inl rfl)), h.2.chg k (fun x hx _ => by cases hx; exact hf _ (.inr rfl))⟩,
  fun h k hk => by
    have hne : e.xs ++ marks ≠ [] := by simp [marks]
    rcases hk with rfl | rfl
    · exact h.1.block_lt hne _ rfl
    · exact h.2.block_lt hne _ rfl⟩
def FpI (e : EntI) : Fp := ⟨fun w => (SlI w (some ⟨e.b, 0, none⟩) (e.xs.length + 3) e.c (e.xs ++ marksI) ∧ SlI w (some ⟨e.b0, 0, none⟩) (e.xs.length + 3) e.c0 (e.xs ++ marksI)) ∧ e.xs.length ≤ 17592186044000, fun k => k = e.b ∨ k = e.b0,
  fun h k hf => ⟨⟨h.1.1.chg k (fun x hx _ => by cases hx; exact hf _ (.inl rfl)), h.1.2.chg k (fun x hx _ => by cases hx; exact hf _ (.inr rfl))⟩, h.2⟩,
  fun h k hk => by
    have hne : e.xs ++ marksI ≠ [] := by simp [marksI]
    rcases hk with rfl | rfl
    · exact h.1.1.block_lt hne _ rfl
    · exact h.1.2.block_lt hne _ rfl⟩
def nqB (p : Nq) (k : Nat) : Prop := inB p.a (p.x ≠ []) k ∨ inB p.b (p.y ≠ []) k
theorem NqL.st {T : Nat → Prop} {w w' : World} {p : Nq} (h : NqL w p) (k : Chg T w w') (hf : ∀ k, nqB p k → ¬ T k) : NqL w' p :=
  h.chg k ⟨fun z hz hne => hf _ (.inl ⟨z, hz, hne, rfl⟩), fun z hz hne => hf _ (.inr ⟨z, hz, hne, rfl⟩)⟩
theorem NqL.lt {w : World} {p : Nq} (h : NqL w p) (k : Nat) (hk : nqB p k) : k < w.heap.size := by
  rcases hk with ⟨z, hz, hne, rfl⟩ | ⟨z, hz, hne, rfl⟩
  · exact h.x.block_lt hne z hz
  · exact h.y.block_lt hne z hz
theorem FarN.of {S : Nat → Prop} {p : Nq} (h : ∀ k, nqB p k → ¬ S k) : FarN S p := ⟨fun z hz hne => h _ (.inl ⟨z, hz, hne, rfl⟩), fun z hz hne => h _ (.inr ⟨z, hz, hne, rfl⟩)⟩
theorem FarN.to {S : Nat → Prop} {p : Nq} (h : FarN S p) : ∀ k, nqB p k → ¬ S k := by
  rintro k (⟨z, hz, hne, rfl⟩ | ⟨z, hz, hne, rfl⟩)
  · exact h.x z hz hne
  · exact h.y z hz hne
structure OpsOk (w : World) (A N : Nat) (os : List On) : Prop where
  fil : FilC 54 w A (N * 7) (celO os)
  le : os.length ≤ N
  each : ∀ o ∈ os, NqL w o.p
def opsB (A : Nat) (os : List On) (k : Nat) : Prop := k = A ∨ ∃ o ∈ os, nqB o.p k
theorem OpsOk.st {T : Nat → Prop} {w w' : World} {A N : Nat} {os : List On} (h : OpsOk w A N os) (k : Chg T w w') (hf : ∀ k, opsB A os k → ¬ T k) : OpsOk w' A N os :=
  ⟨h.fil.chg k (hf _ (.inl rfl)), h.le, fun o ho => (h.each o ho).st k (fun j hj => hf j (.inr ⟨o, ho, hj⟩))⟩
theorem OpsOk.lt {w : World} {A N : Nat} {os : List On} (h : OpsOk w A N os) (k : Nat) (hk : opsB A os k) : k < w.heap.size := by
  rcases hk with rfl | ⟨o, ho, hk⟩
  · exact h.fil.lt
  · exact (h.each o ho).lt k hk
structure Tn where
  b : Nat
  c : Nat
  os : List On
  b0 : Nat
  c0 : Nat
  os0 : List On
def Tn.v (q : Tn) : Value := .slice (some ⟨q.b, 0, none⟩) q.os.length q.c
def Tn.v0 (q : Tn) : Value := .slice (some ⟨q.b0, 0, none⟩) q.os0.length q.c0
def FpT (t : Tn) : Fp := ⟨fun w => (OpsOk w t.b t.c t.os ∧ OpsOk w t.b0 t.c0 t.os0) ∧ t.os.map conO = t.os0.map conO, fun k => opsB t.b t.os k ∨ opsB t.b0 t.os0 k,
  fun h k hf => ⟨⟨h.1.1.st k (fun j hj => hf j (.inl hj)), h.1.2.st k (fun j hj => hf j (.inr hj))⟩, h.2⟩,
  fun h k hk => hk.elim (h.1.1.lt k) (h.1.2.lt k)⟩
def rowT (es : List Ent) (is : List EntI) (ts : List Tn) : Nat → List Value
  | 0 => es.map Ent.v
  | 1 => es.map Ent.v0
  | 4 => is.map EntI.v
  | 5 => is.map EntI.v0
  | 14 => ts.map Tn.v
  | 15 => ts.map Tn.v0
  | _ => []
structure GvT (w : World) (B : Nat) (f : Nat → Value) (P : Nat → Prop) (es : List Ent) (is : List EntI) (ts : List Tn) : Prop where
  gv : GvS w B f (rowT es is ts) P
  e : ∀ x ∈ es, (FpE x).ok w (GS B f P)
  i : ∀ x ∈ is, (FpI x).ok w (GS B f P)
  t : ∀ x ∈ ts, (FpT x).ok w (GS B f P)
theorem gs_safe {B : Nat} {f f' : Nat → Value} {P : Nat → Prop} {w : World} (h : ∀ k, k < w.heap.size → ¬ GO B f k → ¬ GO B f' k) : ∀ k, k < w.heap.size → ¬ GS B f P k → ¬ GS B f' P k :=
  fun k hk hn e => e.elim (h k hk (fun e => hn (.inl e))) (fun e => hn (.inr e))
theorem GvT.chg {T : Nat → Prop} {w w' : World} {B : Nat} {f : Nat → Value} {P : Nat → Prop} {es : List Ent} {is : List EntI} {ts : List Tn} (h : GvT w B f P es is ts) (k : Chg T w w') (hT : ∀ k, k < w.heap.size → T k → P k) : GvT w' B f P es is ts := by
  have h1 : ∀ k, k < w.heap.size → ¬ GS B f P k → ¬ T k := fun k hk hn e => hn (.inr (hT k hk e))
  exact ⟨h.gv.chg k (fun j hj e => (h.gv.pd j (hT j (h.gv.go_lt hj) e)).2 hj), fun x hx => Fp.step (h.e x hx) k h1 (fun _ _ => id), fun x hx => Fp.step (h.i x hx) k h1 (fun _ _ => id), fun x hx => Fp.step (h.t x hx) k h1 (fun _ _ => id)⟩
theorem GvT.below {w w' : World} {B : Nat} {f : Nat → Value} {P : Nat → Prop} {es : List Ent} {is : List EntI} {ts : List Tn} (h : GvT w B f P es is ts) (k : Below w.heap.size w w') : GvT w' B f P es is ts := h.chg (T := fun _ => False) (.of_below k) (fun _ _ e => e.elim)
theorem GvT.guard {w : World} {B : Nat} {f : Nat → Value} {P : Nat → Prop} {es : List Ent} {is : List EntI} {ts : List Tn} (h : GvT w B f P es is ts) (Q : Nat → Prop) (hQ : ∀ k, Q k → k < w.heap.size) (hn : ∀ k, Q k → ¬ GO B f k ∧ (∀ x ∈ es, ¬ (FpE x).fp k) ∧ (∀ x ∈ is, ¬ (FpI x).fp k) ∧ ∀ x ∈ ts, ¬ (FpT x).fp k) : GvT w B f Q es is ts :=
  ⟨h.gv.guard Q (fun k hk => ⟨hQ k hk, (hn k hk).1⟩), fun x hx => ⟨(h.e x hx).1, fun k hk e => e.elim (fun e => (h.e x hx).2 k hk (.inl e)) (fun e => (hn k e).2.1 x hx hk)⟩, fun x hx => ⟨(h.i x hx).1, fun k hk e => e.elim (fun e => (h.i x hx).2 k hk (.inl e)) (fun e => (hn k e).2.2.1 x hx hk)⟩, fun x hx => ⟨(h.t x hx).1, fun k hk e => e.elim (fun e => (h.t x hx).2 k hk (.inl e)) (fun e => (hn k e).2.2.2 x hx hk)⟩⟩
theorem GvT.fresh {w : World} {B : Nat} {f : Nat → Value} {P : Nat → Prop} {es : List Ent} {is : List EntI} {ts : List Tn} (h : GvT w B f P es is ts) (o : Obj) : GvT (w.alloc o) B f (fun k => P k ∨ k = w.heap.size) es is ts := by
  have h2 := h.below ((Below.refl _ _).alloc (Nat.le_refl _) o)
  refine h2.guard _ (fun k hk => ?_) (fun k hk => ?_)
  · rcases hk with hk | rfl
    · exact (h2.gv.pd k hk).1
    · simp
  · rcases hk with hk | rfl
    · exact ⟨(h2.gv.pd k hk).2, fun x hx e => (h2.e x hx).2 k e (.inr hk), fun x hx e => (h2.i x hx).2 k e (.inr hk), fun x hx e => (h2.t x hx).2 k e (.inr hk)⟩
    · refine ⟨fun e => ?_, fun x hx e => ?_, fun x hx e => ?_, fun x hx e => ?_⟩
      · have := h.gv.go_lt e; omega
      · have := (FpE x).lt (h.e x hx).1 _ e; omega
      · have := (FpI x).lt (h.i x hx).1 _ e; omega
      · have := (FpT x).lt (h.t x hx).1 _ e; omega
theorem GvT.mono {w : World} {B : Nat} {f : Nat → Value} {P Q : Nat → Prop} {es : List Ent} {is : List EntI} {ts : List Tn} (h : GvT w B f P es is ts) (hQ : ∀ k, Q k → P k) : GvT w B f Q es is ts :=
  ⟨h.gv.guard _ (fun k hk => h.gv.pd k (hQ k hk)), fun x hx => ⟨(h.e x hx).1, fun k hk e => (h.e x hx).2 k hk (e.elim .inl (fun e => .inr (hQ k e)))⟩, fun x hx => ⟨(h.i x hx).1, fun k hk e => (h.i x hx).2 k hk (e.elim .inl (fun e => .inr (hQ k e)))⟩, fun x hx => ⟨(h.t x hx).1, fun k hk e => (h.t x hx).2 k hk (e.elim .inl (fun e => .inr (hQ k e)))⟩⟩
theorem GvT.toR {w : World} {B : Nat} {f : Nat → Value} {P : Nat → Prop} {es : List Ent} {is : List EntI} {ts : List Tn} (h : GvT w B f P es is ts) : GivR w B (f 0) (f 1) es f := by
  obtain ⟨cur, hc, hs, hr⟩ := h.gv.blk
  refine ⟨⟨cur, hc, hs, hr 0 (by omega), hr 1 (by omega), fun i _ hi => hr i hi⟩, ?_, ?_, h.gv.ap 0 1 (by omega) (by omega) (by omega), fun e he => ?_⟩
  · have := h.gv.own 0 (by omega)
    simpa [rowT, tyG] using this
  · have := h.gv.own 1 (by omega)
    simpa [rowT, tyG] using this
  · have E := h.e e he
    have sub : ∀ k, Own B (f 0) (f 1) k → GS B f P k := by
      rintro k (e | e | e)
      · exact .inl (.inl e)
      · exact .inl (.inr ⟨0, by omega, e⟩)
      · exact .inl (.inr ⟨1, by omega, e⟩)
    exact ⟨E.1.1, E.1.2, fun e => E.2 _ (.inl rfl) (sub _ e), fun e => E.2 _ (.inr rfl) (sub _ e)⟩
theorem GvT.toI {w : World} {B : Nat} {f : Nat → Value} {P : Nat → Prop} {es : List Ent} {is : List EntI} {ts : List Tn} (h : GvT w B f P es is ts) : GivI w B (f 4) (f 5) is f := by
  obtain ⟨cur, hc, hs, hr⟩ := h.gv.blk
  refine ⟨⟨cur, hc, hs, hr 4 (by omega), hr 5 (by omega), fun i _ hi => hr i hi⟩, ?_, ?_, h.gv.ap 4 5 (by omega) (by omega) (by omega), fun e he => ?_⟩
  · have := h.gv.own 4 (by omega)
    simpa [rowT, tyG] using this
  · have := h.gv.own 5 (by omega)
    simpa [rowT, tyG] using this
  · have E := h.i e he
    have sub : ∀ k, Own B (f 4) (f 5) k → GS B f P k := by
      rintro k (e | e | e)
      · exact .inl (.inl e)
      · exact .inl (.inr ⟨4, by omega, e⟩)
      · exact .inl (.inr ⟨5, by omega, e⟩)
    exact ⟨E.1.1.1, E.1.1.2, fun e => E.2 _ (.inl rfl) (sub _ e), fun e => E.2 _ (.inr rfl) (sub _ e)⟩
theorem GvT.ofR {w w' : World} {B : Nat} {f : Nat → Value} {P : Nat → Prop} {es fs : List Ent} {is : List EntI} {ts : List Tn} (h : GvT w B f P es is ts) {v0 v1 : Value} (g : GivR w' B v0 v1 (es ++ fs) f) (hc : Chg (Own B (f 0) (f 1)) w w') (hs : ∀ k, k < w.heap.size → ¬ Own B (f 0) (f 1) k → ¬ Own B v0 v1 k) (hf : ∀ e ∈ fs, w.heap.size ≤ e.b ∧ w.heap.size ≤ e.b0) :
    GvT w' B (upd (upd f 0 v0) 1 v1) P (es ++ fs) is ts ∧ Chg (GO B f) w w' ∧ ∀ k, k < w.heap.size → ¬ GO B f k → ¬ GO B (upd (upd f 0 v0) 1 v1) k := by
  obtain ⟨cur, hb, hsz, h0, h1, hr⟩ := g.blk
  obtain ⟨G, k1, k2⟩ := h.gv.two (i := 0) (j := 1) (by omega) (by omega) (by omega) ⟨cur, hb, hsz, h0, h1, fun q q0 q1 hq => hr q (by omega) hq⟩ (r0 := (es ++ fs).map Ent.v) (r1 := (es ++ fs).map Ent.v0) (by simpa [tyG] using g.own0) (by simpa [tyG] using g.own1) g.apart hc hs
  have eR : upd (upd (rowT es is ts) 0 ((es ++ fs).map Ent.v)) 1 ((es ++ fs).map Ent.v0) = rowT (es ++ fs) is ts := by
    funext q
    unfold upd rowT
    split
    · rename_i e; subst e; rfl
    · split
      · rename_i e; subst e; rfl
      · match q with
        | 0 => omega
        | 1 => omega
        | 2 | 3 | 4 | 5 | 6 | 7 | 8 | 9 | 10 | 11 | 12 | 13 | 14 | 15 => rfl
        | n + 16 => rfl
  rw [eR] at G
  have t1 : ∀ k, k < w.heap.size → ¬ GS B f P k → ¬ GO B f k := fun k _ hn e => hn (.inl e)
  have t2 := gs_safe (P := P) k2
  refine ⟨⟨G, fun x hx => ?_, fun x hx => Fp.step (h.i x hx) k1 t1 t2, fun x hx => Fp.step (h.t x hx) k1 t1 t2⟩, k1, k2⟩
  rcases List.mem_append.1 hx with hx' | hx'
  · exact Fp.step (h.e x hx') k1 t1 t2
  · have E := g.ents x hx
    have F := hf x hx'
    have key : ∀ k, w.heap.size ≤ k → ¬ Own B v0 v1 k → ¬ GS B (upd (upd f 0 v0) 1 v1) P k := by
      rintro k hk hn ((e | ⟨q, hq, e⟩) | e)
      · exact hn (.inl e)
      · by_cases q0 : q = 0
        · subst q0; rw [upd_ne _ _ (by omega), upd_same] at e; exact hn (.inr (.inl e))
        · by_cases q1 : q = 1
          · subst q1; rw [upd_same] at e; exact hn (.inr (.inr e))
          · rw [upd_ne _ _ q1, upd_ne _ _ q0] at e
            have := (h.gv.bd hq e).2; omega
      · have := (h.gv.pd k e).1; omega
    refine ⟨⟨E.sl, E.sl0⟩, ?_⟩
    rintro k (rfl | rfl)
    · exact key _ F.1 E.s
    · exact key _ F.2 E.s0
theorem GvT.ofI {w w' : World} {B : Nat} {f : Nat → Value} {P : Nat → Prop} {es : List Ent} {is : List EntI} {ts : List Tn} (h : GvT w B f P es is ts) {v0 v1 : Value} {E : EntI} (g : GivI w' B v0 v1 (is ++ [E]) f) (hc : Chg (Own B (f 4) (f 5)) w w') (hs : ∀ k, k < w.heap.size → ¬ Own B (f 4) (f 5) k → ¬ Own B v0 v1 k) (hf : w.heap.size ≤ E.b ∧ w.heap.size ≤ E.b0) (hl : E.xs.length ≤ 17592186044000) :
    GvT w' B (upd (upd f 4 v0) 5 v1) P es (is ++ [E]) ts ∧ Chg (GO B f) w w' ∧ ∀ k, k < w.heap.size → ¬ GO B f k → ¬ GO B (upd (upd f 4 v0) 5 v1) k := by
  obtain ⟨cur, hb, hsz, h0, h1, hr⟩ := g.blk
  obtain ⟨G, k1, k2⟩ := h.gv.two (i := 4) (j := 5) (by omega) (by omega) (by omega) ⟨cur, hb, hsz, h0, h1, fun q q0 q1 hq => hr q ⟨q0, q1⟩ hq⟩ (r0 := (is ++ [E]).map EntI.v) (r1 := (is ++ [E]).map EntI.v0) (by simpa [tyG] using g.own0) (by simpa [tyG] using g.own1) g.apart hc hs
  have eR : upd (upd (rowT es is ts) 4 ((is ++ [E]).map EntI.v)) 5 ((is ++ [E]).map EntI.v0) = rowT es (is ++ [E]) ts := by
    funext q
    unfold upd rowT
    split
    · rename_i e; subst e; rfl
    · split
      · rename_i e; subst e; rfl
      · match q with
        | 4 => omega
        | 5 => omega
        | 0 | 1 | 2 | 3 | 6 | 7 | 8 | 9 | 10 | 11 | 12 | 13 | 14 | 15 => rfl
        | n + 16 => rfl
  rw [eR] at G
  have t1 : ∀ k, k < w.heap.size → ¬ GS B f P k → ¬ GO B f k := fun k _ hn e => hn (.inl e)
  have t2 := gs_safe (P := P) k2
  refine ⟨⟨G, fun x hx => Fp.step (h.e x hx) k1 t1 t2, fun x hx => ?_, fun x hx => Fp.step (h.t x hx) k1 t1 t2⟩, k1, k2⟩
  rcases List.mem_append.1 hx with hx' | hx'
  · exact Fp.step (h.i x hx') k1 t1 t2
  · obtain rfl := List.mem_singleton.1 hx'
    have E := g.ents x hx
    have key : ∀ k, w.heap.size ≤ k → ¬ Own B v0 v1 k → ¬ GS B (upd (upd f 4 v0) 5 v1) P k := by
      rintro k hk hn ((e | ⟨q, hq, e⟩) | e)
      · exact hn (.inl e)
      · by_cases q0 : q = 4
        · subst q0; rw [upd_ne _ _ (by omega), upd_same] at e; exact hn (.inr (.inl e))
        · by_cases q1 : q = 5
          · subst q1; rw [upd_same] at e; exact hn (.inr (.inr e))
          · rw [upd_ne _ _ q1, upd_ne _ _ q0] at e
            have := (h.gv.bd hq e).2; omega
      · have := (h.gv.pd k e).1; omega
    refine ⟨⟨⟨E.sl, E.sl0⟩, hl⟩, ?_⟩
    rintro k (rfl | rfl)
    · exact key _ hf.1 E.s
    · exact key _ hf.2 E.s0
end Go.Proofs.YtiadccaaoenccaaDoor
