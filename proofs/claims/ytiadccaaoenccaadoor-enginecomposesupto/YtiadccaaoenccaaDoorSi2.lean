/- Si2 -/
import Derived.Test.YtiadccaaoenccaaDoorSi1
namespace Go.Proofs.YtiadccaaoenccaaDoor
open Go.RowKit Go.Deep
set_option linter.unusedVariables false
theorem CellsI.chg {S : Nat → Prop} {w w' : World} {b off : Nat} {xs : List Int} (h : CellsI w b off xs) (k : Chg S w w') (hs : ¬ S b) : CellsI w' b off xs :=
  fun i hi => k.cell hs (h i hi)

theorem SlI.chg {S : Nat → Prop} {w w' : World} {a : Option Addr} {n c : Nat} {xs : List Int} (h : SlI w a n c xs) (k : Chg S w w') (hs : ∀ x, a = some x → xs ≠ [] → ¬ S x.block) : SlI w' a n c xs :=
  ⟨h.len, h.le, h.cap, h.cells.elim .inl (fun ⟨b, off, e, kk⟩ => by
    by_cases hx : xs = []
    · exact .inl hx
    · exact .inr ⟨b, off, e, kk.chg k (hs _ e hx)⟩)⟩

theorem SlI.block_lt {w : World} {a : Option Addr} {n c : Nat} {xs : List Int} (h : SlI w a n c xs) (hx : xs ≠ []) : ∀ x, a = some x → x.block < w.heap.size := by
  intro x hx'
  rcases h.cells with e | ⟨b, off, e, kk⟩
  · exact absurd e hx
  · rw [e] at hx'
    cases hx'
    have := kk 0 (by cases xs with | nil => exact absurd rfl hx | cons => simp)
    exact World.block_lt_of_cell? _ _ this

structure EntI where
  b : Nat
  c : Nat
  b0 : Nat
  c0 : Nat
  xs : List Int

def marksI : List Int := [-41, -42, -43]
def EntI.v (e : EntI) : Value := .slice (some ⟨e.b, 0, none⟩) (e.xs.length + 3) e.c
def EntI.v0 (e : EntI) : Value := .slice (some ⟨e.b0, 0, none⟩) (e.xs.length + 3) e.c0

structure EntOkI (w : World) (B : Nat) (v0 v1 : Value) (e : EntI) : Prop where
  sl : SlI w (some ⟨e.b, 0, none⟩) (e.xs.length + 3) e.c (e.xs ++ marksI)
  sl0 : SlI w (some ⟨e.b0, 0, none⟩) (e.xs.length + 3) e.c0 (e.xs ++ marksI)
  s : ¬ Own B v0 v1 e.b
  s0 : ¬ Own B v0 v1 e.b0

theorem Tryd.info_ints : (Tryd.prog.info? 23).map (fun i => (i.zero, i.size, i.bytes)) = some (some (.slice none 0 0), 1, 24) := by kernel_rfl
theorem own_of_copyI {w w1 : World} {n : Nat} {cur : Array Value} {xs : List Int} (hl : xs.length = n) (hn : n ≤ 17592186044000) (hblk : w1.heap[w.heap.size]? = some (.cells cur 3)) (hsz : cur.size = n + 3)
    (hpre : ∀ i, i < n → cur[i]? = some (.int .i64 (xs.getD i 0))) : w1.ownsRow w.heap.size 3 1 (.slice (some ⟨w.heap.size, 0, none⟩) n (n + 3)) n (valsI xs) := by
  refine ⟨by simp [valsI, hl], .inr ⟨w.heap.size, n + 3, cur, rfl, Nat.le_refl _, hblk, by omega, ?_, by omega, ?_⟩⟩
  · unfold maxLen; omega
  · apply List.ext_getElem?
    intro i
    by_cases hi : i < n
    · have h1 := hpre i hi
      rw [vals_getI (by omega)]
      simpa [List.getElem?_take, hi] using h1
    · rw [List.getElem?_eq_none (by simp; omega), List.getElem?_eq_none (by simp [valsI]; omega)]

theorem sl_of_ownI {w : World} {base g n c : Nat} {xs : List Int} (h : w.ownsRow base 3 1 (.slice (some ⟨g, 0, none⟩) n c) n (valsI xs)) : SlI w (some ⟨g, 0, none⟩) n c xs := by
  obtain ⟨hl, h2⟩ := h
  have hl' : xs.length = n := by simpa [valsI] using hl
  rcases h2 with ⟨h2, h3⟩ | ⟨g', cap, cur, h3, h4, h5, h6, h7, h8, h9⟩
  · cases h2
  · injection h3 with e1 e2 e3
    injection e1 with e1
    injection e1 with e1
    subst e1 e3
    refine ⟨hl', h6, h7, .inr ⟨_, _, rfl, cells_of_blockI h5 ?_⟩⟩
    have := take_valsI hl' (by simpa using h9)
    simpa using this

theorem vals_appendI (xs ys : List Int) : valsI xs ++ valsI ys = valsI (xs ++ ys) := by simp [valsI]

theorem after_copyI {W w5 : World} {B n : Nat} {v1 : Value} {xs : List Value} (q7 : B < W.heap.size) (q5 : W.cell? ⟨B, 5, none⟩ = some v1) (q6 : W.frozen? ⟨B, 5, none⟩ = false) (ho : W.ownsRow (B + 1) 23 1 v1 n xs)
    (hb : Below W.heap.size W.drew w5) : w5.ownsRow (B + 1) 23 1 v1 n xs ∧ w5.cell? ⟨B, 5, none⟩ = some v1 ∧ w5.frozen? ⟨B, 5, none⟩ = false ∧ B < w5.heap.size := by
  have hb' : Below W.heap.size W w5 := (Below.drew (Below.refl _ _)).trans hb
  exact ⟨ownsRow_chg ho (.of_below (S := fun _ => False) hb') (fun _ _ => id), (hb'.cell q7).trans q5, (hb'.frozen q7).trans q6, Nat.lt_of_lt_of_le q7 hb'.size⟩

theorem after_appendI {w5 w6 : World} {B n : Nat} {v1 : Value} {xs : List Value} {o : Obj} (q7 : B < w5.heap.size) (q5 : w5.cell? ⟨B, 5, none⟩ = some v1) (q6 : w5.frozen? ⟨B, 5, none⟩ = false) (ho : w5.ownsRow (B + 1) 23 1 v1 n xs)
    (hg : (w5.alloc o).grownBy w6 v1.ownBlock) : w6.cell? ⟨B, 5, none⟩ = some v1 ∧ w6.frozen? ⟨B, 5, none⟩ = false := by
  have n0 : some B ≠ v1.ownBlock := fun e => by have := (own_ge ho B e.symm).1; omega
  have r1 := grown_frozen hg (b := B) (i := 5) (by simp; omega) n0
  exact ⟨by rw [r1.1, World.cell?_alloc_lt _ _ _ (by exact q7)]; exact q5, by rw [r1.2, World.frozen?_alloc_old _ _ _ (by simp; omega)]; exact q6⟩

structure GivI (w : World) (B : Nat) (v0 v1 : Value) (es : List EntI) (rs : Nat → Value) : Prop where
  blk : ∃ cur, w.heap[B]? = some (.cells cur 38) ∧ cur.size = 20 ∧ cur[4]? = some v0 ∧ cur[5]? = some v1 ∧ ∀ i, i ≠ 4 ∧ i ≠ 5 → i < 20 → cur[i]? = some (rs i)
  own0 : w.ownsRow (B + 1) 23 1 v0 es.length (es.map EntI.v)
  own1 : w.ownsRow (B + 1) 23 1 v1 es.length (es.map EntI.v0)
  apart : ∀ k, v0.ownBlock = some k → v1.ownBlock ≠ some k
  ents : ∀ e ∈ es, EntOkI w B v0 v1 e

theorem len_maxI {n : Nat} (h : n ≤ 5800000000000) : n + 1 ≤ maxLen := by unfold maxLen; omega
theorem len_bytesI {n : Nat} (h : n ≤ 5800000000000) : (n + 1) * 24 ≤ 140737488355328 := by omega
theorem GivI.chg {S : Nat → Prop} {w w' : World} {B : Nat} {v0 v1 : Value} {es : List EntI} {rs : Nat → Value} (h : GivI w B v0 v1 es rs) (k : Chg S w w') (hB : ¬ S B) (h0 : ∀ k, v0.ownBlock = some k → ¬ S k) (h1 : ∀ k, v1.ownBlock = some k → ¬ S k)
    (hes : ∀ e ∈ es, ¬ S e.b ∧ ¬ S e.b0) : GivI w' B v0 v1 es rs := by
  obtain ⟨cur, hc, hr⟩ := h.blk
  have hlt : B < w.heap.size := by
    rcases Nat.lt_or_ge B w.heap.size with hlt | hge
    · exact hlt
    · rw [Array.getElem?_eq_none hge] at hc; cases hc
  refine ⟨⟨cur, by rw [k.block B hlt hB]; exact hc, hr⟩, ownsRow_chg h.own0 k h0, ownsRow_chg h.own1 k h1, h.apart, fun e he => ?_⟩
  have := h.ents e he
  exact ⟨this.sl.chg k (fun x hx _ => by cases hx; exact (hes e he).1), this.sl0.chg k (fun x hx _ => by cases hx; exact (hes e he).2), this.s, this.s0⟩

theorem GivI.below {w w' : World} {B : Nat} {v0 v1 : Value} {es : List EntI} {rs : Nat → Value} (h : GivI w B v0 v1 es rs) (k : Below w.heap.size w w') : GivI w' B v0 v1 es rs :=
  h.chg (S := fun _ => False) (.of_below k) id (fun _ _ => id) (fun _ _ => id) (fun _ _ => ⟨id, id⟩)

theorem GivI.cell0 {w : World} {B : Nat} {v0 v1 : Value} {es : List EntI} {rs : Nat → Value} (h : GivI w B v0 v1 es rs) : w.cell? ⟨B, 4, none⟩ = some v0 ∧ w.cell? ⟨B, 5, none⟩ = some v1 ∧ w.frozen? ⟨B, 4, none⟩ = false ∧ w.frozen? ⟨B, 5, none⟩ = false ∧ B < w.heap.size := by
  obtain ⟨cur, hc, hr⟩ := h.blk
  have e0 : w.cell? ⟨B, 4, none⟩ = some v0 := by rw [cell_of_block hc]; exact hr.2.1
  exact ⟨e0, by rw [cell_of_block hc]; exact hr.2.2.1, frozen_of_block hc _, frozen_of_block hc _, World.block_lt_of_cell? _ _ e0⟩

theorem midI_facts {w w2 w3 : World} {B : Nat} {v0 v1 : Value} {es : List EntI} {rs : Nat → Value} {g1 c1 n : Nat} {xs : List Int} {o : Obj} (hg : GivI w B v0 v1 es rs) (B2 : Below w.heap.size w w2) (hp5 : B < w.heap.size)
    (hown : w2.ownsRow w.heap.size 3 1 (.slice (some ⟨g1, 0, none⟩) (n + 3) c1) (n + 3) (valsI xs ++ valsI marksI))
    (hgrow3 : (w2.alloc o).grownBy w3 v0.ownBlock) (v : Value) :
    SlI (w3.setCell ⟨B, 4, none⟩ v) (some ⟨g1, 0, none⟩) (n + 3) c1 (xs ++ marksI) ∧ (w3.setCell ⟨B, 4, none⟩ v).ownsRow (B + 1) 23 1 v1 es.length (es.map EntI.v0) ∧
    Chg (Own B v0 v1) w (w3.setCell ⟨B, 4, none⟩ v) ∧ Chg (fun k => k = B ∨ v0.ownBlock = some k) w2 (w3.setCell ⟨B, 4, none⟩ v) := by
  have k1 : Chg (fun k => k = B ∨ v0.ownBlock = some k) w2 (w3.setCell ⟨B, 4, none⟩ v) :=
    ((Chg.of_alloc w2 o).trans (.of_grown hgrow3 (fun k hk => .inr hk))).trans (.of_set w3 B 4 v (.inl rfl))
  have hge : w.heap.size ≤ g1 := by
    have := (own_ge hown g1 rfl).1
    exact this
  have h0 := own_ge hg.own0
  refine ⟨?_, ?_, ?_, k1⟩
  · rw [vals_appendI] at hown
    refine (sl_of_ownI hown).chg k1 ?_
    rintro x hx _ hk
    cases hx
    rcases hk with hk | hk
    · have : g1 = B := hk
      omega
    · have := (h0 _ hk).2
      simp at this
      omega
  · refine ownsRow_chg (ownsRow_chg hg.own1 (.of_below (S := fun _ => False) B2) (fun _ _ => id)) k1 ?_
    rintro k hk (rfl | h)
    · have := (own_ge hg.own1 _ hk).1; omega
    · exact hg.apart k h hk
  · refine (Chg.of_below B2).trans (k1.mono ?_)
    rintro k _ (h | h)
    · exact .inl h
    · exact .inr (.inl h)

theorem gints_fin {w w2 w3 W w5 w6 : World} {B : Nat} {v0 v1 : Value} {es : List EntI} {rs : Nat → Value} {g1 c1 n g2 c2 g3 c3 : Nat} {xs : List Int} {o1 o2 : Obj} {cur5 : Array Value} (hxs : xs.length = n) (hn : n ≤ 17592186044000) (hg : GivI w B v0 v1 es rs) (B2 : Below w.heap.size w w2)
    (own2 : w2.ownsRow w.heap.size 3 1 (.slice (some ⟨g1, 0, none⟩) (n + 3) c1) (n + 3) (valsI xs ++ valsI marksI)) (hlt2 : g1 < w2.heap.size)
    (own3 : w3.ownsRow (B + 1) 23 1 (.slice (some ⟨g2, 0, none⟩) (es.length + 1) c2) (es.length + 1) (es.map EntI.v ++ [.slice (some ⟨g1, 0, none⟩) (n + 3) c1]))
    (grow3 : (w2.alloc o1).grownBy w3 v0.ownBlock) (at3 : v0.ownBlock = some g2 ∨ g2 = w2.heap.size + 1) (hlt3 : g2 < w3.heap.size)
    (HW : w3.setCell ⟨B, 4, none⟩ (.slice (some ⟨g2, 0, none⟩) (es.length + 1) c2) = W)
    (hblk5 : w5.heap[W.heap.size]? = some (.cells cur5 3)) (hsz5 : cur5.size = n + 3 + 3) (hpre5 : ∀ i, i < n + 3 → cur5[i]? = some (.int .i64 ((xs ++ marksI).getD i 0))) (hhs5 : w5.heap.size = W.heap.size + 1) (hbel5 : Below W.heap.size W.drew w5)
    (own6 : w6.ownsRow (B + 1) 23 1 (.slice (some ⟨g3, 0, none⟩) (es.length + 1) c3) (es.length + 1) (es.map EntI.v0 ++ [.slice (some ⟨W.heap.size, 0, none⟩) (n + 3) (n + 3 + 3)]))
    (grow6 : (w5.alloc o2).grownBy w6 v1.ownBlock) (at6 : v1.ownBlock = some g3 ∨ g3 = w5.heap.size + 1) :
    ∃ v0' v1' E, (Value.slice (some ⟨g1, 0, none⟩) n c1) = .slice (some ⟨EntI.b E, 0, none⟩) n E.c ∧ E.xs = xs ∧ (w.heap.size ≤ E.b ∧ w.heap.size ≤ E.b0) ∧
      GivI (w6.setCell ⟨B, 5, none⟩ (.slice (some ⟨g3, 0, none⟩) (es.length + 1) c3)) B v0' v1' (es ++ [E]) rs ∧
      Chg (Own B v0 v1) w (w6.setCell ⟨B, 5, none⟩ (.slice (some ⟨g3, 0, none⟩) (es.length + 1) c3)) ∧
      ∀ k, k < w.heap.size → ¬ Own B v0 v1 k → ¬ Own B v0' v1' k := by
  obtain ⟨cur, hcur, hc20, hc0, hc1, hcr⟩ := hg.blk
  have hB : B < w.heap.size := block_lt hcur
  obtain ⟨M1, M2, M3, M4⟩ := midI_facts hg B2 hB own2 grow3 (.slice (some ⟨g2, 0, none⟩) (es.length + 1) c2)
  rw [HW] at M1 M2 M3 M4
  have hsW : W.heap.size = w3.heap.size := by rw [← HW]; simp
  have hs3 := grow3.size
  simp only [World.size_alloc] at hs3
  have hs2 := B2.size
  have hs6 := grow6.size
  simp only [World.size_alloc] at hs6
  have bel5 : Below W.heap.size W w5 := (Below.drew (Below.refl _ _)).trans hbel5
  have o0 := own_ge hg.own0
  have o1' := own_ge hg.own1
  have hg1 : w.heap.size ≤ g1 := (own_ge own2 g1 rfl).1
  have nB0 : some B ≠ v0.ownBlock := fun e => by have := (o0 B e.symm).1; omega
  have nB1 : some B ≠ v1.ownBlock := fun e => by have := (o1' B e.symm).1; omega
  have g2B : g2 ≠ B := by have := (own_ge own3 g2 rfl).1; omega
  have g3B : g3 ≠ B := by have := (own_ge own6 g3 rfl).1; omega
  have g2v : v1.ownBlock ≠ some g2 := by
    rcases at3 with h | h
    · exact hg.apart g2 h
    · intro e; have := (o1' g2 e).2; omega
  have g23 : g2 ≠ g3 := by
    intro e
    rcases at6 with h | h
    · exact g2v (e ▸ h)
    · omega
  -- the road from W on
  have kW : Chg (fun k => k = B ∨ v1.ownBlock = some k) W (w6.setCell ⟨B, 5, none⟩ (.slice (some ⟨g3, 0, none⟩) (es.length + 1) c3)) :=
    (((Chg.of_below bel5).trans (.of_alloc w5 o2)).trans (.of_grown grow6 (fun k hk => .inr hk))).trans (.of_set w6 B 5 _ (.inl rfl))
  have k5 : Chg (fun k => k = B ∨ v1.ownBlock = some k) w5 (w6.setCell ⟨B, 5, none⟩ (.slice (some ⟨g3, 0, none⟩) (es.length + 1) c3)) :=
    ((Chg.of_alloc w5 o2).trans (.of_grown grow6 (fun k hk => .inr hk))).trans (.of_set w6 B 5 _ (.inl rfl))
  have k3 : Chg (fun k => k = B ∨ v1.ownBlock = some k) w3 (w6.setCell ⟨B, 5, none⟩ (.slice (some ⟨g3, 0, none⟩) (es.length + 1) c3)) := by
    refine Chg.trans ?_ kW
    rw [← HW]
    exact .of_set w3 B 4 _ (.inl rfl)
  have kall : Chg (Own B v0 v1) w (w6.setCell ⟨B, 5, none⟩ (.slice (some ⟨g3, 0, none⟩) (es.length + 1) c3)) :=
    M3.trans (kW.mono (fun k _ h => h.elim .inl (fun h => .inr (.inr h))))
  have hsafe : ∀ k, k < w.heap.size → ¬ Own B v0 v1 k → ¬ Own B (.slice (some ⟨g2, 0, none⟩) (es.length + 1) c2) (.slice (some ⟨g3, 0, none⟩) (es.length + 1) c3) k := by
    rintro k hk hn (h | h | h)
    · exact hn (.inl h)
    · simp [Value.ownBlock] at h
      rcases at3 with h' | h'
      · exact hn (.inr (.inl (h ▸ h')))
      · omega
    · simp [Value.ownBlock] at h
      rcases at6 with h' | h'
      · exact hn (.inr (.inr (h ▸ h')))
      · omega
  refine ⟨.slice (some ⟨g2, 0, none⟩) (es.length + 1) c2, .slice (some ⟨g3, 0, none⟩) (es.length + 1) c3, ⟨g1, c1, W.heap.size, n + 3 + 3, xs⟩, rfl, rfl, ⟨hg1, by show w.heap.size ≤ W.heap.size; omega⟩, ⟨?_, ?_, ?_, ?_, ?_⟩, kall, hsafe⟩
  · -- the book's own block
    have e2 : w2.heap[B]? = some (.cells cur 38) := by rw [B2.block B hB]; exact hcur
    have e3 : w3.heap[B]? = some (.cells cur 38) := by
      rw [grow3.block B (by simp; omega) nB0, Below.heap_alloc _ _ _ (by omega)]; exact e2
    have e4 : W.heap[B]? = some (.cells (cur.setIfInBounds 4 (.slice (some ⟨g2, 0, none⟩) (es.length + 1) c2)) 38) := by
      rw [← HW]; exact set_block e3 4 _
    have e5 : w5.heap[B]? = _ := (bel5.block B (by omega)).trans e4
    have e6 : w6.heap[B]? = w5.heap[B]? := by
      rw [grow6.block B (by simp; omega) nB1, Below.heap_alloc _ _ _ (by omega)]
    refine ⟨_, set_block (e6.trans e5) 5 _, by simp [hc20], ?_, ?_, ?_⟩
    · simp [hc20]
    · simp [hc20]
    · intro i h2 h20
      rw [Array.getElem?_setIfInBounds_ne (by omega), Array.getElem?_setIfInBounds_ne (by omega)]
      exact hcr i h2 h20
  · have := ownsRow_chg own3 k3 (fun k hk => by
      simp [Value.ownBlock] at hk
      subst hk
      rintro (h | h)
      · exact g2B h
      · exact g2v h)
    simpa [EntI.v, hxs] using this
  · have := ownsRow_chg own6 (Chg.of_set (S := fun k => k = B) w6 B 5 (.slice (some ⟨g3, 0, none⟩) (es.length + 1) c3) rfl) (fun k hk => by
      simp [Value.ownBlock] at hk
      subst hk
      exact g3B)
    simpa [EntI.v0, hxs] using this
  · intro k hk hk'
    simp [Value.ownBlock] at hk hk'
    omega
  · intro e he
    rcases List.mem_append.1 he with he | he
    · have E := hg.ents e he
      have hne : e.xs ++ marksI ≠ [] := by simp [marksI]
      have l1 := E.sl.block_lt hne _ rfl
      have l2 := E.sl0.block_lt hne _ rfl
      exact ⟨E.sl.chg kall (fun x hx _ => by cases hx; exact E.s), E.sl0.chg kall (fun x hx _ => by cases hx; exact E.s0), hsafe _ l1 E.s, hsafe _ l2 E.s0⟩
    · simp at he
      subst he
      have sl5 : SlI w5 (some ⟨W.heap.size, 0, none⟩) (n + 3) (n + 3 + 3) (xs ++ marksI) := by
        refine ⟨by simp [marksI, hxs], by omega, by unfold maxLen; omega, .inr ⟨_, _, rfl, cells_of_blockI hblk5 ?_⟩⟩
        intro i hi
        rw [Nat.zero_add]
        exact hpre5 i (by simpa [marksI, hxs] using hi)
      have nv : ∀ k, w.heap.size ≤ k → v1.ownBlock ≠ some k := fun k hk e => by have := (o1' k e).2; omega
      refine ⟨?_, ?_, ?_, ?_⟩
      · simp only [hxs]
        refine M1.chg kW ?_
        rintro x hx _ (h | h)
        · cases hx
          have : g1 = B := h
          omega
        · cases hx
          exact nv _ hg1 h
      · simp only [hxs]
        refine sl5.chg k5 ?_
        rintro x hx _ (h | h)
        · cases hx
          have : W.heap.size = B := h
          omega
        · cases hx
          exact nv _ (show w.heap.size ≤ W.heap.size by omega) h
      · rintro (h | h | h)
        · have : g1 = B := h
          omega
        · simp [Value.ownBlock] at h
          rcases at3 with h' | h'
          · have := (o0 g2 h').2; omega
          · omega
        · simp [Value.ownBlock] at h
          rcases at6 with h' | h'
          · have := (o1' g3 h').2; omega
          · omega
      · rintro (h | h | h)
        · have : W.heap.size = B := h
          omega
        · simp [Value.ownBlock] at h
          omega
        · simp [Value.ownBlock] at h
          rcases at6 with h' | h'
          · have := (o1' g3 h').2; omega
          · omega

set_option maxHeartbeats 2000000 in
set_option maxRecDepth 100000 in
theorem gints_any (B : Nat) (v0 v1 : Value) (es : List EntI) (rs : Nat → Value) (a : Option Addr) (n c : Nat) (xs : List Int) (w : World) (hg : GivI w B v0 v1 es rs) (hs : SlI w a n c xs) (hn : n ≤ 17592186044000) (he : es.length ≤ 5800000000000) :
    Calls Tryd.prog 12 #[.pointer (some ⟨B, 0, none⟩), .slice a n c] w fun e w' => ∃ v0' v1' E, e = .returned (.slice (some ⟨EntI.b E, 0, none⟩) n E.c) ∧ E.xs = xs ∧ (w.heap.size ≤ E.b ∧ w.heap.size ≤ E.b0) ∧ GivI w' B v0' v1' (es ++ [E]) rs ∧ Chg (Own B v0 v1) w w' ∧ ∀ k, k < w.heap.size → ¬ Own B v0 v1 k → ¬ Own B v0' v1' k := by
  have K1 := hide (copy_anyI a n c xs w hs (by omega))
  obtain ⟨i80, hi80, hz80, hs80, hb80⟩ := info_parts Tryd.info_i64
  go_enter Tryd.func12, Tryd.ntmps12
  go_wp2_with fail
  refine (unhide K1).mono ?_
  rintro e w1 ⟨cur, rfl, hblk, hsz, hpre, hhs, hbel⟩
  have F1 := hide (And.intro hblk (And.intro hsz (And.intro hpre (And.intro hhs hbel))))
  have O1 := hide (own_of_copyI hs.len hn hblk hsz hpre)
  clear hblk hsz hpre hhs hbel K1
  go_wp2_with (at_builtin; refine wpList_append_lies _ rfl _ _ 23 rfl w.heap.size 3 i80 (.int .i64 0) 1 8 Tryd.underlying23 hi80 hz80 hs80 hb80 rfl (by decide) _ n (valsI xs) rfl ?own1 ⟨w1.heap.size, 0, none⟩ 3 3 (valsI marksI) rfl rfl ?news1 ?one1 (by decide) ?c31 ?c41 ?c51 (w.heap.size + 2) ?c61 ?_)
  case own1 => exact (unhide O1).alloc _
  case news1 => exact World.news_of_block (alloc_block _ _)
  case one1 => intro u hu; simp [valsI, marksI] at hu; rcases hu with rfl | rfl | rfl <;> rfl
  case c31 => unfold maxLen; omega
  case c41 => omega
  case c51 => have := (unhide F1).2.2.2.1; simp; omega
  case c61 => have := (unhide F1).2.2.2.1; simp; omega
  intro g1 c1 w2 hown hgrow hat hlt
  have B2 : Below w.heap.size w w2 := by
    have hsz := (unhide F1).2.2.2.1
    exact Below.grown ((unhide F1).2.2.2.2.alloc (by omega) _) hgrow (by simp; omega) (fun k hk => by simp [Value.ownBlock] at hk; omega)
  have G2 := hide (hg.below B2)
  obtain ⟨p1, p2, p3, p4, p5⟩ := hg.cell0
  have q1 : w2.cell? ⟨B, 4, none⟩ = some v0 := (B2.cell p5).trans p1
  have F2 := hide (And.intro hown (And.intro B2 (And.intro hat hlt)))
  obtain ⟨i23, hi23, hz23, hs23, hb23⟩ := info_parts Tryd.info_ints
  clear hown hgrow hat hlt B2 p1 p2 p3 p4 hi80 hz80 hs80 hb80
  go_wp2_with (at_builtin; refine wpList_append_lies _ rfl _ _ 29 rfl (B + 1) 23 i23 (.slice none 0 0) 1 24 Tryd.underlying29 hi23 hz23 hs23 hb23 rfl (by decide) v0 es.length (es.map EntI.v) rfl ?own2 ⟨w2.heap.size, 0, none⟩ 1 1 [.slice (some ⟨g1, 0, none⟩) (n + 3) c1] rfl rfl ?news2 ?one2 (by decide) ?c32 ?c42 ?c52 (w2.heap.size + 1) ?c62 ?_)
  case own2 => exact (unhide G2).own0.alloc _
  case news2 => exact World.news_of_block (alloc_block _ _)
  case one2 => intro u hu; simp at hu; subst hu; rfl
  case c32 => unfold maxLen; omega
  case c42 => omega
  case c52 => have := (unhide F2).2.1.size; simp; omega
  case c62 => simp
  intro g2 c2 w3 hown3 hgrow3 hat3 hlt3
  have n0 : some B ≠ v0.ownBlock := fun e => by have := (own_ge (unhide G2).own0 B e.symm).1; omega
  obtain ⟨p1, p2, p3, p4, p6⟩ := (unhide G2).cell0
  have r0 := grown_frozen hgrow3 (b := B) (i := 4) (by simp; omega) n0
  have r1 := grown_frozen hgrow3 (b := B) (i := 5) (by simp; omega) n0
  have q0 : w3.cell? ⟨B, 4, none⟩ = some v0 := by rw [r0.1, World.cell?_alloc_lt _ _ _ (by exact p6)]; exact p1
  have q2 : w3.frozen? ⟨B, 4, none⟩ = false := by rw [r0.2, World.frozen?_alloc_old _ _ _ (by simp; omega)]; exact p3
  have q3 : w3.cell? ⟨B, 5, none⟩ = some v1 := by rw [r1.1, World.cell?_alloc_lt _ _ _ (by exact p6)]; exact p2
  have q4 : w3.frozen? ⟨B, 5, none⟩ = false := by rw [r1.2, World.frozen?_alloc_old _ _ _ (by simp; omega)]; exact p4
  have F3 := hide (And.intro hown3 (And.intro hgrow3 (And.intro hat3 hlt3)))
  have I23 := hide (And.intro hi23 (And.intro hz23 (And.intro hs23 hb23)))
  clear hown3 hgrow3 hat3 hlt3 r0 r1 p1 p2 p3 p4 q1 n0 hi23 hz23 hs23 hb23
  go_wp2_with fail
  have M := midI_facts hg (unhide F2).2.1 p5 (unhide F2).1 (unhide F3).2.1 (.slice (some ⟨g2, 0, none⟩) (es.length + 1) c2)
  have q5 : (w3.setCell ⟨B, 4, none⟩ (.slice (some ⟨g2, 0, none⟩) (es.length + 1) c2)).cell? ⟨B, 5, none⟩ = some v1 := by rw [World.cell?_setCell_other _ _ _ _ (by simp)]; exact q3
  have q6 : (w3.setCell ⟨B, 4, none⟩ (.slice (some ⟨g2, 0, none⟩) (es.length + 1) c2)).frozen? ⟨B, 5, none⟩ = false := by rw [World.frozen?_setCell]; exact q4
  have q7 : B < (w3.setCell ⟨B, 4, none⟩ (.slice (some ⟨g2, 0, none⟩) (es.length + 1) c2)).heap.size := World.block_lt_of_cell? _ _ q5
  have HM := hide M
  clear M q0 q2 q3 q4
  generalize hW : w3.setCell ⟨B, 4, none⟩ (.slice (some ⟨g2, 0, none⟩) (es.length + 1) c2) = W at *
  have HW := hide hW
  clear hW
  go_region_law (first
    | (refine step_append_lies _ rfl _ _ 29 rfl (B + 1) 23 i23 (.slice none 0 0) 1 24 Tryd.underlying29 (unhide I23).1 (unhide I23).2.1 (unhide I23).2.2.1 (unhide I23).2.2.2 rfl (by decide) v1 es.length (es.map EntI.v0) rfl ((unhide O5).alloc _) ⟨w5.heap.size, 0, none⟩ 1 1 [.slice (some ⟨W.heap.size, 0, none⟩) (n + 3) (n + 3 + 3)] rfl rfl (World.news_of_block (alloc_block _ _)) one_slice (by decide) (len_maxI he) (len_bytesI he) (by simp; omega) (w5.heap.size + 1) (by simp) ?_; intro g3 c3 w6 hown6 hgrow6 hat6 hlt6; have L6 := after_appendI q7b q5b q6b (unhide O5) hgrow6; have q5c := L6.1; have q6c := L6.2; have F6 := hide (And.intro hown6 (And.intro hgrow6 (And.intro hat6 hlt6))); clear hown6 hgrow6 hat6 hlt6 L6)
    | (go_simp; go_at_call 26; go_must (refine (copy_anyI (some ⟨g1, 0, none⟩) (n + 3) c1 (xs ++ marksI) _ ?_ (by omega)).mono ?_); go_must (exact (unhide HM).1.below ((Below.refl _ _).drew)); rintro e w5 ⟨cur5, rfl, hblk5, hsz5, hpre5, hhs5, hbel5⟩; go_must (have L5 := after_copyI q7 q5 q6 (unhide HM).2.1 hbel5); have O5 := hide L5.1; have q5b := L5.2.1; have q6b := L5.2.2.1; have q7b := L5.2.2.2; have F5 := hide (And.intro hblk5 (And.intro hsz5 (And.intro hpre5 (And.intro hhs5 hbel5)))); clear hblk5 hsz5 hpre5 hhs5 hbel5 L5))
  all_goals
    have hc1 : (n : Int) ≤ (c1 : Int) := by have := (unhide HM).1.le; omega
    have FIN := gints_fin hs.len hn hg (unhide F2).2.1 (unhide F2).1 (unhide F2).2.2.2 (unhide F3).1 (unhide F3).2.1 (unhide F3).2.2.1 (unhide F3).2.2.2 (unhide HW) (unhide F5).1 (unhide F5).2.1 (unhide F5).2.2.1 (unhide F5).2.2.2.1 (unhide F5).2.2.2.2 (unhide F6).1 (unhide F6).2.1 (unhide F6).2.2.1
    have HFIN := hide FIN
    clear FIN
    go_wp2
    go_ret
    obtain ⟨v0', v1', E, e1, e2⟩ := unhide HFIN
    exact ⟨v0', v1', E, congrArg Ending.returned e1, e2⟩
end Go.Proofs.YtiadccaaoenccaaDoor
