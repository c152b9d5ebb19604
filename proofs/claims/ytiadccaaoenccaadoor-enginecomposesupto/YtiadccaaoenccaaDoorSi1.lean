/- Rv3 -/
import Derived.Test.YtiadccaaoenccaaDoorWrd
import Derived.Test.YtiadccaaoenccaaDoorBits
import Derived.Deep.RegionHeld3
namespace Go.Proofs.YtiadccaaoenccaaDoor
open Go.RowKit Go.Deep
set_option linter.unusedVariables false
theorem copyN_any (a : Option Addr) (n c : Nat) (xs : List Nat) (w : World) (h : Sl w a n c xs) (hb : n ≤ 35184372088000) :
    Calls Tryd.prog 37 #[.slice a n c] w fun e w' => ∃ a' c', e = .returned (.slice a' n c') ∧ (Sl w' a' n c' xs ∧ NewAt w.heap.size a') ∧ Below w.heap.size w w' := by
  refine (copy_any a n c xs w h (by omega)).mono ?_
  rintro _ w' ⟨cur, rfl, hblk, hsz, hpre, hhs, hbel⟩
  refine ⟨_, _, rfl, ⟨⟨h.len, by omega, by unfold maxLen; omega, .inr ⟨_, _, rfl, cells_of_block hblk ?_⟩⟩, fun x hx => by cases hx; exact Nat.le_refl _⟩, hbel⟩
  intro i hi
  rw [Nat.zero_add]
  exact hpre i (by have := h.len; omega)

set_option maxRecDepth 100000 in
set_option maxHeartbeats 16000000 in
theorem copyRat_any (g1 : Bool) (a1 b1 : Option Addr) (n1 c1 m1 d1 : Nat) (x1 y1 : List Nat) (w : World) (hx1 : Sl w a1 n1 c1 x1) (hy1 : Sl w b1 m1 d1 y1) (s1 : n1 ≤ 35184372088000) (s2 : m1 ≤ 35184372088000) :
    Calls Tryd.prog 23 #[ratV g1 a1 n1 c1 b1 m1 d1] w fun e w' => ∃ v, e = .returned v ∧ NewR w w' g1 x1 y1 v := by
  have bx := Box.made w g1 a1 n1 c1 b1 m1 d1
  obtain ⟨wa, hwa⟩ : ∃ wa, ratBox w g1 a1 n1 c1 b1 m1 d1 = wa := ⟨_, rfl⟩
  rw [hwa] at bx
  unfold ratBox at hwa
  have hba := bx.bel
  obtain ⟨wo, hwo⟩ : ∃ x, wa.alloc (.cells #[.bool false, .slice none 0 0, .slice none 0 0] 52) = x := ⟨_, rfl⟩
  have hbo : Below wa.heap.size wa wo := by rw [← hwo]; exact (Below.refl _ _).alloc (Nat.le_refl _) _
  have hO : Out wo wa.heap.size := by rw [← hwo]; exact Out.made wa
  have bx2 := bx.keep hbo
  have hB := hba.trans (hbo.mono hba.size)
  have hRw : w.heap.size ≤ wa.heap.size := hba.size
  have hne1 : w.heap.size ≠ wa.heap.size := by have := bx.lt; omega
  have hne3 : wa.heap.size ≠ w.heap.size := by have := bx.lt; omega
  have p0 := bx2.d0
  have p1 := bx2.d1
  have p2 := bx2.d2
  have HRw := hide hRw
  have HO := hide hO
  have HBo := hide hB
  have HC1 := hide (fun (W : World) (hb : Below wo.heap.size wo W) => copyN_any a1 n1 c1 x1 W ((hx1.below hB).below hb) s1)
  have HC2 := hide (fun (W : World) (hb : Below wo.heap.size wo W) => copyN_any b1 m1 d1 y1 W ((hy1.below hB).below hb) s2)
  clear hx1 hy1 bx bx2 hba hbo hB hO
  unfold ratV
  go_enter Tryd.func23, Tryd.ntmps23
  go_wp2_with fail
  go_region_held3 (fun w' => w'.cell? ⟨w.heap.size, 0, none⟩ = some (.bool g1) ∧ w'.cell? ⟨w.heap.size, 1, none⟩ = some (.slice a1 n1 c1) ∧ w'.cell? ⟨w.heap.size, 2, none⟩ = some (.slice b1 m1 d1)) (first | go_keep | (exact ⟨k0, k1, k2⟩) | (exact ⟨j0, j1, j2⟩))
    (first
      | (go_at_call_of 37 (Value.slice a1 n1 c1); refine (unhide HC1 _ (Below.refl _ _).drew).mono ?_; rintro _ wk ⟨aq, cq, rfl, oq, bl_k⟩; have hb_k : Below wo.heap.size wo wk := (Below.refl _ _).drew.trans bl_k; have k0 := (hb_k.cell (p := ⟨w.heap.size, 0, none⟩) (World.block_lt_of_cell? _ _ p0)).trans p0; have k1 := (hb_k.cell (p := ⟨w.heap.size, 1, none⟩) (World.block_lt_of_cell? _ _ p1)).trans p1; have k2 := (hb_k.cell (p := ⟨w.heap.size, 2, none⟩) (World.block_lt_of_cell? _ _ p2)).trans p2; have SQ := hide oq; clear oq; have HB_k := hide hb_k; clear hb_k bl_k)
      | (go_at_call_of 37 (Value.slice b1 m1 d1); refine (unhide HC2 _ (unhide HB_k)).mono ?_; rintro _ wj ⟨ar, cr, rfl, orr, bl_j⟩; have hb_j : Below wo.heap.size wo wj := (unhide HB_k).trans (bl_j.mono (unhide HB_k).size); have j0 := (bl_j.cell (p := ⟨w.heap.size, 0, none⟩) (World.block_lt_of_cell? _ _ k0)).trans k0; have j1 := (bl_j.cell (p := ⟨w.heap.size, 1, none⟩) (World.block_lt_of_cell? _ _ k1)).trans k1; have j2 := (bl_j.cell (p := ⟨w.heap.size, 2, none⟩) (World.block_lt_of_cell? _ _ k2)).trans k2; have hO3 := (unhide HO).keep hb_j; obtain ⟨x0, q0⟩ := hO3.cells 0 (by decide); obtain ⟨x1', q1⟩ := hO3.cells 1 (by decide); obtain ⟨x2, q2⟩ := hO3.cells 2 (by decide); have r0 := hO3.fz 0 (by decide); have r1 := hO3.fz 1 (by decide); have r2 := hO3.fz 2 (by decide); have HO3 := hide hO3; have SR := hide (And.intro ((unhide SQ).1.below bl_j) (And.intro (show NewAt (wa.heap.size + 1) aq from fun x hx => Nat.le_trans (unhide HO).lt (Nat.le_trans (Below.refl wo.heap.size wo).drew.size ((unhide SQ).2 x hx))) (And.intro orr.1 (show NewAt (wa.heap.size + 1) ar from fun x hx => Nat.le_trans (unhide HO).lt (Nat.le_trans (unhide HB_k).size (orr.2 x hx)))))); clear orr hO3; have HB_j := hide hb_j; clear hb_j bl_j))
  have H4 := hide (three_set wj wa.heap.size (.bool g1) (.slice aq n1 cq) (.slice ar m1 cr) (unhide HO3).cells)
  have HB3 := hide ((unhide HBo).trans ((unhide HB_j).mono (unhide HBo).size))
  clear q0 q1 q2 r0 r1 r2
  try go_wp2_with fail
  obtain ⟨t0, t1, t2, c4⟩ := unhide H4
  generalize ((wj.setCell ⟨wa.heap.size, 0, none⟩ (.bool g1)).setCell ⟨wa.heap.size, 1, none⟩ (.slice aq n1 cq)).setCell ⟨wa.heap.size, 2, none⟩ (.slice ar m1 cr) = wf at *
  refine bodyPost_ret (by simp [results, Tryd.results23, go_sem, t0, t1, t2]; try rfl) rfl ?_
  obtain ⟨sN, nN, sD, nD⟩ := unhide SR
  exact ⟨_, rfl, newR_of (unhide HRw) (unhide HO3).lt (unhide HB3) sN nN sD nD c4 g1⟩

structure FilQ (w : World) (A N : Nat) (ps : List Nq) : Prop where
  blk : ∃ cur, w.heap[A]? = some (.cells cur 52) ∧ cur.size = N * 3 ∧ (∃ b, cur[0]? = some (.bool b)) ∧ ∀ i p, ps[i]? = some p → cur[i * 3]? = some (.bool p.g) ∧ cur[i * 3 + 1]? = some (.slice p.a p.n p.c) ∧ cur[i * 3 + 2]? = some (.slice p.b p.m p.d)
  each : ∀ p ∈ ps, (Sl w p.a p.n p.c p.x ∧ Sl w p.b p.m p.d p.y) ∧ Ok p.x ∧ Ok p.y
def FarQ (S : Nat → Prop) (ps : List Nq) : Prop := ∀ p ∈ ps, (∀ z, p.a = some z → p.x ≠ [] → ¬ S z.block) ∧ ∀ z, p.b = some z → p.y ≠ [] → ¬ S z.block
theorem FilQ.lt {w : World} {A N : Nat} {ps : List Nq} (h : FilQ w A N ps) : A < w.heap.size := by
  obtain ⟨cur, hc, _⟩ := h.blk
  exact block_lt hc
theorem FilQ.chg {S : Nat → Prop} {w w' : World} {A N : Nat} {ps : List Nq} (h : FilQ w A N ps) (k : Chg S w w') (hA : ¬ S A) (hf : FarQ S ps) : FilQ w' A N ps := by
  obtain ⟨cur, hc, hr⟩ := h.blk
  refine ⟨⟨cur, by rw [k.block A (block_lt hc) hA]; exact hc, hr⟩, fun p hp => ⟨⟨(h.each p hp).1.1.chg k (hf p hp).1, (h.each p hp).1.2.chg k (hf p hp).2⟩, (h.each p hp).2⟩⟩
theorem FilQ.below {w w' : World} {A N : Nat} {ps : List Nq} (h : FilQ w A N ps) (k : Below w.heap.size w w') : FilQ w' A N ps :=
  h.chg (S := fun _ => False) (.of_below k) id (fun p hp => ⟨fun _ _ _ => id, fun _ _ _ => id⟩)
theorem FilQ.sl {w : World} {A N : Nat} {ps : List Nq} (h : FilQ w A N ps) {n : Nat} (hn : ps.length = n) (hN : n ≤ N) : SlQ w (some ⟨A, 0, none⟩) n N ps := by
  obtain ⟨cur, hc, hs, _, hr⟩ := h.blk
  refine ⟨hn, hN, .inr ⟨A, 0, rfl, fun i p hp => ?_⟩, h.each⟩
  obtain ⟨h0, h1, h2⟩ := hr i p hp
  rw [cell_of_block hc, cell_of_block hc, cell_of_block hc]
  simp only [Nat.zero_add]
  exact ⟨h0, h1, h2⟩
theorem FilQ.next {w : World} {A N : Nat} {ps : List Nq} (h : FilQ w A N ps) (hN : ps.length < N) (p : Nq)
    (hp : (Sl w p.a p.n p.c p.x ∧ Sl w p.b p.m p.d p.y) ∧ Ok p.x ∧ Ok p.y) (hne : ∀ q ∈ ps ++ [p], (∀ z, q.a = some z → q.x ≠ [] → z.block ≠ A) ∧ ∀ z, q.b = some z → q.y ≠ [] → z.block ≠ A) {k : Nat} (hk : ps.length = k) :
    FilQ (((w.setCell ⟨A, k * 3, none⟩ (.bool p.g)).setCell ⟨A, k * 3 + 1, none⟩ (.slice p.a p.n p.c)).setCell ⟨A, k * 3 + 2, none⟩ (.slice p.b p.m p.d)) A N (ps ++ [p]) ∧
    Chg (fun j => j = A) w (((w.setCell ⟨A, k * 3, none⟩ (.bool p.g)).setCell ⟨A, k * 3 + 1, none⟩ (.slice p.a p.n p.c)).setCell ⟨A, k * 3 + 2, none⟩ (.slice p.b p.m p.d)) := by
  have hc : Chg (fun j => j = A) w (((w.setCell ⟨A, k * 3, none⟩ (.bool p.g)).setCell ⟨A, k * 3 + 1, none⟩ (.slice p.a p.n p.c)).setCell ⟨A, k * 3 + 2, none⟩ (.slice p.b p.m p.d)) :=
    ((Chg.of_set (S := fun j => j = A) _ _ _ _ rfl).trans (Chg.of_set (S := fun j => j = A) _ _ _ _ rfl)).trans (Chg.of_set (S := fun j => j = A) _ _ _ _ rfl)
  obtain ⟨cur, hb, hs, ⟨b0, hf0⟩, hr⟩ := h.blk
  refine ⟨⟨⟨_, set_block (set_block (set_block hb _ _) _ _) _ _, by simpa using hs, ?_, ?_⟩, ?_⟩, hc⟩
  · by_cases e : k = 0
    · subst e
      refine ⟨p.g, ?_⟩
      rw [Array.getElem?_setIfInBounds_ne (by omega), Array.getElem?_setIfInBounds_ne (by omega)]
      exact Array.getElem?_setIfInBounds_self_of_lt (by omega)
    · refine ⟨b0, ?_⟩
      rw [Array.getElem?_setIfInBounds_ne (by omega), Array.getElem?_setIfInBounds_ne (by omega), Array.getElem?_setIfInBounds_ne (by omega)]
      exact hf0
  · intro i q hq
    by_cases e : i < ps.length
    · rw [List.getElem?_append_left e] at hq
      obtain ⟨h0, h1, h2⟩ := hr i q hq
      refine ⟨?_, ?_, ?_⟩
      · rw [Array.getElem?_setIfInBounds_ne (by omega), Array.getElem?_setIfInBounds_ne (by omega), Array.getElem?_setIfInBounds_ne (by omega)]; exact h0
      · rw [Array.getElem?_setIfInBounds_ne (by omega), Array.getElem?_setIfInBounds_ne (by omega), Array.getElem?_setIfInBounds_ne (by omega)]; exact h1
      · rw [Array.getElem?_setIfInBounds_ne (by omega), Array.getElem?_setIfInBounds_ne (by omega), Array.getElem?_setIfInBounds_ne (by omega)]; exact h2
    · have hi : i < (ps ++ [p]).length := (List.getElem?_eq_some_iff.1 hq).1
      have hi2 : i = k := by simp at hi; omega
      subst hi2
      rw [List.getElem?_append_right (by omega), hk, Nat.sub_self] at hq
      obtain rfl : p = q := by simpa using hq
      have hsz : i * 3 + 2 < cur.size := by omega
      refine ⟨?_, ?_, ?_⟩
      · rw [Array.getElem?_setIfInBounds_ne (by omega), Array.getElem?_setIfInBounds_ne (by omega), Array.getElem?_setIfInBounds_self_of_lt (by omega)]
      · rw [Array.getElem?_setIfInBounds_ne (by omega), Array.getElem?_setIfInBounds_self_of_lt (by simp; omega)]
      · rw [Array.getElem?_setIfInBounds_self_of_lt (by simp; omega)]
  · intro q hq
    have hf := hne q hq
    have hS : (Sl w q.a q.n q.c q.x ∧ Sl w q.b q.m q.d q.y) ∧ Ok q.x ∧ Ok q.y := by
      rcases List.mem_append.1 hq with e | e
      · exact h.each q e
      · obtain rfl : q = p := by simpa using e
        exact hp
    exact ⟨⟨hS.1.1.chg hc hf.1, hS.1.2.chg hc hf.2⟩, hS.2⟩
theorem FilQ.cellsAt {w : World} {A N : Nat} {ps : List Nq} (h : FilQ w A N ps) {j : Nat} (hj : j < N * 3) : (∃ v, w.cell? ⟨A, j, none⟩ = some v) ∧ w.frozen? ⟨A, j, none⟩ = false := by
  obtain ⟨cur, hb, hs, _, hr⟩ := h.blk
  exact ⟨⟨cur[j], by rw [cell_of_block hb]; simp [show j < cur.size from by omega]⟩, frozen_of_block hb _⟩
theorem FilQ.begin (w : World) (N : Nat) (cur : Array Value) (hs : cur.size = N * 3) (h0 : ∃ b, cur[0]? = some (.bool b)) : FilQ (w.alloc (.cells cur 52)) w.heap.size N [] :=
  ⟨⟨cur, alloc_block _ _, hs, h0, fun i p hp => by simp at hp⟩, fun p hp => by cases hp⟩
theorem FilQ.first {w : World} {A N : Nat} {ps : List Nq} (h : FilQ w A N ps) : ∃ b, w.cell? ⟨A, 0, none⟩ = some (.bool b) := by
  obtain ⟨cur, hb, hs, ⟨b, h0⟩, hr⟩ := h.blk
  exact ⟨b, (cell_of_block hb 0).trans h0⟩
theorem FilQ.pre {w : World} {A N : Nat} {ps qs : List Nq} (h : FilQ w A N (ps ++ qs)) : FilQ w A N ps := by
  obtain ⟨cur, hb, hs, h0, hr⟩ := h.blk
  refine ⟨⟨cur, hb, hs, h0, fun i p hp => hr i p ?_⟩, fun p hp => h.each p (List.mem_append_left _ hp)⟩
  rw [List.getElem?_append_left (List.getElem?_eq_some_iff.1 hp).1]
  exact hp
def conQ (p : Nq) : Bool × List Nat × List Nat := (p.g, p.x, p.y)
def celQ (ps : List Nq) : List Value := ps.flatMap (fun p => [.bool p.g, .slice p.a p.n p.c, .slice p.b p.m p.d])
theorem celQ_len (ps : List Nq) : (celQ ps).length = ps.length * 3 := by
  induction ps with
  | nil => rfl
  | cons p r ih => unfold celQ at ih ⊢; simp only [List.flatMap_cons, List.length_append, List.length_cons, List.length_nil]; omega
theorem celQ_get (ps : List Nq) : ∀ {i : Nat} {p : Nq}, ps[i]? = some p → (celQ ps)[i * 3]? = some (.bool p.g) ∧ (celQ ps)[i * 3 + 1]? = some (.slice p.a p.n p.c) ∧ (celQ ps)[i * 3 + 2]? = some (.slice p.b p.m p.d) := by
  induction ps with
  | nil => intro i p hp; simp at hp
  | cons q r ih =>
    intro i p hp
    have e : celQ (q :: r) = [.bool q.g, .slice q.a q.n q.c, .slice q.b q.m q.d] ++ celQ r := by unfold celQ; simp
    rw [e]
    match i with
    | 0 => simp at hp; subst hp; simp
    | i + 1 =>
      obtain ⟨h0, h1, h2⟩ := ih (i := i) (p := p) (by simpa using hp)
      refine ⟨?_, ?_, ?_⟩
      · rw [List.getElem?_append_right (by simp; omega)]; rw [← h0]; congr 1; simp; omega
      · rw [List.getElem?_append_right (by simp; omega)]; rw [← h1]; congr 1; simp; omega
      · rw [List.getElem?_append_right (by simp; omega)]; rw [← h2]; congr 1; simp; omega
theorem FilQ.own {w : World} {A N : Nat} {ps : List Nq} (h : FilQ w A N ps) {n base : Nat} (hn : ps.length = n) (hN : n ≤ N) (hb : base ≤ A) (hm : N ≤ maxLen) : w.ownsRow base 52 3 (.slice (some ⟨A, 0, none⟩) n N) n (celQ ps) := by
  obtain ⟨cur, hc, hs, _, hr⟩ := h.blk
  refine ⟨by rw [celQ_len, hn], .inr ⟨A, N, cur, rfl, hb, hc, hN, hm, hs, ?_⟩⟩
  apply List.ext_getElem?
  intro i
  by_cases hi : i < n * 3
  · have hj : i / 3 < ps.length := by omega
    have hp : ps[i / 3]? = some ps[i / 3] := List.getElem?_eq_getElem hj
    obtain ⟨h0, h1, h2⟩ := hr _ _ hp
    obtain ⟨k0, k1, k2⟩ := celQ_get ps hp
    rw [List.getElem?_take, if_pos hi, Array.getElem?_toList]
    have e3 : i = i / 3 * 3 ∨ i = i / 3 * 3 + 1 ∨ i = i / 3 * 3 + 2 := by omega
    rcases e3 with e | e | e <;> rw [e]
    · exact h0.trans k0.symm
    · exact h1.trans k1.symm
    · exact h2.trans k2.symm
  · rw [List.getElem?_eq_none (by simp; omega), List.getElem?_eq_none (by rw [celQ_len]; omega)]
theorem FilQ.of_own {w : World} {base A n N : Nat} {ps : List Nq} (h : w.ownsRow base 52 3 (.slice (some ⟨A, 0, none⟩) n N) n (celQ ps)) (hne : ps ≠ []) (he : ∀ p ∈ ps, (Sl w p.a p.n p.c p.x ∧ Sl w p.b p.m p.d p.y) ∧ Ok p.x ∧ Ok p.y) : FilQ w A N ps := by
  obtain ⟨hl, h2⟩ := h
  have hl' : ps.length = n := by rw [celQ_len] at hl; omega
  rcases h2 with ⟨h2, h3⟩ | ⟨g', cap, cur, h3, h4, h5, h6, h7, h8, h9⟩
  · cases h2
  · injection h3 with e1 e2 e3
    injection e1 with e1
    injection e1 with e1
    subst e1 e3
    have key : ∀ i p, ps[i]? = some p → cur[i * 3]? = some (.bool p.g) ∧ cur[i * 3 + 1]? = some (.slice p.a p.n p.c) ∧ cur[i * 3 + 2]? = some (.slice p.b p.m p.d) := fun i p hp => ?_
    · refine ⟨⟨cur, h5, h8, ?_, key⟩, he⟩
      obtain ⟨p, r, rfl⟩ := List.exists_cons_of_ne_nil hne
      exact ⟨p.g, (key 0 p rfl).1⟩
    have hi : i < n := by have := (List.getElem?_eq_some_iff.1 hp).1; omega
    obtain ⟨k0, k1, k2⟩ := celQ_get ps hp
    rw [← h9] at k0 k1 k2
    rw [List.getElem?_take, if_pos (by omega), Array.getElem?_toList] at k0 k1 k2
    exact ⟨k0, k1, k2⟩
def CellsI (w : World) (b off : Nat) (xs : List Int) : Prop :=
  ∀ i, i < xs.length → w.cell? ⟨b, off + i, none⟩ = some (.int .i64 (xs.getD i 0))
structure SlI (w : World) (a : Option Addr) (n c : Nat) (xs : List Int) : Prop where
  len : xs.length = n
  le : n ≤ c
  cap : c ≤ maxLen
  cells : xs = [] ∨ ∃ b off, a = some ⟨b, off, none⟩ ∧ CellsI w b off xs
theorem SlI.below {w w' : World} {a : Option Addr} {n c : Nat} {xs : List Int} (h : SlI w a n c xs) (hb : Below w.heap.size w w') : SlI w' a n c xs :=
  ⟨h.len, h.le, h.cap, h.cells.imp id (fun ⟨b, off, e, k⟩ => ⟨b, off, e, fun i hi => (Chg.of_below hb).cell (S := fun _ => False) (fun x => x) (k i hi)⟩)⟩
theorem SlI.at {w : World} {a : Option Addr} {n c : Nat} {xs : List Int} (h : SlI w a n c xs) (hn : 0 < n) : ∃ b off, a = some ⟨b, off, none⟩ ∧ ∀ i, i < n → w.cell? ⟨b, off + i, none⟩ = some (.int .i64 (xs.getD i 0)) := by
  rcases h.cells with e | ⟨b, off, e, k⟩
  · have := h.len; rw [e] at this; simp at this; omega
  · exact ⟨b, off, e, fun i hi => k i (by rw [h.len]; exact hi)⟩
theorem SlI.nil (w : World) : SlI w none 0 0 [] := ⟨rfl, Nat.le_refl _, Nat.zero_le _, .inl rfl⟩
structure RowP (width : Int) (cols : List Int) (x y : Nat) : Prop where
  rng : ∀ i, x ≤ i → i < y → 0 ≤ cols.getD i 0 ∧ cols.getD i 0 < width
  up : ∀ i, x < i → i < y → cols.getD (i - 1) 0 < cols.getD i 0
structure HeadP (rows width : Int) (st cols : List Int) : Prop where
  fit : 0 ≤ rows ∧ rows ≤ 128 ∧ 0 ≤ width ∧ width ≤ 128
  len : (st.length : Int) = rows + 1
  first : st.getD 0 0 = 0
  last : st.getD rows.toNat 0 = (cols.length : Int)
def SortP (st : List Int) (x : Nat) : Prop := ∀ i, x ≤ i → i + 1 < st.length → st.getD i 0 ≤ st.getD (i + 1) 0
structure MayP (rows width : Int) (st cols : List Int) : Prop where
  head : HeadP rows width st cols
  sort : SortP st 0
  row : ∀ r, r + 1 < st.length → RowP width cols (st.getD r 0).toNat (st.getD (r + 1) 0).toNat
theorem SortP.mono {st : List Int} (h : SortP st 0) : ∀ d i, i + d < st.length → st.getD i 0 ≤ st.getD (i + d) 0
  | 0, i, _ => Int.le_refl _
  | d + 1, i, hi => Int.le_trans (SortP.mono h d i (by omega)) (h (i + d) (Nat.zero_le _) (by omega))
theorem HeadP.rng {rows width : Int} {st cols : List Int} (h : HeadP rows width st cols) (hs : SortP st 0) {i : Nat} (hi : i < st.length) : 0 ≤ st.getD i 0 ∧ st.getD i 0 ≤ (cols.length : Int) := by
  have h1 := hs.mono i 0 (by omega)
  rw [Nat.zero_add, h.first] at h1
  have hl := h.len
  have hf := h.fit
  have h2 := hs.mono (rows.toNat - i) i (by omega)
  rw [show i + (rows.toNat - i) = rows.toNat by omega, h.last] at h2
  exact ⟨h1, h2⟩
def BIs (P : Prop) (w w' : World) (e : Ending) : Prop := (∃ b : Bool, e = .returned (.bool b) ∧ (b = true ↔ P)) ∧ Below w.heap.size w w'
def BIq (P : Prop) (w w' : World) (e : Ending) : Prop := (∃ b : Bool, e = .returned (.bool b) ∧ (b = true ↔ P)) ∧ w' = w
def Dr (w w' : World) : Prop := ∃ m, w' = w.drewN m
theorem Dr.refl (w : World) : Dr w w := ⟨0, rfl⟩
theorem Dr.drew {w w' : World} (h : Dr w w') : Dr w w'.drew := by obtain ⟨m, rfl⟩ := h; exact ⟨m + 1, by simp⟩
theorem Dr.n {w w' : World} (h : Dr w w') (k : Nat) : Dr w (w'.drewN k) := by obtain ⟨m, rfl⟩ := h; exact ⟨m + k, by rw [World.drewN_drewN]⟩
theorem Dr.trans {w w' w'' : World} (h : Dr w w') (k : Dr w' w'') : Dr w w'' := by obtain ⟨m, rfl⟩ := k; exact h.n m
theorem Dr.below {w w' : World} (h : Dr w w') : Below w.heap.size w w' := by obtain ⟨m, rfl⟩ := h; exact bel_drewN (Below.refl _ _) m
def QI (ok : Bool) (w w' : World) (e : Ending) : Prop := e = .returned (.bool ok) ∧ Dr w w'
theorem QI.yes {P : Prop} {ok : Bool} (ho : ok = true ↔ P) {w w' : World} (h : P) (k : Dr w w') : QI ok w w' (.returned (.bool true)) := ⟨by rw [ho.2 h], k⟩
theorem QI.no {P : Prop} {ok : Bool} (ho : ok = true ↔ P) {w w' : World} (h : ¬ P) (k : Dr w w') : QI ok w w' (.returned (.bool false)) := ⟨by cases ok; rfl; exact absurd (ho.1 rfl) h, k⟩
theorem BIs.yes {P : Prop} {w w' : World} (h : P) (k : Below w.heap.size w w') : BIs P w w' (.returned (.bool true)) := ⟨⟨true, rfl, by simp [h]⟩, k⟩
theorem BIs.no {P : Prop} {w w' : World} (h : ¬ P) (k : Below w.heap.size w w') : BIs P w w' (.returned (.bool false)) := ⟨⟨false, rfl, by simp [h]⟩, k⟩
end Go.Proofs.YtiadccaaoenccaaDoor

namespace Go.Proofs.YtiadccaaoenccaaDoor
open Go.RowKit Go.Deep
set_option linter.unusedVariables false

end Go.Proofs.YtiadccaaoenccaaDoor
namespace Go.Proofs.YtiadccaaoenccaaDoor
open Go.RowKit Go.Deep
set_option linter.unusedVariables false
def valsI (xs : List Int) : List Value := xs.map (fun x => Value.int .i64 x)
theorem Tryd.info_i64 : (Tryd.prog.info? 3).map (fun i => (i.zero, i.size, i.bytes)) = some (some (.int .i64 0), 1, 8) := by kernel_rfl
theorem cells_of_blockI {w : World} {b off : Nat} {cur : Array Value} {e : TypeId} {fr : Nat × Nat} {xs : List Int} (h : w.heap[b]? = some (.cells cur e fr)) (ht : ∀ i, i < xs.length → cur[off + i]? = some (.int .i64 (xs.getD i 0))) : CellsI w b off xs := by
  intro i hi
  rw [cell_of_block h]; exact ht i hi

theorem vals_getI {xs : List Int} {i : Nat} (h : i < xs.length) : (valsI xs)[i]? = some (.int .i64 (xs.getD i 0)) := by
  simp [valsI, h]

theorem take_valsI {cur : Array Value} {n : Nat} {xs : List Int} (hl : xs.length = n) (h : cur.toList.take n = valsI xs) : ∀ i, i < xs.length → cur[i]? = some (.int .i64 (xs.getD i 0)) := by
  intro i hi
  have := vals_getI hi
  rw [← h] at this
  simpa [List.getElem?_take, show i < n from by omega] using this

theorem make_n3I (n : Nat) (hn : n ≤ 17592186044400) (w : World) : (Instr.makeSlice 23 (.int .i64 (n : Int)) (.int .i64 ((n : Int) + 3))).run Tryd.prog w = .ok (.slice (some ⟨w.heap.size, 0, none⟩) n (n + 3)) (w.alloc (.cells (madeCells #[.int .i64 0] (n + 3)) 3)) := by
  obtain ⟨i, hi, hzz⟩ := Option.map_eq_some_iff.1 Tryd.info_i64
  simp only [Prod.mk.injEq] at hzz
  obtain ⟨hz, hs, hb⟩ := hzz
  have hr := run_make (P := Tryd.prog) w 23 3 i (.int .i64 0) Tryd.underlying23 hi hz .i64 .i64 n ((n : Int) + 3) (by omega) (by omega) (by rw [hb]; omega) (by omega)
  rw [hs, Nat.mul_one, show ((n : Int) + 3).toNat = n + 3 from by omega, show ((n : Int)).toNat = n from by omega] at hr
  exact hr

theorem copy_stepI {wr w : World} {n k : Nat} {cur : Array Value} {xs : List Int} (hblk : wr.heap[w.heap.size]? = some (.cells cur 3)) (hsz : cur.size = n + 3) (hk : k < n)
    (hpre : ∀ i, i < k → cur[i]? = some (.int .i64 (xs.getD i 0))) :
    ∃ cur', (wr.setCell ⟨w.heap.size, k, none⟩ (.int .i64 (xs.getD k 0))).heap[w.heap.size]? = some (.cells cur' 3) ∧ cur'.size = n + 3 ∧ ∀ i, i < k + 1 → cur'[i]? = some (.int .i64 (xs.getD i 0)) := by
  refine ⟨_, set_block hblk k _, by simp [hsz], ?_⟩
  intro i hi
  by_cases e : i = k
  · subst e; simp [show i < cur.size from by omega]
  · rw [Array.getElem?_setIfInBounds_ne (by omega)]; exact hpre i (by omega)

set_option maxHeartbeats 800000 in
theorem copy_someI (b off n c : Nat) (xs : List Int) (w : World) (hn : xs.length = n) (hcm : n ≤ 17592186044400) (hc : CellsI w b off xs) :
    Calls Tryd.prog 26 #[.slice (some ⟨b, off, none⟩) n c] w fun e w' => ∃ cur, e = .returned (.slice (some ⟨w.heap.size, 0, none⟩) n (n + 3)) ∧ w'.heap[w.heap.size]? = some (.cells cur 3) ∧ cur.size = n + 3 ∧ (∀ i, i < n → cur[i]? = some (.int .i64 (xs.getD i 0))) ∧ w'.heap.size = w.heap.size + 1 ∧ Below w.heap.size w w' := by
  have hmk := make_n3I n hcm
  go_enter Tryd.func26, Tryd.ntmps26
  go_wp2
  go_loopw [4] (fun i wr => ∃ k : Nat, k ≤ n ∧ i = .int .i64 k ∧ (∃ cur, wr.heap[w.heap.size]? = some (.cells cur 3) ∧ cur.size = n + 3 ∧ ∀ i, i < k → cur[i]? = some (.int .i64 (xs.getD i 0))) ∧ wr.heap.size = w.heap.size + 1 ∧ Below w.heap.size w wr) (fun i _ => n - (intOf i).toNat)
  case atStart => exact ⟨0, Nat.zero_le _, rfl, ⟨_, alloc_block _ _, size_madeCells _ _, fun i hi => absurd hi (Nat.not_lt_zero _)⟩, by simp, (Below.refl _ _).alloc (Nat.le_refl _) _⟩
  case round =>
    obtain ⟨k, hk, rfl, ⟨cur, hblk, hsz, hpre⟩, hhs, hbel⟩ := hrel
    by_cases hlt : k < n
    · have hlt' : (k:Int) < (n:Int) := by omega
      have g1 : wr.cell? ⟨w.heap.size, k, none⟩ = some cur[k]! := by rw [cell_of_block hblk]; simp [show k < cur.size from by omega]
      have g2 := frozen_of_block hblk k
      have g3 := hc k (by omega)
      have g4 : wr.cell? ⟨b, off + k, none⟩ = _ := (hbel.cell (World.block_lt_of_cell? _ _ g3)).trans g3
      have HS := hide (copy_stepI hblk hsz hlt hpre)
      have HB := hide (hbel.setCell (p := ⟨w.heap.size, k, none⟩) (Nat.le_refl _) (.int .i64 (xs.getD k 0)))
      have HH := hide hhs
      generalize xs.getD k 0 = x at g3 g4 HS HB
      clear hblk hsz hpre hbel g3 hhs
      go_wp2
      refine ⟨⟨k + 1, by omega, by go_num, by simpa using unhide HS, by simpa using unhide HH, unhide HB⟩, by simp [intOf]; omega⟩
    · have HS := hide hpre
      have HB := hide hblk
      have HZ := hide hsz
      have HH := hide hhs
      clear hpre hblk hsz hhs
      go_wp2
      go_ret
      exact ⟨cur, rfl, unhide HB, unhide HZ, fun i hi => unhide HS i (by omega), unhide HH, hbel⟩

set_option maxHeartbeats 800000 in
theorem copy_nilI (a : Option Addr) (c : Nat) (w : World) :
    Calls Tryd.prog 26 #[.slice a 0 c] w fun e w' => ∃ cur, e = .returned (.slice (some ⟨w.heap.size, 0, none⟩) 0 3) ∧ w'.heap[w.heap.size]? = some (.cells cur 3) ∧ cur.size = 3 ∧ w'.heap.size = w.heap.size + 1 ∧ Below w.heap.size w w' := by
  have hmk : ∀ w, (Instr.makeSlice 23 (.int .i64 0) (.int .i64 3)).run Tryd.prog w = .ok (.slice (some ⟨w.heap.size, 0, none⟩) 0 3) (w.alloc (.cells (madeCells #[.int .i64 0] 3) 3)) := fun w => make_n3I 0 (by omega) w
  go_enter Tryd.func26, Tryd.ntmps26
  go_wp2
  go_loopw [4] (fun i wr => i = .int .i64 0 ∧ (∃ cur, wr.heap[w.heap.size]? = some (.cells cur 3) ∧ cur.size = 3) ∧ wr.heap.size = w.heap.size + 1 ∧ Below w.heap.size w wr) (fun i _ => (intOf i).toNat)
  case atStart => exact ⟨rfl, ⟨_, alloc_block _ _, size_madeCells _ _⟩, by simp, (Below.refl _ _).alloc (Nat.le_refl _) _⟩
  case round =>
    obtain ⟨rfl, ⟨cur, hblk, hsz⟩, hhs, hbel⟩ := hrel
    have HB := hide hblk
    have HZ := hide hsz
    have HH := hide hhs
    clear hblk hsz hhs
    go_wp2
    go_ret
    exact ⟨cur, rfl, unhide HB, unhide HZ, unhide HH, hbel⟩

theorem copy_anyI (a : Option Addr) (n c : Nat) (xs : List Int) (w : World) (h : SlI w a n c xs) (hb : n ≤ 17592186044400) :
    Calls Tryd.prog 26 #[.slice a n c] w fun e w' => ∃ cur, e = .returned (.slice (some ⟨w.heap.size, 0, none⟩) n (n + 3)) ∧ w'.heap[w.heap.size]? = some (.cells cur 3) ∧ cur.size = n + 3 ∧ (∀ i, i < n → cur[i]? = some (.int .i64 (xs.getD i 0))) ∧ w'.heap.size = w.heap.size + 1 ∧ Below w.heap.size w w' := by
  have hl := h.len
  rcases h.cells with h0 | ⟨b, off, rfl, hc⟩
  · subst h0
    simp at hl
    subst hl
    refine (copy_nilI a c w).mono ?_
    rintro e w' ⟨cur, rfl, h1, h2, h3, h4⟩
    exact ⟨cur, rfl, h1, h2, fun i hi => absurd hi (Nat.not_lt_zero _), h3, h4⟩
  · exact copy_someI b off n c xs w hl hb hc
end Go.Proofs.YtiadccaaoenccaaDoor
