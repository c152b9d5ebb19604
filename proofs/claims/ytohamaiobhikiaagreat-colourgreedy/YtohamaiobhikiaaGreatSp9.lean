/-
  PATTERNS: sparse.Places: contract.
-/
import Derived.Test.YtohamaiobhikiaaGreatSp8
import Derived.Test.YtohamaiobhikiaaGreatCg1
namespace Go.Proofs.YtohamaiobhikiaaGreat
open Go.RowKit Go.Deep Go.Shelf
set_option linter.unusedVariables false
attribute [local go_sem] Oper.semAt_some

/-- In the round of Places: two boxes, each with a list that grows. -/
structure PgI (w W : World) (B b1 b2 : Nat) (rs cs : List Int) : Prop where
  bel : Below w.heap.size w W
  two : ∃ v u, (W.heap[b1]? = some (.cells #[v] 23 (0, 0)) ∧ W.heap[b2]? = some (.cells #[u] 23 (0, 0))) ∧ W.ownsRow B 3 1 v rs.length (valsI rs) ∧ W.ownsRow B 3 1 u cs.length (valsI cs) ∧ ∀ g, v.ownBlock = some g → u.ownBlock ≠ some g
  le : B ≤ W.heap.size
theorem own_keptP {w w' : World} {B : Nat} {e : TypeId} {v : Value} {n : Nat} {xs : List Value} (h : w.ownsRow B e 1 v n xs) {row : Option Nat} (hg : w.grownBy w' row) (hr : ∀ r, row = some r → ∃ o : Obj, w.heap[r]? = some o ∧ o.isCells = false) : w'.ownsRow B e 1 v n xs := by
  refine h.kept hg ?_
  rcases h.2 with ⟨h1, _⟩ | ⟨g, cap, cur, h1, h2, h3, _⟩
  · left; rw [h1]; rfl
  · right
    rw [h1]
    intro he
    obtain ⟨o, ho, hc⟩ := hr g he.symm
    rw [h3] at ho
    cases ho
    cases hc
theorem blk_keptP {w w' : World} {k : Nat} {cs : Array Value} {e : TypeId} (h : w.heap[k]? = some (.cells cs e (0, 0))) {row : Option Nat} (hg : w.grownBy w' row) (hr : ∀ r, row = some r → ∃ o : Obj, w.heap[r]? = some o ∧ o.isCells = false) : w'.heap[k]? = some (.cells cs e (0, 0)) := by
  refine (hg.block k (Array.getElem?_eq_some_iff.1 h).1 (fun he => ?_)).trans h
  obtain ⟨o, ho, hc⟩ := hr k he.symm
  rw [h] at ho
  cases ho
  cases hc
theorem PgI.own {β : Type} {w : World} {B b1 b2 : Nat} (r c : β → List Int) (hB : w.heap.size ≤ B) : OwnFrom B (fun (s : β) W => PgI w W B b1 b2 (r s) (c s)) := by
  intro s W W' row h hg hr
  have hr' : ∀ r, row = some r → ∃ o : Obj, W.heap[r]? = some o ∧ o.isCells = false := fun r e => (hr r e).2
  obtain ⟨v, u, ⟨k1, k2⟩, o1, o2, ap⟩ := h.two
  exact ⟨h.bel.grown hg h.bel.size (fun k e => Nat.le_trans hB (hr k e).1), ⟨v, u, ⟨blk_keptP k1 hg hr', blk_keptP k2 hg hr'⟩, own_keptP o1 hg hr', own_keptP o2 hg hr', ap⟩, Nat.le_trans h.le hg.size⟩
/-- What a round's region has done so far: the lists may have grown, nothing is stored. -/
structure AqS (W Wc : World) (B b1 b2 : Nat) (v0 u0 v u : Value) (rs cs : List Int) : Prop where
  chg : Chg (fun j => v0.ownBlock = some j ∨ u0.ownBlock = some j ∨ j = b1) W Wc
  bx1 : Wc.heap[b1]? = some (.cells #[v0] 23 (0, 0))
  bx2 : Wc.heap[b2]? = some (.cells #[u0] 23 (0, 0))
  own1 : Wc.ownsRow B 3 1 v rs.length (valsI rs)
  own2 : Wc.ownsRow B 3 1 u cs.length (valsI cs)
  apart : ∀ g, v.ownBlock = some g → u.ownBlock ≠ some g
  le : B ≤ Wc.heap.size
  lw : W.heap.size ≤ Wc.heap.size
  kp : KeepsFrom B W Wc
theorem own_neP {w : World} {B : Nat} {e : TypeId} {v : Value} {n : Nat} {xs : List Value} (h : w.ownsRow B e 1 v n xs) {k : Nat} {cs : Array Value} {e2 : TypeId} (hk : w.heap[k]? = some (.cells cs e2 (0, 0))) (hne : e ≠ e2) : v.ownBlock ≠ some k := by
  intro he
  rcases h.2 with ⟨h1, _⟩ | ⟨g, cap, cur, h1, h2, h3, _⟩
  · rw [h1] at he; simp [Value.ownBlock] at he
  · rw [h1] at he
    have : g = k := by simpa [Value.ownBlock] using he
    subst this
    rw [h3] at hk
    cases hk
    exact hne rfl
theorem AqS.below {W Wc Wn : World} {B b1 b2 : Nat} {v0 u0 v u : Value} {rs cs : List Int} (h : AqS W Wc B b1 b2 v0 u0 v u rs cs) (k : Below Wc.heap.size Wc Wn) : AqS W Wn B b1 b2 v0 u0 v u rs cs := by
  have lt : ∀ {i : Nat} {o : Obj}, Wc.heap[i]? = some o → i < Wc.heap.size := fun h => (Array.getElem?_eq_some_iff.1 h).1
  refine ⟨⟨k.os.trans h.chg.os, k.tape.trans h.chg.tape, k.output.trans h.chg.output, Nat.le_trans h.chg.size k.size, fun j hj hS => (k.block j (Nat.lt_of_lt_of_le hj h.lw)).trans (h.chg.block j hj hS)⟩, (k.block _ (lt h.bx1)).trans h.bx1, (k.block _ (lt h.bx2)).trans h.bx2, ownsRow_chg (S := fun _ => False) h.own1 (.of_below k) (fun _ _ => id), ownsRow_chg (S := fun _ => False) h.own2 (.of_below k) (fun _ _ => id), h.apart, Nat.le_trans h.le k.size, Nat.le_trans h.lw k.size, ⟨Nat.le_trans h.kp.size k.size, fun j o hB hj ho => by
    have h1 := h.kp.same j o hB hj ho
    exact (k.block _ (lt h1)).trans h1⟩⟩
theorem AqS.app1 {W Wc W3 : World} {B b1 b2 : Nat} {v0 u0 u : Value} {rs cs : List Int} {x : Int} {g cap : Nat} (h : AqS W Wc B b1 b2 v0 u0 v0 u rs cs) (hown : W3.ownsRow B 3 1 (.slice (some ⟨g, 0, none⟩) (rs.length + 1) cap) (rs.length + 1) (valsI rs ++ [.int .i64 x])) (hg : Wc.grownBy W3 v0.ownBlock) (hat : v0.ownBlock = some g ∨ g = Wc.heap.size) :
    AqS W W3 B b1 b2 v0 u0 (.slice (some ⟨g, 0, none⟩) (rs.length + 1) cap) u (rs ++ [x]) cs := by
  have lt : ∀ {i : Nat} {o : Obj}, Wc.heap[i]? = some o → i < Wc.heap.size := fun h => (Array.getElem?_eq_some_iff.1 h).1
  have k : ∀ {i : Nat} {o : Obj}, Wc.heap[i]? = some o → some i ≠ v0.ownBlock → W3.heap[i]? = some o := fun hi hne => (hg.block _ (lt hi) hne).trans hi
  refine ⟨⟨hg.os.trans h.chg.os, hg.tape.trans h.chg.tape, hg.output.trans h.chg.output, Nat.le_trans h.chg.size hg.size, fun j hj hS => (hg.block j (Nat.lt_of_lt_of_le hj h.lw) (fun e => hS (.inl e.symm))).trans (h.chg.block j hj hS)⟩, k h.bx1 (fun e => own_neP h.own1 h.bx1 (by decide) e.symm), k h.bx2 (fun e => own_neP h.own1 h.bx2 (by decide) e.symm), by simpa [valsI] using hown, h.own2.kept hg ?_, ?_, Nat.le_trans h.le hg.size, Nat.le_trans h.lw hg.size, ⟨Nat.le_trans h.kp.size hg.size, fun j o hB hj ho => ?_⟩⟩
  · cases hu : u.ownBlock with
    | none => exact .inl rfl
    | some j => right; intro e; exact h.apart j e.symm hu
  · intro j hj hu
    have hj' : g = j := by simpa [Value.ownBlock] using hj
    subst hj'
    rcases hat with e | e
    · exact h.apart _ e hu
    · have := (own_ge h.own2 _ hu).2; omega
  · have h1 := h.kp.same j o hB hj ho
    refine k h1 (fun e => ?_)
    rcases h.own1.2 with ⟨h2, _⟩ | ⟨g', cap', cur, h2, h3, h4, _⟩
    · rw [h2] at e; simp [Value.ownBlock] at e
    · rw [h2] at e
      have : j = g' := by simpa [Value.ownBlock] using e
      subst this
      rw [h4] at h1
      cases h1
      cases ho
theorem AqS.app2 {W Wc W3 : World} {B b1 b2 : Nat} {v0 u0 v : Value} {rs cs : List Int} {x : Int} {g cap : Nat} (h : AqS W Wc B b1 b2 v0 u0 v u0 rs cs) (hown : W3.ownsRow B 3 1 (.slice (some ⟨g, 0, none⟩) (cs.length + 1) cap) (cs.length + 1) (valsI cs ++ [.int .i64 x])) (hg : Wc.grownBy W3 u0.ownBlock) (hat : u0.ownBlock = some g ∨ g = Wc.heap.size) :
    AqS W W3 B b1 b2 v0 u0 v (.slice (some ⟨g, 0, none⟩) (cs.length + 1) cap) rs (cs ++ [x]) := by
  have lt : ∀ {i : Nat} {o : Obj}, Wc.heap[i]? = some o → i < Wc.heap.size := fun h => (Array.getElem?_eq_some_iff.1 h).1
  have k : ∀ {i : Nat} {o : Obj}, Wc.heap[i]? = some o → some i ≠ u0.ownBlock → W3.heap[i]? = some o := fun hi hne => (hg.block _ (lt hi) hne).trans hi
  refine ⟨⟨hg.os.trans h.chg.os, hg.tape.trans h.chg.tape, hg.output.trans h.chg.output, Nat.le_trans h.chg.size hg.size, fun j hj hS => (hg.block j (Nat.lt_of_lt_of_le hj h.lw) (fun e => hS (.inr (.inl e.symm)))).trans (h.chg.block j hj hS)⟩, k h.bx1 (fun e => own_neP h.own2 h.bx1 (by decide) e.symm), k h.bx2 (fun e => own_neP h.own2 h.bx2 (by decide) e.symm), h.own1.kept hg ?_, by simpa [valsI] using hown, ?_, Nat.le_trans h.le hg.size, Nat.le_trans h.lw hg.size, ⟨Nat.le_trans h.kp.size hg.size, fun j o hB hj ho => ?_⟩⟩
  · cases hv : v.ownBlock with
    | none => exact .inl rfl
    | some j => right; intro e; exact h.apart j hv e.symm
  · intro j hj hu
    have hu' : g = j := by simpa [Value.ownBlock] using hu
    subst hu'
    rcases hat with e | e
    · exact h.apart _ hj e
    · have := (own_ge h.own1 _ hj).2; omega
  · have h1 := h.kp.same j o hB hj ho
    refine k h1 (fun e => ?_)
    rcases h.own2.2 with ⟨h2, _⟩ | ⟨g', cap', cur, h2, h3, h4, _⟩
    · rw [h2] at e; simp [Value.ownBlock] at e
    · rw [h2] at e
      have : j = g' := by simpa [Value.ownBlock] using e
      subst this
      rw [h4] at h1
      cases h1
      cases ho
theorem frz_blk {w : World} {b : Nat} {cs : Array Value} {e : TypeId} (h : w.heap[b]? = some (.cells cs e (0, 0))) (i : Nat) : w.frozen? ⟨b, i, none⟩ = false := by simp [World.frozen?, h]
theorem AqS.c1 {W Wc : World} {B b1 b2 : Nat} {v0 u0 v u : Value} {rs cs : List Int} (h : AqS W Wc B b1 b2 v0 u0 v u rs cs) : Wc.cell? ⟨b1, 0, none⟩ = some v0 := (cell_of_block h.bx1 0).trans rfl
theorem AqS.f1 {W Wc : World} {B b1 b2 : Nat} {v0 u0 v u : Value} {rs cs : List Int} (h : AqS W Wc B b1 b2 v0 u0 v u rs cs) : Wc.frozen? ⟨b1, 0, none⟩ = false := frz_blk h.bx1 0
theorem AqS.c2 {W Wc : World} {B b1 b2 : Nat} {v0 u0 v u : Value} {rs cs : List Int} (h : AqS W Wc B b1 b2 v0 u0 v u rs cs) (y : Value) (hne : b1 ≠ b2) : (Wc.setCell ⟨b1, 0, none⟩ y).cell? ⟨b2, 0, none⟩ = some u0 := (cell_of_block ((blk_setCell_other _ _ _ _ (fun e => hne e.symm)).trans h.bx2) 0).trans rfl
theorem AqS.f2 {W Wc : World} {B b1 b2 : Nat} {v0 u0 v u : Value} {rs cs : List Int} (h : AqS W Wc B b1 b2 v0 u0 v u rs cs) (y : Value) (hne : b1 ≠ b2) : (Wc.setCell ⟨b1, 0, none⟩ y).frozen? ⟨b2, 0, none⟩ = false := frz_blk ((blk_setCell_other _ _ _ _ (fun e => hne e.symm)).trans h.bx2) 0
/-- Both are stored. -/
theorem AqS.fin {w W Wc : World} {B b1 b2 : Nat} {v0 u0 v u : Value} {rs cs : List Int} (h : AqS W Wc B b1 b2 v0 u0 v u rs cs) (hb : Below w.heap.size w W) (hwB : w.heap.size ≤ B) (hb1 : w.heap.size ≤ b1) (hb2 : w.heap.size ≤ b2) (hne : b1 ≠ b2) (l1 : ∀ j, v0.ownBlock = some j → B ≤ j) (l2 : ∀ j, u0.ownBlock = some j → B ≤ j) :
    KeepsFrom B W ((Wc.setCell ⟨b1, 0, none⟩ v).setCell ⟨b2, 0, none⟩ u) ∧ KpY (fun j => j = b1 ∨ j = b2) B W ((Wc.setCell ⟨b1, 0, none⟩ v).setCell ⟨b2, 0, none⟩ u) ∧ PgI w ((Wc.setCell ⟨b1, 0, none⟩ v).setCell ⟨b2, 0, none⟩ u) B b1 b2 rs cs := by
  have c1 : Chg (fun j => j = b1 ∨ j = b2) Wc ((Wc.setCell ⟨b1, 0, none⟩ v).setCell ⟨b2, 0, none⟩ u) := (Chg.of_set (S := fun j => j = b1 ∨ j = b2) _ _ _ _ (.inl rfl)).trans (Chg.of_set (S := fun j => j = b1 ∨ j = b2) _ _ _ _ (.inr rfl))
  have c0 : KpY (fun j => j = b1 ∨ j = b2) B W ((Wc.setCell ⟨b1, 0, none⟩ v).setCell ⟨b2, 0, none⟩ u) := by
    refine ⟨c1.os.trans h.chg.os, c1.tape.trans h.chg.tape, c1.output.trans h.chg.output, Nat.le_trans h.chg.size c1.size, fun j hj hS => ?_⟩
    rw [c1.block j (Nat.lt_of_lt_of_le hj h.lw) (fun e => hS (.inl e)), h.chg.block j hj (fun e => hS ?_)]
    rcases e with e | e | e
    · exact .inr (l1 j e)
    · exact .inr (l2 j e)
    · exact .inl (.inl e)
  have r1 : (Wc.setCell ⟨b1, 0, none⟩ v).heap[b1]? = some (.cells #[v] 23 (0, 0)) := by simp [World.setCell, Array.getElem?_modify, h.bx1]
  have r2 : (Wc.setCell ⟨b1, 0, none⟩ v).heap[b2]? = some (.cells #[u0] 23 (0, 0)) := by rw [blk_setCell_other _ _ _ _ (fun e => hne e.symm)]; exact h.bx2
  have o1 := ownsRow_chg h.own1 c1 (fun j hj e => by rcases e with rfl | rfl; exact own_neP h.own1 h.bx1 (by decide) hj; exact own_neP h.own1 h.bx2 (by decide) hj)
  have o2 := ownsRow_chg h.own2 c1 (fun j hj e => by rcases e with rfl | rfl; exact own_neP h.own2 h.bx1 (by decide) hj; exact own_neP h.own2 h.bx2 (by decide) hj)
  refine ⟨h.kp.trans ⟨c1.size, fun j o hB hj ho => ?_⟩, c0, ⟨hb.trans (c0.below hb.size (fun j hj e => by rcases e with (e | e) | e <;> omega)), ⟨v, u, ⟨?_, ?_⟩, o1, o2, h.apart⟩, Nat.le_trans h.le c1.size⟩⟩
  · refine (c1.block j (Array.getElem?_eq_some_iff.1 hj).1 (fun e => ?_)).trans hj
    rcases e with rfl | rfl
    · rw [h.bx1] at hj; cases hj; cases ho
    · rw [h.bx2] at hj; cases hj; cases ho
  · rw [blk_setCell_other _ _ _ _ hne]; exact r1
  · simp [World.setCell, Array.getElem?_modify] at r2 ⊢
    rw [r2]
    simp
theorem own_slG {w : World} {base n : Nat} {e : TypeId} {v : Value} {xs : List Int} (h : w.ownsRow base e 1 v n (valsI xs)) : ∃ a c, v = .slice a n c ∧ SlI w a n c xs := by
  have hl : xs.length = n := by have := h.1; simpa [valsI] using this
  rcases h.2 with ⟨rfl, rfl⟩ | ⟨b, cap, cur, rfl, h4, h5, h6, h7, h8, h9⟩
  · have : xs = [] := List.eq_nil_of_length_eq_zero hl
    subst this
    exact ⟨none, 0, rfl, SlI.nil _⟩
  · refine ⟨_, _, rfl, ⟨hl, h6, h7, .inr ⟨b, 0, rfl, fun i hi => ?_⟩⟩⟩
    rw [Nat.zero_add, cell_of_block h5]
    have : (cur.toList.take (n * 1))[i]? = (valsI xs)[i]? := by rw [h9]
    rw [List.getElem?_take_of_lt (by omega)] at this
    rw [← Array.getElem?_toList, this]
    simp [valsI, List.getD, hi]
theorem rowC_row {st cols : List Int} {width : Int} {k X Y : Nat} (h : RowAt st cols width k X Y) : rowC st cols k = (cols.drop X).take (Y - X) := by
  unfold rowC
  rw [h.hX, h.hY]
  rfl
theorem flP_maps {R : Nat} {width : Int} {st cols : List Int} (hm : MayP (R : Int) width st cols) : ∀ k, k ≤ R → (flP (rowC st cols) k).map (·.1) = plR st k ∧ (flP (rowC st cols) k).map (·.2) = cols.take (st.getD k 0).toNat
  | 0, _ => by rw [hm.head.first]; exact ⟨rfl, rfl⟩
  | k + 1, hk => by
    obtain ⟨X, Y, h⟩ := hm.rowAt (k := k) (by omega)
    obtain ⟨i1, i2⟩ := flP_maps hm k (by omega)
    have hl : (rowC st cols k).length = Y - X := by rw [rowC_row h, List.length_take, List.length_drop]; have := h.lt; have := h.le; omega
    constructor
    · show ((flP (rowC st cols) k) ++ (rowC st cols k).map (fun c => ((k : Int), c))).map (·.1) = _
      rw [List.map_append, i1, plR_row h, List.map_map]
      congr 1
      rw [← hl]
      exact List.eq_replicate_iff.2 ⟨by simp, fun b hb => by obtain ⟨c, _, rfl⟩ := List.mem_map.1 hb; rfl⟩
    · show ((flP (rowC st cols) k) ++ (rowC st cols k).map (fun c => ((k : Int), c))).map (·.2) = _
      rw [List.map_append, i2, List.map_map, h.hX, h.hY]
      have e1 : (rowC st cols k).map ((fun p : Int × Int => p.2) ∘ fun c => ((k : Int), c)) = rowC st cols k := by
        have : ((fun p : Int × Int => p.2) ∘ fun c => ((k : Int), c)) = id := by funext c; rfl
        rw [this, List.map_id]
      rw [e1, rowC_row h]
      show cols.take X ++ (cols.drop X).take (Y - X) = cols.take Y
      rw [← List.take_add, show X + (Y - X) = Y by have := h.le; omega]
theorem kpY_t {Z : Nat → Prop} {n₀ : Nat} {A B C : World} (h : KpY Z n₀ A B) (k : KpY Z n₀ B C) : KpY Z n₀ A C := Chg.trans h k
theorem kpY_b {Z : Nat → Prop} {n₀ : Nat} {w : World} (hn : n₀ ≤ w.heap.size) (W : World) (l : Nat) (o o' : Obj) (hl : w.heap.size ≤ l) (h : W.heap[l]? = some o) (_ : o.isCells = false) (_ : o.isWalk = false) : KpY Z n₀ W (W.putObj l o') :=
  ⟨rfl, rfl, rfl, by simp, fun k hk hs => World.putObj_heap_other (fun e => hs (.inr (by omega)))⟩
end Go.Proofs.YtohamaiobhikiaaGreat
