/- Sp5 -/
import Derived.Test.YtgjokididdffhaaGreatSp4
import Derived.Test.YtgjokididdffhaaGreatCu1
import Derived.OrdersHeld
import Derived.OrdersIn
import Derived.OwnWalkIn
import Derived.RangeFuncCalls
namespace Go.Proofs.YtgjokididdffhaaGreat
open Go.RowKit Go.Deep
set_option linter.unusedVariables false
structure PlI (w1 W : World) (base : Nat) (v u : Value) (rs cs : List Int) : Prop where
  own1 : W.ownsRow base 3 1 v rs.length (valsI rs)
  own2 : W.ownsRow base 3 1 u cs.length (valsI cs)
  apart : ∀ g, v.ownBlock = some g → u.ownBlock ≠ some g
  bel : Below base w1 W
  le : base ≤ W.heap.size
theorem PlI.swap {w1 W : World} {base : Nat} {v u : Value} {rs cs : List Int} (h : PlI w1 W base v u rs cs) : PlI w1 W base u v cs rs := ⟨h.own2, h.own1, fun g hu hv => h.apart g hv hu, h.bel, h.le⟩
theorem PlI.app {w1 W W3 : World} {base : Nat} {v u : Value} {rs cs : List Int} {x : Int} {g cap : Nat} (h : PlI w1 W base v u rs cs) (o : Obj) (hown : W3.ownsRow base 3 1 (.slice (some ⟨g, 0, none⟩) (rs.length + 1) cap) (rs.length + 1) (valsI rs ++ [.int .i64 x])) (hg : (W.alloc o).grownBy W3 v.ownBlock) (hat : v.ownBlock = some g ∨ g = W.heap.size + 1) : PlI w1 W3 base (.slice (some ⟨g, 0, none⟩) (rs.length + 1) cap) u (rs ++ [x]) cs := by
  have hB : Below base W W3 := Below.grown ((Below.refl base W).alloc h.le o) hg (by simp; have := h.le; omega) (fun j hj => (own_ge h.own1 j hj).1)
  refine ⟨by simpa [valsI] using hown, (h.own2.alloc o).kept hg ?_, ?_, h.bel.trans hB, Nat.le_trans h.le hB.size⟩
  · cases hu : u.ownBlock with
    | none => exact .inl rfl
    | some j =>
      right
      intro e
      exact h.apart j e.symm hu
  · intro j hj hu
    have hj' : g = j := by simpa [Value.ownBlock] using hj
    subst hj'
    rcases hat with e | e
    · exact h.apart _ e hu
    · have := (own_ge h.own2 _ hu).2
      omega
theorem own_slI {w : World} {base n : Nat} {v : Value} {xs : List Int} (h : w.ownsRow base 3 1 v n (valsI xs)) : ∃ a c, v = .slice a n c ∧ SlI w a n c xs := by
  have hl : xs.length = n := by have := h.1; simpa [valsI] using this
  rcases h.2 with ⟨rfl, rfl⟩ | ⟨b, cap, cur, rfl, h4, h5, h6, h7, h8, h9⟩
  · have : xs = [] := List.eq_nil_of_length_eq_zero hl
    subst this
    exact ⟨none, 0, rfl, SlI.nil _⟩
  · refine ⟨_, _, rfl, ⟨hl, h6, h7, .inr ⟨b, 0, rfl, fun i hi => ?_⟩⟩⟩
    rw [Nat.zero_add, cell_of_block h5]
    have : (cur.toList.take (n * 1))[i]? = (valsI xs)[i]? := by rw [h9]
    rw [List.getElem?_take_of_lt (by omega)] at this
    rw [← Array.getElem?_toList, this]
    simp [valsI, List.getD, hi]
theorem take_snoc {cols : List Int} {i : Nat} {x : Int} (hi : i < cols.length) (hx : cols.getD i 0 = x) : cols.take (i + 1) = cols.take i ++ [x] := by
  rw [List.take_add_one]
  congr 1
  subst hx
  simp [hi, List.getD]
section
variable {P : Program} {ops : Array Oper} {Q : Exit → Act → World → Prop} {md : Region.Mode} {S : World → Prop} {L : Nat}

def anyTill (P : Program) (md : Region.Mode) (ops : Array Oper) (Q : Exit → Act → World → Prop) (S : World → Prop) (L : Nat) : Nat → Array Bool → Act → World → Prop
  | 0, l, a, w => Region.ready md ops l = [] ∧ Q .normal a w
  | n + 1, l, a, w => (Region.ready md ops l = [] → Q .normal a w) ∧
      ∀ i ∈ Region.ready md ops l, wpOp P ops Q i (fun a' w' => (i ≠ L → S w') ∧ anyTill P md ops Q S L n (l.setIfInBounds i true) a' w') a w

theorem anyTill_any : ∀ (n : Nat) (l : Array Bool) (a : Act) (w : World), anyTill P md ops Q S L n l a w → wpAny P md ops Q n l a w
  | 0, _, _, _, h => h
  | n + 1, _, _, _, h => ⟨h.1, fun i hi => wpOp_mono (fun a' w' k => anyTill_any n _ a' w' k.2) (h.2 i hi)⟩

theorem anyTill_region (S : World → Prop) (L : Nat) {id : Nat} {a : Act} {w : World} (hm : P.follows .mixedOrders = true)
    (h : anyTill P .any ops Q S L ops.size (Array.replicate ops.size false) a w.drew) : (Code.region id ops true).wp P Q a w :=
  wp_region_any hm (anyTill_any _ _ _ _ h)

theorem anyTill_first {i : Nat} {oi oL : Oper} {v : Value} (hi : ops[i]? = some oi) (hn : Region.noSelect ops = true)
    (hL : ops[L]? = some oL) (hw : ∃ e ∈ oL.after, Region.binds md e = true ∧ e.on = i)
    (hQ : ∀ c a w, Q (.panic c) (a.put oi.dst v) w → Q (.panic c) a w) :
    ∀ (n : Nat) (l : Array Bool) (a : Act) (w : World),
      (∀ j oj, ops[j]? = some oj → j ≠ i → l.getD j true = false → (∀ e ∈ oj.after, Region.binds md e = true → e.on ≠ i) → oi.apart ops oj = true) →
      i ∈ Region.ready md ops l → YieldsIf P ops S oi v a → S w →
      anyTill P md ops Q S L n (l.setIfInBounds i true) (a.put oi.dst v) w → anyTill P md ops Q S L (n + 1) l a w := by
  intro n
  induction n with
  | zero =>
    intro l a w _ hr hy hS H
    refine ⟨fun h => absurd hr (by rw [h]; simp), fun j hj => ?_⟩
    by_cases hji : j = i
    · subst hji; exact hy.wpOp hi hS ⟨fun _ => hS, H⟩
    · exact absurd (ready_mono hj hji) (by rw [H.1]; simp)
  | succ n ih =>
    intro l a w hf hr hy hS H
    refine ⟨fun h => absurd hr (by rw [h]; simp), fun j hj => ?_⟩
    by_cases hji : j = i
    · subst hji; exact hy.wpOp hi hS ⟨fun _ => hS, H⟩
    · obtain ⟨hju, oj, hoj, hall⟩ := mem_ready.1 hj
      have hno : ∀ e ∈ oj.after, Region.binds md e = true → e.on ≠ i := fun e he hb heq => by
        have k1 := hall e he hb
        have k0 := (mem_ready.1 hr).1
        rw [heq] at k1
        rcases Nat.lt_or_ge i l.size with h' | h'
        · simp [h'] at k0 k1; rw [k0] at k1; cases k1
        · simp [Array.getElem?_eq_none h'] at k1
      have hjL : j ≠ L := fun e => by
        obtain ⟨e1, h1, h2, h3⟩ := hw
        rw [e, hL] at hoj
        cases hoj
        exact hno e1 h1 h2 h3
      have k2 := wpOp_putIf hoj (hf j oj hoj hji hju hno) (fun cs b => Region.noSelect_spec hn i oi cs b hi) (fun cs b => Region.noSelect_spec hn j oj cs b hoj) hQ hy (H.2 j (ready_mono hj hji))
      refine wpOp_mono (fun a' w' k3 => ⟨fun _ => k3.2.1 hjL, ih (l.setIfInBounds j true) a' w' (fun k ok hk hki hun hno' => hf k ok hk hki ?_ hno') (ready_mono hr (Ne.symm hji)) k3.1 (k3.2.1 hjL) ?_⟩) k2
      · by_cases hjk : j = k
        · subst hjk; exact hju
        · rw [getD_set_ne true hjk] at hun; exact hun
      · rw [Array.setIfInBounds_comm _ _ hji]; exact k3.2.2

theorem anyTill_take {i : Nat} {oi oL : Oper} {v : Value} {n : Nat} {l : Array Bool} {a : Act} {w : World} (hi : ops[i]? = some oi) (hL : ops[L]? = some oL)
    (hn : Region.noSelect ops = true) (hf : Region.free md ops l i = true) (hr : (Region.ready md ops l).contains i = true) (hw : (oL.after.any fun e => Region.binds md e && e.on == i) = true)
    (hQ : ∀ c a w, Q (.panic c) (a.put oi.dst v) w → Q (.panic c) a w) (hy : YieldsIf P ops S oi v a) (hS : S w)
    (h : anyTill P md ops Q S L n (l.setIfInBounds i true) (a.put oi.dst v) w) : anyTill P md ops Q S L (n + 1) l a w := by
  obtain ⟨e, h1, h2⟩ := Array.any_eq_true'.1 hw
  simp only [Bool.and_eq_true, beq_iff_eq] at h2
  exact anyTill_first hi hn hL ⟨e, h1, h2⟩ hQ n l a w (Region.free_spec hi hf) (by simpa using hr) hy hS h
theorem anyTill_one {i : Nat} {o : Oper} {n : Nat} {l : Array Bool} {a : Act} {w : World} (hr : Region.ready md ops l = [i]) (ho : ops[i]? = some o) (hg : Region.wanted o (yielded ops a.tmps) = true)
    (h : ∀ K : Act → World → Prop, (∀ a' w', (i ≠ L → S w') → anyTill P md ops Q S L n (l.setIfInBounds i true) a' w' → K a' w') → o.wp P a w K Q) : anyTill P md ops Q S L (n + 1) l a w := by
  refine ⟨fun e => absurd (hr.symm.trans e) (by simp), fun j hj => ?_⟩
  rw [hr] at hj
  obtain rfl : j = i := by simpa using hj
  unfold wpOp
  simp only [ho, hg, if_true]
  exact .inl (h _ fun a' w' h1 h2 => ⟨h1, h2⟩)
theorem anyTill_done {n : Nat} {l : Array Bool} {a : Act} {w : World} (hr : Region.ready md ops l = []) (h : Q .normal a w) : anyTill P md ops Q S L n l a w := by
  cases n with
  | zero => exact ⟨hr, h⟩
  | succ n => exact ⟨fun _ => h, fun i hi => absurd hi (by rw [hr]; simp)⟩
end
section
variable {P : Program} {ops : Array Oper} {Q : Exit → Act → World → Prop} {md : Region.Mode} {n l : Nat}
end
noncomputable def grR (P : Nat → Nat → Prop) (u : Nat) : Nat → List Int
  | 0 => []
  | k + 1 => grR P u k ++ (if tb (P u k) = true then [(k : Int)] else [])
noncomputable def grC (P : Nat → Nat → Prop) (n : Nat) : Nat → List Int
  | 0 => []
  | k + 1 => grC P n k ++ grR P k n
noncomputable def grS (P : Nat → Nat → Prop) (n : Nat) : Nat → List Int
  | 0 => [0]
  | k + 1 => grS P n k ++ [((grC P n (k + 1)).length : Int)]
theorem grR_len (P : Nat → Nat → Prop) (u : Nat) : ∀ k, (grR P u k).length ≤ k
  | 0 => Nat.le_refl _
  | k + 1 => by
    have := grR_len P u k
    simp only [grR, List.length_append]
    split <;> simp <;> omega
theorem grC_len (P : Nat → Nat → Prop) (n : Nat) : ∀ k, (grC P n k).length ≤ k * n
  | 0 => Nat.zero_le _
  | k + 1 => by
    have h1 := grC_len P n k
    have h2 := grR_len P k n
    simp only [grC, List.length_append]
    rw [Nat.add_mul, Nat.one_mul]
    omega
theorem grS_len (P : Nat → Nat → Prop) (n : Nat) : ∀ k, (grS P n k).length = k + 1
  | 0 => rfl
  | k + 1 => by simp only [grS, List.length_append, List.length_singleton]; rw [grS_len P n k]
structure PbI (w1 W : World) (B X : Nat) (n : Int) (vS vC : Value) (S C : List Int) : Prop where
  box : W.heap[X]? = some (.cells #[.int .i64 n, .int .i64 n, vS, vC] 25 (0, 0))
  ownS : W.ownsRow B 3 1 vS S.length (valsI S)
  ownC : W.ownsRow B 3 1 vC C.length (valsI C)
  apart : ∀ g, vS.ownBlock = some g → vC.ownBlock ≠ some g
  bel : Below B w1 W
  le : B ≤ W.heap.size
  lx : B ≤ X
theorem own_neB {w : World} {B : Nat} {e : TypeId} {v : Value} {n : Nat} {xs : List Value} (h : w.ownsRow B e 1 v n xs) {k : Nat} {cs : Array Value} {e2 : TypeId} (hk : w.heap[k]? = some (.cells cs e2 (0, 0))) (hne : e ≠ e2) : v.ownBlock ≠ some k := by
  intro he
  rcases h.2 with ⟨h1, _⟩ | ⟨g, cap, cur, h1, h2, h3, _⟩
  · rw [h1] at he; simp [Value.ownBlock] at he
  · rw [h1] at he
    have : g = k := by simpa [Value.ownBlock] using he
    subst this
    rw [h3] at hk
    cases hk
    exact hne rfl
theorem PbI.below {w1 W Wn : World} {B X : Nat} {n : Int} {vS vC : Value} {S C : List Int} (h : PbI w1 W B X n vS vC S C) (k : Below W.heap.size W Wn) : PbI w1 Wn B X n vS vC S C :=
  ⟨(k.block _ (Array.getElem?_eq_some_iff.1 h.box).1).trans h.box, ownsRow_chg (S := fun _ => False) h.ownS (.of_below k) (fun _ _ => id), ownsRow_chg (S := fun _ => False) h.ownC (.of_below k) (fun _ _ => id), h.apart, h.bel.trans (k.mono h.le), Nat.le_trans h.le k.size, h.lx⟩
theorem PbI.appC {w1 W W3 : World} {B X : Nat} {n : Int} {vS vC : Value} {S C : List Int} {x : Int} {g cap : Nat} (h : PbI w1 W B X n vS vC S C) (hown : W3.ownsRow B 3 1 (.slice (some ⟨g, 0, none⟩) (C.length + 1) cap) (C.length + 1) (valsI C ++ [.int .i64 x])) (hg : W.grownBy W3 vC.ownBlock) (hat : vC.ownBlock = some g ∨ g = W.heap.size) :
    PbI w1 (W3.setCell ⟨X, 3, none⟩ (.slice (some ⟨g, 0, none⟩) (C.length + 1) cap)) B X n vS (.slice (some ⟨g, 0, none⟩) (C.length + 1) cap) S (C ++ [x]) := by
  have hX := (Array.getElem?_eq_some_iff.1 h.box).1
  have nC := own_neB h.ownC h.box (by decide)
  have nS := own_neB h.ownS h.box (by decide)
  have hb3 : W3.heap[X]? = some (.cells #[.int .i64 n, .int .i64 n, vS, vC] 25 (0, 0)) := (hg.block X hX (fun e => nC e.symm)).trans h.box
  have hB : Below B W W3 := (Below.refl B W).grown hg h.le (fun j hj => (own_ge h.ownC j hj).1)
  have hc : Chg (fun j => j = X) W3 (W3.setCell ⟨X, 3, none⟩ (.slice (some ⟨g, 0, none⟩) (C.length + 1) cap)) := Chg.of_set _ _ _ _ rfl
  have hgX : g ≠ X := by
    intro e
    rcases hown.2 with ⟨h1, _⟩ | ⟨g', cap', cur, h1, h2, h3, _⟩
    · cases h1
    · cases h1
      rw [e, hb3] at h3
      cases h3
  refine ⟨by simp [World.setCell, Array.getElem?_modify, hb3], ownsRow_chg (h.ownS.kept hg ?_) hc (fun j hj e => nS (by rw [← e]; exact hj)), ownsRow_chg (by simpa [valsI] using hown) hc (fun j hj e => ?_), fun j hj hu => ?_, h.bel.trans (hB.trans (hc.below (Nat.le_trans h.le hB.size) (fun j hj e => by have := h.lx; omega))), Nat.le_trans h.le (Nat.le_trans hB.size hc.size), h.lx⟩
  · cases hv : vS.ownBlock with
    | none => exact .inl rfl
    | some j => right; intro e; exact h.apart j hv e.symm
  · have : g = j := by simpa [Value.ownBlock] using hj
    exact hgX (this.trans e)
  · have hu' : g = j := by simpa [Value.ownBlock] using hu
    subst hu'
    rcases hat with e | e
    · exact h.apart _ hj e
    · have := (own_ge h.ownS _ hj).2; omega
theorem PbI.appS {w1 W W3 : World} {B X : Nat} {n : Int} {vS vC : Value} {S C : List Int} {x : Int} {g cap : Nat} (h : PbI w1 W B X n vS vC S C) (hown : W3.ownsRow B 3 1 (.slice (some ⟨g, 0, none⟩) (S.length + 1) cap) (S.length + 1) (valsI S ++ [.int .i64 x])) (hg : W.grownBy W3 vS.ownBlock) (hat : vS.ownBlock = some g ∨ g = W.heap.size) :
    PbI w1 (W3.setCell ⟨X, 2, none⟩ (.slice (some ⟨g, 0, none⟩) (S.length + 1) cap)) B X n (.slice (some ⟨g, 0, none⟩) (S.length + 1) cap) vC (S ++ [x]) C := by
  have hX := (Array.getElem?_eq_some_iff.1 h.box).1
  have nC := own_neB h.ownC h.box (by decide)
  have nS := own_neB h.ownS h.box (by decide)
  have hb3 : W3.heap[X]? = some (.cells #[.int .i64 n, .int .i64 n, vS, vC] 25 (0, 0)) := (hg.block X hX (fun e => nS e.symm)).trans h.box
  have hB : Below B W W3 := (Below.refl B W).grown hg h.le (fun j hj => (own_ge h.ownS j hj).1)
  have hc : Chg (fun j => j = X) W3 (W3.setCell ⟨X, 2, none⟩ (.slice (some ⟨g, 0, none⟩) (S.length + 1) cap)) := Chg.of_set _ _ _ _ rfl
  have hgX : g ≠ X := by
    intro e
    rcases hown.2 with ⟨h1, _⟩ | ⟨g', cap', cur, h1, h2, h3, _⟩
    · cases h1
    · cases h1
      rw [e, hb3] at h3
      cases h3
  refine ⟨by simp [World.setCell, Array.getElem?_modify, hb3], ownsRow_chg (by simpa [valsI] using hown) hc (fun j hj e => ?_), ownsRow_chg (h.ownC.kept hg ?_) hc (fun j hj e => nC (by rw [← e]; exact hj)), fun j hj hu => ?_, h.bel.trans (hB.trans (hc.below (Nat.le_trans h.le hB.size) (fun j hj e => by have := h.lx; omega))), Nat.le_trans h.le (Nat.le_trans hB.size hc.size), h.lx⟩
  · have : g = j := by simpa [Value.ownBlock] using hj
    exact hgX (this.trans e)
  · cases hv : vC.ownBlock with
    | none => exact .inl rfl
    | some j => right; intro e; exact h.apart j e.symm hv
  · have hj' : g = j := by simpa [Value.ownBlock] using hj
    subst hj'
    rcases hat with e | e
    · exact h.apart _ e hu
    · have := (own_ge h.ownC _ hu).2; omega
def grV (n : Nat) (b m : Nat) : Value := .agg #[.int .i64 (n : Int), .slice (some ⟨b, 0, none⟩) m m]
def GpP (w w' : World) (e : Ending) (n : Nat) (S C : List Int) : Prop := ∃ a1 c1 a2 c2, e = .returned (.agg #[.int .i64 (n : Int), .int .i64 (n : Int), .slice a1 S.length c1, .slice a2 C.length c2]) ∧ SlI w' a1 S.length c1 S ∧ SlI w' a2 C.length c2 C ∧ Below w.heap.size w w' ∧ (∀ z, a1 = some z → w.heap.size ≤ z.block) ∧ (∀ z, a2 = some z → w.heap.size ≤ z.block)
end Go.Proofs.YtgjokididdffhaaGreat
