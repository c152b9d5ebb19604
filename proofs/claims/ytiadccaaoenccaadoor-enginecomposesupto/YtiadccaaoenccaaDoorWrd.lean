/- Pr7 -/
import Derived.Test.YtiadccaaoenccaaDoorPr5
import Derived.Test.YtiadccaaoenccaaDoorDv7
import Derived.Test.YtiadccaaoenccaaDoorShl
import Derived.Test.YtiadccaaoenccaaDoorBits
import Derived.Deep.LoopGhost
import Derived.Test.YtiadccaaoenccaaDoorWr1
import Derived.Test.YtiadccaaoenccaaDoorBy7
import Derived.Test.YtiadccaaoenccaaDoorWi4
import Derived.ProofKit
import Derived.OpenShut
import Derived.ShutString
import Derived.ChangeOld
import Derived.SizedLaws
namespace Go.Proofs.YtiadccaaoenccaaDoor
open Go.RowKit Go.Deep
set_option linter.unusedVariables false
structure Pows (w : World) (T pb po K wt : Nat) : Prop where
  ne : pb ≠ T
  at' : ∀ i, i < K → ∃ a m, w.cell? ⟨pb, po + i, none⟩ = some (.slice a m m) ∧ Sl w a m m (limbs (wt ^ 2 ^ i)) ∧ m ≤ 2048 ∧ ∀ x, a = some x → x.block ≠ T

theorem Pows.upd {w w' : World} {T pb po K wt lo up : Nat} (h : Pows w T pb po K wt) (u : Upd T lo up w w') : Pows w' T pb po K wt := by
  refine ⟨h.ne, fun i hi => ?_⟩
  obtain ⟨a, m, h1, h2, h3, h4⟩ := h.at' i hi
  refine ⟨a, m, ?_, h2.chg u.chg (fun x hx _ => h4 x hx), h3, h4⟩
  have hb := World.block_lt_of_cell? _ _ h1
  have : w'.cell? ⟨pb, po + i, none⟩ = w.cell? ⟨pb, po + i, none⟩ := by unfold World.cell?; simp only; rw [u.block pb hb h.ne]
  rw [this]; exact h1
theorem Pows.bel {w w' : World} {T pb po K wt : Nat} (h : Pows w T pb po K wt) (k : Below w.heap.size w w') : Pows w' T pb po K wt := by
  refine ⟨h.ne, fun i hi => ?_⟩
  obtain ⟨a, m, h1, h2, h3, h4⟩ := h.at' i hi
  refine ⟨a, m, ?_, h2.below k, h3, h4⟩
  have hb := World.block_lt_of_cell? _ _ h1
  have : w'.cell? ⟨pb, po + i, none⟩ = w.cell? ⟨pb, po + i, none⟩ := by unfold World.cell?; simp only; rw [k.block pb hb]
  rw [this]; exact h1

theorem FnB.left {w : World} {T o L h : Nat} {f : Nat → Nat} (g : FnB w T o L f) (hh : h ≤ L) : FnB w T o h f := fun i hi => g i (by omega)
theorem FnB.right {w : World} {T o L h : Nat} {f : Nat → Nat} (g : FnB w T o L f) (hh : h ≤ L) : FnB w T (o + h) (L - h) (fun i => f (h + i)) := fun i hi => by
  have := g (h + i) (by omega)
  rwa [← Nat.add_assoc] at this

open Go.RowKit Go.Deep
set_option linter.unusedVariables false
def pwV (e : Option Addr × Nat) : Value := .slice e.1 e.2 e.2

structure PwAt (wr : World) (B : Nat) (pv : Value) (e : Option Addr × Nat) (P : Nat) : Prop where
  sl : Sl wr e.1 e.2 e.2 (limbs P)
  le : e.2 ≤ 2048
  new : ∀ x, e.1 = some x → B + 2 ≤ x.block
  ne : ∀ x, e.1 = some x → pv.ownBlock ≠ some x.block

structure NwA (wr w : World) (b cnt wt N k : Nat) (pv : Value) (es : List (Option Addr × Nat)) : Prop where
  st : St4 wr (w.heap.size + 1) b cnt wt pv
  fz : wr.frozen? ⟨w.heap.size + 1, 3, none⟩ = false
  rs : ∀ i, i < 4 → (∃ v, wr.cell? ⟨w.heap.size, i, none⟩ = some v) ∧ wr.frozen? ⟨w.heap.size, i, none⟩ = false
  own : wr.ownsRow (w.heap.size + 2) 49 1 pv k (es.map pwV)
  each : ∀ i, i < k → ∃ e, es[i]? = some e ∧ PwAt wr w.heap.size pv e (wt ^ 2 ^ i)
  le : ∀ i, i < k → wt ^ 2 ^ i ≤ N
  bel : Below w.heap.size w wr

theorem Chg.frozen {S : Nat → Prop} {w w' : World} (h : Chg S w w') {b i : Nat} (hs : ¬ S b) (hb : b < w.heap.size) : w'.frozen? ⟨b, i, none⟩ = w.frozen? ⟨b, i, none⟩ := by
  unfold World.frozen?; simp only; rw [h.block b hb hs]
theorem limbs_ne0 {v : Nat} (h : 0 < v) : limbs v ≠ [] := by
  intro e
  have := (limbs_rep v).val
  rw [e] at this
  simp [val] at this
  omega

theorem NwA.keep {wr w' w : World} {b cnt wt N k : Nat} {pv : Value} {es : List (Option Addr × Nat)} (h : NwA wr w b cnt wt N k pv es) (hb : Below wr.heap.size wr w') : NwA w' w b cnt wt N k pv es := by
  have hS : w.heap.size + 1 < wr.heap.size := h.st.lt
  have c : Chg (fun _ => False) wr w' := Chg.of_below hb
  refine ⟨h.st.keep (fun i => ?_), ?_, fun i hi => ?_, ownsRow_below h.own hb, fun i hi => ?_, h.le, h.bel.trans (hb.mono h.bel.size)⟩
  · unfold World.cell?; simp only; rw [hb.block _ hS]
  · rw [c.frozen (fun h => h) hS]; exact h.fz
  · obtain ⟨⟨v, hv⟩, hf⟩ := h.rs i hi
    exact ⟨⟨v, c.cell (fun h => h) hv⟩, by rw [c.frozen (fun h => h) (by omega)]; exact hf⟩
  · obtain ⟨e, he, p⟩ := h.each i hi
    exact ⟨e, he, p.sl.below hb, p.le, p.new, p.ne⟩

theorem NwA.push {wr w1 w : World} {b cnt wt N k g cap : Nat} {pv : Value} {es : List (Option Addr × Nat)} {ap : Option Addr} {mp : Nat} {o : Obj} (h : NwA wr w b cnt wt N k pv es) (hp : PwAt wr w.heap.size pv (ap, mp) (wt ^ 2 ^ k)) (hw : 0 < wt) (hN : wt ^ 2 ^ k ≤ N)
    (hown : w1.ownsRow (w.heap.size + 2) 49 1 (.slice (some ⟨g, 0, none⟩) (k + 1) cap) (k + 1) (es.map pwV ++ [.slice ap mp mp])) (hg : (wr.alloc o).grownBy w1 pv.ownBlock) (hat : pv.ownBlock = some g ∨ g = wr.heap.size + 1) :
    NwA (w1.setCell ⟨w.heap.size + 1, 3, none⟩ (.slice (some ⟨g, 0, none⟩) (k + 1) cap)) w b cnt wt N (k + 1) (.slice (some ⟨g, 0, none⟩) (k + 1) cap) (es ++ [(ap, mp)]) ∧
      PwAt (w1.setCell ⟨w.heap.size + 1, 3, none⟩ (.slice (some ⟨g, 0, none⟩) (k + 1) cap)) w.heap.size (.slice (some ⟨g, 0, none⟩) (k + 1) cap) (ap, mp) (wt ^ 2 ^ k) ∧
      w1.cell? ⟨w.heap.size + 1, 3, none⟩ = some pv ∧ w1.frozen? ⟨w.heap.size + 1, 3, none⟩ = false := by
  have hS : w.heap.size + 1 < wr.heap.size := h.st.lt
  have hlk : es.length = k := by have := h.own.1; simpa using this
  have hoB : ∀ j, pv.ownBlock = some j → w.heap.size + 2 ≤ j ∧ j < wr.heap.size := own_ge h.own
  have hgB : w.heap.size + 2 ≤ g := by
    rcases hat with e | e
    · exact (hoB g e).1
    · omega
  have c1 : Chg (fun j => pv.ownBlock = some j) wr w1 := (Chg.of_alloc wr o).trans (Chg.of_grown hg (fun j hj => hj))
  have c2 : Chg (fun j => pv.ownBlock = some j ∨ j = w.heap.size + 1) wr (w1.setCell ⟨w.heap.size + 1, 3, none⟩ (.slice (some ⟨g, 0, none⟩) (k + 1) cap)) :=
    (c1.mono (fun j _ hj => Or.inl hj)).trans (Chg.of_set _ _ _ _ (.inr rfl))
  have nS : ¬ pv.ownBlock = some (w.heap.size + 1) := fun e => by have := (hoB _ e).1; omega
  have nR : ¬ (pv.ownBlock = some w.heap.size ∨ w.heap.size = w.heap.size + 1) := by
    rintro (e | e)
    · have := (hoB _ e).1; omega
    · omega
  have moved : ∀ {e : Option Addr × Nat} {P : Nat}, 0 < P → PwAt wr w.heap.size pv e P → PwAt (w1.setCell ⟨w.heap.size + 1, 3, none⟩ (.slice (some ⟨g, 0, none⟩) (k + 1) cap)) w.heap.size (.slice (some ⟨g, 0, none⟩) (k + 1) cap) e P := by
    intro e P hP p
    refine ⟨p.sl.chg c2 (fun x hx _ => ?_), p.le, p.new, fun x hx => ?_⟩
    · rintro (e1 | e1)
      · exact p.ne x hx e1
      · have := p.new x hx; omega
    · intro e1
      simp only [Value.ownBlock, Option.some.injEq] at e1
      have hlt := p.sl.block_lt (limbs_ne0 hP) x hx
      rcases hat with e2 | e2
      · exact p.ne x hx (by rw [e2, e1])
      · omega
  have hPk : ∀ i, 0 < wt ^ 2 ^ i := fun i => Nat.pow_pos hw
  refine ⟨⟨?_, ?_, ?_, ?_, ?_, ?_, ?_⟩, moved (hPk k) hp, c1.cell nS h.st.c3, by rw [c1.frozen nS hS]; exact h.fz⟩
  · refine ⟨?_, ?_, ?_, ?_⟩
    · rw [World.cell?_setCell_other _ _ _ _ (by simp)]; exact c1.cell nS h.st.c0
    · rw [World.cell?_setCell_other _ _ _ _ (by simp)]; exact c1.cell nS h.st.c1
    · rw [World.cell?_setCell_other _ _ _ _ (by simp)]; exact c1.cell nS h.st.c2
    · rw [World.cell?_setCell_same _ _ _ (c1.cell nS h.st.c3)]
  · rw [World.frozen?_setCell, c1.frozen nS hS]; exact h.fz
  · intro i hi
    obtain ⟨⟨v, hv⟩, hf⟩ := h.rs i hi
    exact ⟨⟨v, c2.cell nR hv⟩, by rw [c2.frozen nR (by omega)]; exact hf⟩
  · rw [List.map_append]
    exact ownsRow_setCell_other hown (by simp [Value.ownBlock]; omega) _
  · intro i hi
    by_cases hik : i < k
    · obtain ⟨e, he, p⟩ := h.each i hik
      exact ⟨e, by rw [List.getElem?_append_left (by omega)]; exact he, moved (hPk i) p⟩
    · obtain rfl : i = k := by omega
      exact ⟨(ap, mp), by rw [List.getElem?_append_right (by omega), hlk]; simp, moved (hPk i) hp⟩
  · intro i hi
    by_cases hik : i < k
    · exact h.le i hik
    · obtain rfl : i = k := by omega
      exact hN
  · exact h.bel.trans (c2.below h.bel.size (fun j hj => by
      rintro (e | e)
      · have := (hoB _ e).1; omega
      · omega))

structure NwPost (w w' : World) (b N cnt wt K : Nat) (pv : Value) : Prop where
  ch : Chunk b cnt
  wte : b ^ cnt = wt
  lt : N < wt ^ 2 ^ K
  le : ∀ i, i < K → wt ^ 2 ^ i ≤ N
  pvs : ∃ pb a0 cp, pv = .slice a0 K cp ∧ (K = 0 ∨ pv = .slice (some ⟨pb, 0, none⟩) K cp) ∧ pb < w'.heap.size ∧ ∀ i, i < K → ∃ a m, w'.cell? ⟨pb, 0 + i, none⟩ = some (.slice a m m) ∧ Sl w' a m m (limbs (wt ^ 2 ^ i)) ∧ m ≤ 2048 ∧ ∀ x, a = some x → x.block < w'.heap.size
  bel : Below w.heap.size w w'

theorem NwA.done {wr w : World} {b cnt wt N k : Nat} {pv : Value} {es : List (Option Addr × Nat)} (h : NwA wr w b cnt wt N k pv es) (ch : Chunk b cnt) (hwt : b ^ cnt = wt) (hb : 0 < b) (hN : N < wt ^ 2 ^ k) (W : World) (c : Chg (fun j => j = w.heap.size) wr W) : NwPost w W b N cnt wt k pv := by
  have hS : w.heap.size + 1 < wr.heap.size := h.st.lt
  have hw : 0 < wt := by rw [← hwt]; exact Nat.pow_pos hb
  refine ⟨ch, hwt, hN, h.le, ?_, h.bel.trans (c.below h.bel.size (fun j hj => by omega))⟩
  rcases h.own.2 with ⟨e, h0⟩ | ⟨g, cap, cur, e, hg, hheap, h6, h7, h8, h9⟩
  · refine ⟨0, none, 0, by rw [e, h0], .inl h0, by have := c.size; omega, fun i hi => by omega⟩
  · have hgl : g < wr.heap.size := (own_ge h.own g (by rw [e]; rfl)).2
    refine ⟨g, some ⟨g, 0, none⟩, cap, e, .inr e, Nat.lt_of_lt_of_le hgl c.size, fun i hi => ?_⟩
    obtain ⟨x, hx, p⟩ := h.each i hi
    refine ⟨x.1, x.2, ?_, p.sl.chg c (fun y hy _ => by have := p.new y hy; omega), p.le, fun y hy => Nat.lt_of_lt_of_le (p.sl.block_lt (limbs_ne0 (Nat.pow_pos hw)) y hy) c.size⟩
    have ho := h.own
    rw [e] at ho
    have hc := ho.cellAt i (by omega)
    rw [List.getElem?_map, hx] at hc
    rw [Nat.zero_add]
    exact c.cell (by omega) hc
end Go.Proofs.YtiadccaaoenccaaDoor

namespace Go.Proofs.YtiadccaaoenccaaDoor
open Go.RowKit Go.Deep
set_option linter.unusedVariables false

end Go.Proofs.YtiadccaaoenccaaDoor

namespace Go.Proofs.YtiadccaaoenccaaDoor
open Go.RowKit Go.Deep
set_option linter.unusedVariables false

end Go.Proofs.YtiadccaaoenccaaDoor
namespace Go.Proofs.YtiadccaaoenccaaDoor
open Go.ChangeShapes Go.WideShapes Go.ChangeAt Go.RowKit Go.Deep
set_option linter.unusedVariables false
structure Fct where
  p : World → Prop
  st : ∀ {w w' : World}, Below w.heap.size w w' → p w → p w'
structure Fcts (w0 w : World) (L : List Fct) : Prop where
  bel : Below w0.heap.size w0 w
  all : ∀ f ∈ L, f.p w
theorem Fcts.step {w0 w w' : World} {L : List Fct} (h : Fcts w0 w L) (k : Below w.heap.size w w') : Fcts w0 w' L :=
  ⟨h.bel.trans (k.mono h.bel.size), fun f hf => f.st k (h.all f hf)⟩
theorem Fcts.add {w0 w : World} {L : List Fct} (h : Fcts w0 w L) (f : Fct) (hf : f.p w) : Fcts w0 w (f :: L) :=
  ⟨h.bel, fun g hg => by rcases List.mem_cons.1 hg with rfl | hg; exact hf; exact h.all g hg⟩
structure Nm (w : World) (a : Option Addr) (n c : Nat) (x : List Nat) (b : Option Addr) (m d : Nat) (y : List Nat) : Prop where
  num : Sl w a n c x
  den : Sl w b m d y
structure Tri (w : World) (R : Nat) (v0 v1 v2 : Value) : Prop where
  c0 : w.cell? ⟨R, 0, none⟩ = some v0
  c1 : w.cell? ⟨R, 1, none⟩ = some v1
  c2 : w.cell? ⟨R, 2, none⟩ = some v2
  f0 : w.frozen? ⟨R, 0, none⟩ = false
  f1 : w.frozen? ⟨R, 1, none⟩ = false
  f2 : w.frozen? ⟨R, 2, none⟩ = false
  lt : R < w.heap.size
theorem Tri.keep {w w' : World} {R : Nat} {v0 v1 v2 : Value} (h : Tri w R v0 v1 v2) (k : Below w.heap.size w w') : Tri w' R v0 v1 v2 := by
  have hc : ∀ i, w'.cell? ⟨R, i, none⟩ = w.cell? ⟨R, i, none⟩ := fun i => by unfold World.cell?; simp only; rw [k.block _ h.lt]
  have hf : ∀ i, w'.frozen? ⟨R, i, none⟩ = w.frozen? ⟨R, i, none⟩ := fun i => by unfold World.frozen?; simp only; rw [k.block _ h.lt]
  exact ⟨(hc 0).trans h.c0, (hc 1).trans h.c1, (hc 2).trans h.c2, (hf 0).trans h.f0, (hf 1).trans h.f1, (hf 2).trans h.f2, Nat.lt_of_lt_of_le h.lt k.size⟩
theorem Tri.made (w : World) (v0 v1 v2 : Value) (e : TypeId) : Tri (w.alloc (.cells #[v0, v1, v2] e)) w.heap.size v0 v1 v2 := by
  refine ⟨?_, ?_, ?_, ?_, ?_, ?_, ?_⟩ <;> simp
def fN (a : Option Addr) (n c : Nat) (x : List Nat) (b : Option Addr) (m d : Nat) (y : List Nat) : Fct := ⟨fun w => Nm w a n c x b m d y, fun k h => ⟨h.num.below k, h.den.below k⟩⟩
def fR (R : Nat) (v0 v1 v2 : Value) : Fct := ⟨fun w => Tri w R v0 v1 v2, fun k h => h.keep k⟩
theorem Fcts.n {w0 w : World} {L : List Fct} (h : Fcts w0 w L) (a : Option Addr) (n c : Nat) (x : List Nat) (b : Option Addr) (m d : Nat) (y : List Nat) (hm : fN a n c x b m d y ∈ L) : Nm w a n c x b m d y := h.all _ hm
theorem Fcts.r {w0 w : World} {L : List Fct} (h : Fcts w0 w L) (R : Nat) (v0 v1 v2 : Value) (hm : fR R v0 v1 v2 ∈ L) : Tri w R v0 v1 v2 := h.all _ hm
theorem law_own : ownKnob Tryd.prog.godebug = none := by kernel_rfl
theorem law_laid : laidOutB Tryd.prog = true := by kernel_rfl
theorem law_bytesL : Tryd.prog.bytesOf 74 = 4 := by kernel_rfl
theorem law_cellsL : Tryd.prog.cellsOf 74 = 1 := by kernel_rfl
theorem law_cellsB : Tryd.prog.cellsOf 4 = 1 := by kernel_rfl
theorem law_cellsN : Tryd.prog.cellsOf 50 = 1 := by kernel_rfl
theorem law_cellsR : Tryd.prog.cellsOf 52 = 3 := by kernel_rfl
end Go.Proofs.YtiadccaaoenccaaDoor
namespace Go.Proofs.YtiadccaaoenccaaDoor
open Go.RowKit Go.Deep
set_option linter.unusedVariables false
structure Nq where
  g : Bool
  a : Option Addr
  n : Nat
  c : Nat
  x : List Nat
  b : Option Addr
  m : Nat
  d : Nat
  y : List Nat
structure SlQ (w : World) (a : Option Addr) (n c : Nat) (ps : List Nq) : Prop where
  len : ps.length = n
  le : n ≤ c
  cells : ps = [] ∨ ∃ b off, a = some ⟨b, off, none⟩ ∧ ∀ i p, ps[i]? = some p → w.cell? ⟨b, off + i * 3, none⟩ = some (.bool p.g) ∧ w.cell? ⟨b, off + i * 3 + 1, none⟩ = some (.slice p.a p.n p.c) ∧ w.cell? ⟨b, off + i * 3 + 2, none⟩ = some (.slice p.b p.m p.d)
  each : ∀ p ∈ ps, (Sl w p.a p.n p.c p.x ∧ Sl w p.b p.m p.d p.y) ∧ Ok p.x ∧ Ok p.y
theorem SlQ.below {w w' : World} {a : Option Addr} {n c : Nat} {ps : List Nq} (h : SlQ w a n c ps) (k : Below w.heap.size w w') : SlQ w' a n c ps := by
  refine ⟨h.len, h.le, ?_, fun p hp => ⟨⟨(h.each p hp).1.1.below k, (h.each p hp).1.2.below k⟩, (h.each p hp).2⟩⟩
  rcases h.cells with e | ⟨b, off, e, hc⟩
  · exact .inl e
  · refine .inr ⟨b, off, e, fun i p hp => ?_⟩
    obtain ⟨h1, h2, h3⟩ := hc i p hp
    exact ⟨(k.cell (World.block_lt_of_cell? _ _ h1)).trans h1, (k.cell (World.block_lt_of_cell? _ _ h2)).trans h2, (k.cell (World.block_lt_of_cell? _ _ h3)).trans h3⟩
theorem SlQ.at' {w : World} {a : Option Addr} {n c : Nat} {ps : List Nq} (h : SlQ w a n c ps) {i : Nat} (hi : i < n) :
    ∃ b off p, a = some ⟨b, off, none⟩ ∧ ps[i]? = some p ∧ (w.cell? ⟨b, off + i * 3, none⟩ = some (.bool p.g) ∧ w.cell? ⟨b, off + i * 3 + 1, none⟩ = some (.slice p.a p.n p.c) ∧ w.cell? ⟨b, off + i * 3 + 2, none⟩ = some (.slice p.b p.m p.d)) ∧ (Sl w p.a p.n p.c p.x ∧ Sl w p.b p.m p.d p.y) ∧ Ok p.x ∧ Ok p.y := by
  have hl := h.len
  have hi' : i < ps.length := by omega
  have hp : ps[i]? = some ps[i] := List.getElem?_eq_getElem hi'
  rcases h.cells with e | ⟨b, off, e, hc⟩
  · rw [e] at hl; simp at hl; omega
  · exact ⟨b, off, ps[i], e, hp, hc i _ hp, h.each _ (List.getElem_mem hi')⟩
theorem newR_of {w wk wf : World} {R : Nat} {aN aD : Option Addr} {mN cN mD cD : Nat} {xs ys : List Nat} (hR : w.heap.size ≤ R) (hRk : R < wk.heap.size) (bel : Below w.heap.size w wk) (sN : Sl wk aN mN cN xs) (nN : NewAt (R + 1) aN) (sD : Sl wk aD mD cD ys) (nD : NewAt (R + 1) aD) (c4 : Chg (fun j => j = R) wk wf) (g : Bool) :
    NewR w wf g xs ys (ratV g aN mN cN aD mD cD) :=
  ⟨aN, mN, cN, aD, mD, cD, rfl, sN.chg c4 (fun x hx _ h => by have := nN x hx; omega), sD.chg c4 (fun x hx _ h => by have := nD x hx; omega), fun x hx => by have := nN x hx; omega, fun x hx => by have := nD x hx; omega, bel.trans (c4.below bel.size (fun k hk => by omega))⟩
end Go.Proofs.YtiadccaaoenccaaDoor
