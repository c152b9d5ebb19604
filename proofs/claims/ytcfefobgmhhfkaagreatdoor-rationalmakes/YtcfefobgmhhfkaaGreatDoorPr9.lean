/-
  natural.newWriter: contract.
-/
import Derived.Test.YtcfefobgmhhfkaaGreatDoorPr7
import Derived.Test.YtcfefobgmhhfkaaGreatDoorFo4
import Derived.Test.YtcfefobgmhhfkaaGreatDoorGiv2
import Derived.Deep.LoopGhost
import Derived.Test.YtcfefobgmhhfkaaGreatDoorPa2
namespace Go.Proofs.YtcfefobgmhhfkaaGreatDoor
open Go.RowKit Go.Deep
set_option linter.unusedVariables false

/-- A power's slice. -/
def pwV (e : Option Addr × Nat) : Value := .slice e.1 e.2 e.2

/-- A power in its place. -/
structure PwAt (wr : World) (B : Nat) (pv : Value) (e : Option Addr × Nat) (P : Nat) : Prop where
  sl : Sl wr e.1 e.2 e.2 (limbs P)
  le : e.2 ≤ 2048
  new : ∀ x, e.1 = some x → B + 2 ≤ x.block
  ne : ∀ x, e.1 = some x → pv.ownBlock ≠ some x.block

structure NwA (wr w : World) (b cnt wt N k : Nat) (pv : Value) (es : List (Option Addr × Nat)) : Prop where
  st : St4 wr (w.heap.size + 1) b cnt wt pv
  fz : wr.frozen? ⟨w.heap.size + 1, 3, none⟩ = false
  rs : ∀ i, i < 4 → (∃ v, wr.cell? ⟨w.heap.size, i, none⟩ = some v) ∧ wr.frozen? ⟨w.heap.size, i, none⟩ = false
  own : wr.ownsRow (w.heap.size + 2) 22 1 pv k (es.map pwV)
  each : ∀ i, i < k → ∃ e, es[i]? = some e ∧ PwAt wr w.heap.size pv e (wt ^ 2 ^ i)
  le : ∀ i, i < k → wt ^ 2 ^ i ≤ N
  bel : Below w.heap.size w wr

theorem Chg.frozen {S : Nat → Prop} {w w' : World} (h : Chg S w w') {b i : Nat} (hs : ¬ S b) (hb : b < w.heap.size) : w'.frozen? ⟨b, i, none⟩ = w.frozen? ⟨b, i, none⟩ := by
  unfold World.frozen?; simp only; rw [h.block b hb hs]
theorem limbs_ne0 {v : Nat} (h : 0 < v) : limbs v ≠ [] := by
  intro e
  have := (limbs_rep v).val
  rw [e] at this
  simp [val] at this
  omega

theorem NwA.keep {wr w' w : World} {b cnt wt N k : Nat} {pv : Value} {es : List (Option Addr × Nat)} (h : NwA wr w b cnt wt N k pv es) (hb : Below wr.heap.size wr w') : NwA w' w b cnt wt N k pv es := by
  have hS : w.heap.size + 1 < wr.heap.size := h.st.lt
  have c : Chg (fun _ => False) wr w' := Chg.of_below hb
  refine ⟨h.st.keep (fun i => ?_), ?_, fun i hi => ?_, ownsRow_below h.own hb, fun i hi => ?_, h.le, h.bel.trans (hb.mono h.bel.size)⟩
  · unfold World.cell?; simp only; rw [hb.block _ hS]
  · rw [c.frozen (fun h => h) hS]; exact h.fz
  · obtain ⟨⟨v, hv⟩, hf⟩ := h.rs i hi
    exact ⟨⟨v, c.cell (fun h => h) hv⟩, by rw [c.frozen (fun h => h) (by omega)]; exact hf⟩
  · obtain ⟨e, he, p⟩ := h.each i hi
    exact ⟨e, he, p.sl.below hb, p.le, p.new, p.ne⟩

theorem NwA.push {wr w1 w : World} {b cnt wt N k g cap : Nat} {pv : Value} {es : List (Option Addr × Nat)} {ap : Option Addr} {mp : Nat} {o : Obj} (h : NwA wr w b cnt wt N k pv es) (hp : PwAt wr w.heap.size pv (ap, mp) (wt ^ 2 ^ k)) (hw : 0 < wt) (hN : wt ^ 2 ^ k ≤ N)
    (hown : w1.ownsRow (w.heap.size + 2) 22 1 (.slice (some ⟨g, 0, none⟩) (k + 1) cap) (k + 1) (es.map pwV ++ [.slice ap mp mp])) (hg : (wr.alloc o).grownBy w1 pv.ownBlock) (hat : pv.ownBlock = some g ∨ g = wr.heap.size + 1) :
    NwA (w1.setCell ⟨w.heap.size + 1, 3, none⟩ (.slice (some ⟨g, 0, none⟩) (k + 1) cap)) w b cnt wt N (k + 1) (.slice (some ⟨g, 0, none⟩) (k + 1) cap) (es ++ [(ap, mp)]) ∧
      PwAt (w1.setCell ⟨w.heap.size + 1, 3, none⟩ (.slice (some ⟨g, 0, none⟩) (k + 1) cap)) w.heap.size (.slice (some ⟨g, 0, none⟩) (k + 1) cap) (ap, mp) (wt ^ 2 ^ k) ∧
      w1.cell? ⟨w.heap.size + 1, 3, none⟩ = some pv ∧ w1.frozen? ⟨w.heap.size + 1, 3, none⟩ = false := by
  have hS : w.heap.size + 1 < wr.heap.size := h.st.lt
  have hlk : es.length = k := by have := h.own.1; simpa using this
  have hoB : ∀ j, pv.ownBlock = some j → w.heap.size + 2 ≤ j ∧ j < wr.heap.size := own_ge h.own
  have hgB : w.heap.size + 2 ≤ g := by
    rcases hat with e | e
    · exact (hoB g e).1
    · omega
  have c1 : Chg (fun j => pv.ownBlock = some j) wr w1 := (Chg.of_alloc wr o).trans (Chg.of_grown hg (fun j hj => hj))
  have c2 : Chg (fun j => pv.ownBlock = some j ∨ j = w.heap.size + 1) wr (w1.setCell ⟨w.heap.size + 1, 3, none⟩ (.slice (some ⟨g, 0, none⟩) (k + 1) cap)) :=
    (c1.mono (fun j _ hj => Or.inl hj)).trans (Chg.of_set _ _ _ _ (.inr rfl))
  have nS : ¬ pv.ownBlock = some (w.heap.size + 1) := fun e => by have := (hoB _ e).1; omega
  have nR : ¬ (pv.ownBlock = some w.heap.size ∨ w.heap.size = w.heap.size + 1) := by
    rintro (e | e)
    · have := (hoB _ e).1; omega
    · omega
  have moved : ∀ {e : Option Addr × Nat} {P : Nat}, 0 < P → PwAt wr w.heap.size pv e P → PwAt (w1.setCell ⟨w.heap.size + 1, 3, none⟩ (.slice (some ⟨g, 0, none⟩) (k + 1) cap)) w.heap.size (.slice (some ⟨g, 0, none⟩) (k + 1) cap) e P := by
    intro e P hP p
    refine ⟨p.sl.chg c2 (fun x hx _ => ?_), p.le, p.new, fun x hx => ?_⟩
    · rintro (e1 | e1)
      · exact p.ne x hx e1
      · have := p.new x hx; omega
    · intro e1
      simp only [Value.ownBlock, Option.some.injEq] at e1
      have hlt := p.sl.block_lt (limbs_ne0 hP) x hx
      rcases hat with e2 | e2
      · exact p.ne x hx (by rw [e2, e1])
      · omega
  have hPk : ∀ i, 0 < wt ^ 2 ^ i := fun i => Nat.pow_pos hw
  refine ⟨⟨?_, ?_, ?_, ?_, ?_, ?_, ?_⟩, moved (hPk k) hp, c1.cell nS h.st.c3, by rw [c1.frozen nS hS]; exact h.fz⟩
  · refine ⟨?_, ?_, ?_, ?_⟩
    · rw [World.cell?_setCell_other _ _ _ _ (by simp)]; exact c1.cell nS h.st.c0
    · rw [World.cell?_setCell_other _ _ _ _ (by simp)]; exact c1.cell nS h.st.c1
    · rw [World.cell?_setCell_other _ _ _ _ (by simp)]; exact c1.cell nS h.st.c2
    · rw [World.cell?_setCell_same _ _ _ (c1.cell nS h.st.c3)]
  · rw [World.frozen?_setCell, c1.frozen nS hS]; exact h.fz
  · intro i hi
    obtain ⟨⟨v, hv⟩, hf⟩ := h.rs i hi
    exact ⟨⟨v, c2.cell nR hv⟩, by rw [c2.frozen nR (by omega)]; exact hf⟩
  · rw [List.map_append]
    exact ownsRow_setCell_other hown (by simp [Value.ownBlock]; omega) _
  · intro i hi
    by_cases hik : i < k
    · obtain ⟨e, he, p⟩ := h.each i hik
      exact ⟨e, by rw [List.getElem?_append_left (by omega)]; exact he, moved (hPk i) p⟩
    · obtain rfl : i = k := by omega
      exact ⟨(ap, mp), by rw [List.getElem?_append_right (by omega), hlk]; simp, moved (hPk i) hp⟩
  · intro i hi
    by_cases hik : i < k
    · exact h.le i hik
    · obtain rfl : i = k := by omega
      exact hN
  · exact h.bel.trans (c2.below h.bel.size (fun j hj => by
      rintro (e | e)
      · have := (hoB _ e).1; omega
      · omega))

/-- What newWriter answers. -/
structure NwPost (w w' : World) (b N cnt wt K : Nat) (pv : Value) : Prop where
  ch : Chunk b cnt
  wte : b ^ cnt = wt
  lt : N < wt ^ 2 ^ K
  le : ∀ i, i < K → wt ^ 2 ^ i ≤ N
  pvs : ∃ pb a0 cp, pv = .slice a0 K cp ∧ (K = 0 ∨ pv = .slice (some ⟨pb, 0, none⟩) K cp) ∧ pb < w'.heap.size ∧ ∀ i, i < K → ∃ a m, w'.cell? ⟨pb, 0 + i, none⟩ = some (.slice a m m) ∧ Sl w' a m m (limbs (wt ^ 2 ^ i)) ∧ m ≤ 2048 ∧ ∀ x, a = some x → x.block < w'.heap.size
  bel : Below w.heap.size w w'

theorem NwA.done {wr w : World} {b cnt wt N k : Nat} {pv : Value} {es : List (Option Addr × Nat)} (h : NwA wr w b cnt wt N k pv es) (ch : Chunk b cnt) (hwt : b ^ cnt = wt) (hb : 0 < b) (hN : N < wt ^ 2 ^ k) (W : World) (c : Chg (fun j => j = w.heap.size) wr W) : NwPost w W b N cnt wt k pv := by
  have hS : w.heap.size + 1 < wr.heap.size := h.st.lt
  have hw : 0 < wt := by rw [← hwt]; exact Nat.pow_pos hb
  refine ⟨ch, hwt, hN, h.le, ?_, h.bel.trans (c.below h.bel.size (fun j hj => by omega))⟩
  rcases h.own.2 with ⟨e, h0⟩ | ⟨g, cap, cur, e, hg, hheap, h6, h7, h8, h9⟩
  · refine ⟨0, none, 0, by rw [e, h0], .inl h0, by have := c.size; omega, fun i hi => by omega⟩
  · have hgl : g < wr.heap.size := (own_ge h.own g (by rw [e]; rfl)).2
    refine ⟨g, some ⟨g, 0, none⟩, cap, e, .inr e, Nat.lt_of_lt_of_le hgl c.size, fun i hi => ?_⟩
    obtain ⟨x, hx, p⟩ := h.each i hi
    refine ⟨x.1, x.2, ?_, p.sl.chg c (fun y hy _ => by have := p.new y hy; omega), p.le, fun y hy => Nat.lt_of_lt_of_le (p.sl.block_lt (limbs_ne0 (Nat.pow_pos hw)) y hy) c.size⟩
    have ho := h.own
    rw [e] at ho
    have hc := ho.cellAt i (by omega)
    rw [List.getElem?_map, hx] at hc
    rw [Nat.zero_add]
    exact c.cell (by omega) hc

theorem pow_next {wt k : Nat} : wt ^ 2 ^ (k + 1) = wt ^ 2 ^ k * wt ^ 2 ^ k := by rw [Nat.pow_succ, Nat.mul_comm (2 ^ k) 2, Nat.two_mul, Nat.pow_add]

/-- Four cells, written. -/
theorem four_set (w1 : World) (R : Nat) (v0 v1 v2 v3 : Value) (h : ∀ i, i < 4 → ∃ v, w1.cell? ⟨R, i, none⟩ = some v) :
    ((((w1.setCell ⟨R, 0, none⟩ v0).setCell ⟨R, 1, none⟩ v1).setCell ⟨R, 2, none⟩ v2).setCell ⟨R, 3, none⟩ v3).cell? ⟨R, 0, none⟩ = some v0 ∧
    ((((w1.setCell ⟨R, 0, none⟩ v0).setCell ⟨R, 1, none⟩ v1).setCell ⟨R, 2, none⟩ v2).setCell ⟨R, 3, none⟩ v3).cell? ⟨R, 1, none⟩ = some v1 ∧
    ((((w1.setCell ⟨R, 0, none⟩ v0).setCell ⟨R, 1, none⟩ v1).setCell ⟨R, 2, none⟩ v2).setCell ⟨R, 3, none⟩ v3).cell? ⟨R, 2, none⟩ = some v2 ∧
    ((((w1.setCell ⟨R, 0, none⟩ v0).setCell ⟨R, 1, none⟩ v1).setCell ⟨R, 2, none⟩ v2).setCell ⟨R, 3, none⟩ v3).cell? ⟨R, 3, none⟩ = some v3 ∧
    Chg (fun j => j = R) w1 ((((w1.setCell ⟨R, 0, none⟩ v0).setCell ⟨R, 1, none⟩ v1).setCell ⟨R, 2, none⟩ v2).setCell ⟨R, 3, none⟩ v3) := by
  obtain ⟨x0, h0⟩ := h 0 (by decide)
  obtain ⟨x1, h1⟩ := h 1 (by decide)
  obtain ⟨x2, h2⟩ := h 2 (by decide)
  obtain ⟨x3, h3⟩ := h 3 (by decide)
  have s0 : (w1.setCell ⟨R, 0, none⟩ v0).cell? ⟨R, 0, none⟩ = some v0 := World.cell?_setCell_same _ _ _ h0
  have s1 : (w1.setCell ⟨R, 0, none⟩ v0).cell? ⟨R, 1, none⟩ = some x1 := by rw [World.cell?_setCell_other _ _ _ _ (by simp)]; exact h1
  have s2 : (w1.setCell ⟨R, 0, none⟩ v0).cell? ⟨R, 2, none⟩ = some x2 := by rw [World.cell?_setCell_other _ _ _ _ (by simp)]; exact h2
  have s3 : (w1.setCell ⟨R, 0, none⟩ v0).cell? ⟨R, 3, none⟩ = some x3 := by rw [World.cell?_setCell_other _ _ _ _ (by simp)]; exact h3
  have t0 : ((w1.setCell ⟨R, 0, none⟩ v0).setCell ⟨R, 1, none⟩ v1).cell? ⟨R, 0, none⟩ = some v0 := by rw [World.cell?_setCell_other _ _ _ _ (by simp)]; exact s0
  have t1 : ((w1.setCell ⟨R, 0, none⟩ v0).setCell ⟨R, 1, none⟩ v1).cell? ⟨R, 1, none⟩ = some v1 := World.cell?_setCell_same _ _ _ s1
  have t2 : ((w1.setCell ⟨R, 0, none⟩ v0).setCell ⟨R, 1, none⟩ v1).cell? ⟨R, 2, none⟩ = some x2 := by rw [World.cell?_setCell_other _ _ _ _ (by simp)]; exact s2
  have t3 : ((w1.setCell ⟨R, 0, none⟩ v0).setCell ⟨R, 1, none⟩ v1).cell? ⟨R, 3, none⟩ = some x3 := by rw [World.cell?_setCell_other _ _ _ _ (by simp)]; exact s3
  have u2 : (((w1.setCell ⟨R, 0, none⟩ v0).setCell ⟨R, 1, none⟩ v1).setCell ⟨R, 2, none⟩ v2).cell? ⟨R, 2, none⟩ = some v2 := World.cell?_setCell_same _ _ _ t2
  have u3 : (((w1.setCell ⟨R, 0, none⟩ v0).setCell ⟨R, 1, none⟩ v1).setCell ⟨R, 2, none⟩ v2).cell? ⟨R, 3, none⟩ = some x3 := by rw [World.cell?_setCell_other _ _ _ _ (by simp)]; exact t3
  refine ⟨?_, ?_, ?_, World.cell?_setCell_same _ _ _ u3, (((Chg.of_set (S := fun j => j = R) _ _ _ _ rfl).trans (Chg.of_set (S := fun j => j = R) _ _ _ _ rfl)).trans (Chg.of_set (S := fun j => j = R) _ _ _ _ rfl)).trans (Chg.of_set (S := fun j => j = R) _ _ _ _ rfl)⟩
  · rw [World.cell?_setCell_other _ _ _ _ (by simp), World.cell?_setCell_other _ _ _ _ (by simp)]; exact t0
  · rw [World.cell?_setCell_other _ _ _ _ (by simp), World.cell?_setCell_other _ _ _ _ (by simp)]; exact t1
  · rw [World.cell?_setCell_other _ _ _ _ (by simp)]; exact u2

theorem pow_small {wt N n k : Nat} (hw : 2 ≤ wt) (hN : N < 2 ^ (32 * n)) (h : ∀ i, i < k → wt ^ 2 ^ i ≤ N) : k ≤ 32 * n := by
  rcases Nat.eq_zero_or_pos k with e | e
  · omega
  · have h1 := h (k - 1) (by omega)
    have h2 : 2 ^ 2 ^ (k - 1) ≤ wt ^ 2 ^ (k - 1) := Nat.pow_le_pow_left hw _
    have h3 : 2 ^ 2 ^ (k - 1) < 2 ^ (32 * n) := by omega
    have h4 := (Nat.pow_lt_pow_iff_right (by decide : 1 < 2)).1 h3
    have h5 : k - 1 < 2 ^ (k - 1) := Nat.lt_two_pow_self
    omega

/-- The world ahead of the loop. -/
def nw0 (w : World) (b cnt wt : Nat) : World := ((w.alloc (.cells #[.int .i64 0, .int .i64 0, .int .u32 0, .slice none 0 0] 205)).alloc (.cells #[.int .i64 (b : Nat), .int .i64 (cnt : Nat), .int .u32 (wt : Nat), .slice none 0 0] 205)).alloc (.cells #[.int .u32 (wt : Nat)] 33)

theorem limbs_single {v : Nat} (h0 : 0 < v) (h : v < 4294967296) : limbs v = [v] :=
  ((limbs_rep v).unique ⟨Ok.cons h Ok.nil, .inr (by simp; omega), by simp [val]⟩)

theorem nw0_start (w : World) (b cnt wt N : Nat) (h0 : 0 < wt) (h : wt < 4294967296) : NwA (nw0 w b cnt wt) w b cnt wt N 0 (.slice none 0 0) [] ∧ Sl (nw0 w b cnt wt) (some ⟨w.heap.size + 1 + 1, 0, none⟩) 1 1 (limbs wt) := by
  unfold nw0
  obtain ⟨wA, hA⟩ : ∃ wA, w.alloc (.cells #[.int .i64 0, .int .i64 0, .int .u32 0, .slice none 0 0] 205) = wA := ⟨_, rfl⟩
  have zA : wA.heap.size = w.heap.size + 1 := by rw [← hA]; simp
  have bA : Below w.heap.size w wA := by rw [← hA]; exact (Below.refl _ _).alloc (Nat.le_refl _) _
  have cA : ∀ i, i < 4 → (∃ v, wA.cell? ⟨w.heap.size, i, none⟩ = some v) ∧ wA.frozen? ⟨w.heap.size, i, none⟩ = false := by
    intro i hi
    rw [← hA]
    match i, hi with
    | 0, _ => exact ⟨⟨.int .i64 0, by simp⟩, by simp⟩
    | 1, _ => exact ⟨⟨.int .i64 0, by simp⟩, by simp⟩
    | 2, _ => exact ⟨⟨.int .u32 0, by simp⟩, by simp⟩
    | 3, _ => exact ⟨⟨.slice none 0 0, by simp⟩, by simp⟩
  rw [hA]
  have sB := St4.made wA b cnt wt (.slice none 0 0) 205
  have fB : (wA.alloc (.cells #[.int .i64 (b : Nat), .int .i64 (cnt : Nat), .int .u32 (wt : Nat), .slice none 0 0] 205)).frozen? ⟨wA.heap.size, 3, none⟩ = false := by simp
  have bB : Below wA.heap.size wA _ := (Below.refl _ _).alloc (Nat.le_refl _) (.cells #[.int .i64 (b : Nat), .int .i64 (cnt : Nat), .int .u32 (wt : Nat), .slice none 0 0] 205)
  obtain ⟨wB, hB⟩ : ∃ wB, wA.alloc (.cells #[.int .i64 (b : Nat), .int .i64 (cnt : Nat), .int .u32 (wt : Nat), .slice none 0 0] 205) = wB := ⟨_, rfl⟩
  have zB : wB.heap.size = w.heap.size + 1 + 1 := by rw [← hB]; simp [zA]
  rw [hB] at sB fB bB ⊢
  have bC : Below wB.heap.size wB _ := (Below.refl _ _).alloc (Nat.le_refl _) (.cells #[.int .u32 (wt : Nat)] 33)
  have cC : (wB.alloc (.cells #[.int .u32 (wt : Nat)] 33)).cell? ⟨wB.heap.size, 0, none⟩ = some (.int .u32 (wt : Nat)) := by simp
  obtain ⟨wC, hC⟩ : ∃ wC, wB.alloc (.cells #[.int .u32 (wt : Nat)] 33) = wC := ⟨_, rfl⟩
  rw [hC] at bC cC ⊢
  have kB : Chg (fun _ => False) wA wB := Chg.of_below bB
  have kC : Chg (fun _ => False) wB wC := Chg.of_below bC
  rw [zA] at sB fB
  rw [zB] at cC
  have hB2 : w.heap.size + 1 < wB.heap.size := by omega
  refine ⟨⟨sB.keep (fun i => by unfold World.cell?; simp only; rw [bC.block _ hB2]), by rw [kC.frozen (fun h => h) hB2]; exact fB, ?_, World.ownsRow_nil _ _ _ _, fun i hi => by omega, fun i hi => by omega, ?_⟩, ?_⟩
  · intro i hi
    obtain ⟨⟨v, hv⟩, hf⟩ := cA i hi
    exact ⟨⟨v, kC.cell (fun h => h) (kB.cell (fun h => h) hv)⟩, by rw [kC.frozen (fun h => h) (by omega), kB.frozen (fun h => h) (by omega)]; exact hf⟩
  · exact (bA.trans (bB.mono (by omega))).trans (bC.mono (by omega))
  · rw [limbs_single h0 h]
    refine ⟨rfl, Nat.le_refl _, by unfold maxLen; omega, .inr ⟨_, _, rfl, fun i hi => ?_⟩⟩
    obtain rfl : i = 0 := by simp at hi; omega
    exact cC

set_option maxHeartbeats 16000000 in
/-- natural.newWriter. -/
theorem newWriter_any (a : Option Addr) (n c b : Nat) (xs : List Nat) (w : World) (hs : Sl w a n c xs) (ox : Ok xs) (nx : Norm xs) (hn : n ≤ 2048) (hb : 2 ≤ b) (hb2 : b ≤ 36) :
    Calls Tryz.prog 179 #[.slice a n c, .int .i64 (b : Nat)] w fun e w' => ∃ cnt wt K pv, e = .returned (writerV b cnt wt pv) ∧ NwPost w w' b (val xs) cnt wt K pv := by
  obtain ⟨N, hN⟩ : ∃ N, val xs = N := ⟨_, rfl⟩
  have HNe := hide hN
  rw [hN]
  clear hN
  have HS := hide hs
  have HL := hide hs.len
  obtain ⟨i23, hi23, hz23, hs23, hb23⟩ := info_parts Tryz.info_limbs
  have I23 := hide (And.intro hi23 (And.intro hz23 (And.intro hs23 hb23)))
  clear hi23 hz23 hs23 hb23 hs
  go_enter Tryz.func179, Tryz.ntmps179
  go_wp2_with fail
  refine (chunk_any b hb hb2 _).mono ?_
  rintro e w' ⟨cnt, hch, rfl, hw⟩
  obtain rfl := hw.symm
  have h1 := hch.pos
  have h2 := hch.le
  have h3 := hch.lt
  have HC := hide hch
  have hbw : b ≤ b ^ cnt := Nat.le_trans (by rw [Nat.pow_one]; exact Nat.le_refl _) (Nat.pow_le_pow_right (n := b) (by omega) h1)
  clear hch hw
  obtain ⟨wt, hwt⟩ : ∃ wt, b ^ cnt = wt := ⟨_, rfl⟩
  have HWT := hide hwt
  rw [hwt] at h3 hbw ⊢
  clear hwt
  go_wp2_with fail
  have HA0 := hide (nw0_start w b cnt wt N (by omega) h3)
  go_loopg [6] (N + 1) (fun g pvv wr => ∃ (k : Nat) (pv : Value) (es : List (Option Addr × Nat)) (ap : Option Addr) (mp : Nat), pvv = .slice ap mp mp ∧ N + 1 - wt ^ 2 ^ k ≤ g ∧ NwA wr w b cnt wt N k pv es ∧ Sl wr ap mp mp (limbs (wt ^ 2 ^ k)) ∧ (∀ x, ap = some x → w.heap.size + 2 ≤ x.block) ∧ (∀ x, ap = some x → pv.ownBlock ≠ some x.block))
  case atStart =>
    refine ⟨0, .slice none 0 0, [], _, 1, rfl, by omega, (unhide HA0).1, ?_, ?_, ?_⟩
    · have := (unhide HA0).2
      rw [Nat.pow_zero, Nat.pow_one]
      exact this
    · intro x hx; cases hx; exact Nat.le_refl _
    · intro x hx h; cases h
  case round =>
    clear HA0
    obtain ⟨k, pv, es, ap, mp, rfl, hgq, hA, hp, hpn, hpne⟩ := hrel
    obtain ⟨av, cv, rfl⟩ := own_len hA.own
    obtain ⟨P, hP⟩ : ∃ P, wt ^ 2 ^ k = P := ⟨_, rfl⟩
    have HP := hide hP
    rw [hP] at hp hgq
    have hP2 : 2 ≤ P := by
      rw [← hP]
      exact Nat.le_trans (show 2 ≤ wt by omega) (Nat.le_trans (by rw [Nat.pow_one]; exact Nat.le_refl _) (Nat.pow_le_pow_right (n := wt) (by omega) (Nat.pow_pos (by decide) : 1 ≤ 2 ^ k)))
    have KC := compare_any ap a mp mp n c (limbs P) xs wr hp ((unhide HS).below hA.bel) (limbs_rep P).ok ox (limbs_rep P).norm nx
    rw [(limbs_rep P).val, unhide HNe] at KC
    have KC' := hide KC
    have HA := hide (And.intro hA (And.intro hp (And.intro hpn hpne)))
    clear KC hA hp hpn hpne hP
    by_cases hle : P ≤ N
    · have hc0 : cmpN P N ≤ 0 := by
        rcases Nat.lt_trichotomy P N with h | h | h
        · rw [cmpN_lt h]; decide
        · rw [cmpN_eq h]; decide
        · omega
      generalize cmpN P N = cc at *
      go_wp2_with fail
      refine (unhide KC').mono ?_
      rintro _ w1 ⟨rfl, j, hw1⟩
      have hb1 : Below wr.heap.size wr w1 := by rw [hw1]; exact bel_drewN (Below.refl _ _) j
      have hA1 := (unhide HA).1.keep hb1
      have g3 := hA1.st.c3
      have hNb : N < 4294967296 ^ n := by
        have h1 := val_lt ox
        rw [unhide HNe, unhide HL] at h1
        exact h1
      have hmp : mp ≤ n := by
        have h1 := rep_len_leS (limbs_rep P) (j := n) (by omega)
        have h2 := (unhide HA).2.1.len
        omega
      have hk6 : k ≤ 32 * n := pow_small (wt := wt) (by omega) (by rw [← pow_limb]; exact hNb) hA1.le
      have hpw : PwAt w1 w.heap.size (.slice av k cv) (ap, mp) (wt ^ 2 ^ k) := ⟨by rw [unhide HP]; exact (unhide HA).2.1.below hb1, by omega, (unhide HA).2.2.1, (unhide HA).2.2.2⟩
      have HA1 := hide (And.intro hA1 hpw)
      have hsz := hA1.st.lt
      have HNb := hide hNb
      have hA1o := hide hA1.own
      clear hA1 hpw hb1 hw1 KC' HA hNb
      have hk7 : k ≤ 65536 := by omega
      clear hk6
      go_wp2_with (at_builtin; refine wpList_append_lies _ rfl _ _ 47 rfl (w.heap.size + 2) 22 i23 (.slice none 0 0) 1 24 Tryz.underlying47 (unhide I23).1 (unhide I23).2.1 (unhide I23).2.2.1 (unhide I23).2.2.2 rfl (by decide) _ k _ rfl ((unhide hA1o).alloc _) ⟨w1.heap.size, 0, none⟩ 1 1 [.slice ap mp mp] rfl rfl (World.news_of_block (alloc_block _ _)) one_slice (by decide) ?c31 ?c41 ?c51 (w1.heap.size + 1) (by simp) ?_)
      case c31 => unfold maxLen; omega
      case c41 => omega
      case c51 => simp; omega
      intro g1' cc' w2 hown hgrow hat hlt2
      obtain ⟨hA2, hp2, m1, m2⟩ := (unhide HA1).1.push (unhide HA1).2 (by omega) (by rw [unhide HP]; exact hle) hown hgrow hat
      have HA2 := hide (And.intro hA2 hp2)
      clear hown hgrow hat hlt2 hA2 hp2 HA1 hA1o
      have hmp1 : 1 ≤ mp := by
        have h2 := (unhide HA2).2.sl.len
        rcases Nat.eq_zero_or_pos mp with e | e
        · exfalso
          rw [e, unhide HP] at h2
          exact limbs_ne0 (by omega) (List.eq_nil_of_length_eq_zero h2)
        · exact e
      by_cases hbrk : n < 2 * mp - 1
      · have hbrk' : (n:Int) < 2 * (mp:Int) - 1 := by omega
        have hNPP : N < wt ^ 2 ^ (k + 1) := by
          rw [pow_next, unhide HP]
          have h1 := val_ge_of_norm (limbs_rep P).norm (limbs_ne0 (v := P) (by omega))
          have h2 := (unhide HA2).2.sl.len
          rw [unhide HP] at h2
          rw [(limbs_rep P).val, h2] at h1
          have h3 : 4294967296 ^ n ≤ 4294967296 ^ (mp - 1 + (mp - 1)) := pow_mono (by omega)
          rw [Nat.pow_add] at h3
          have h4 : 4294967296 ^ (mp - 1) * 4294967296 ^ (mp - 1) ≤ P * P := Nat.mul_le_mul h1 h1
          have := unhide HNb
          omega
        have HNPP := hide hNPP
        clear hNPP
        have hA2 := (unhide HA2).1
        generalize hW : w2.setCell ⟨w.heap.size + 1, 3, none⟩ (.slice (some ⟨g1', 0, none⟩) (k + 1) cc') = W at *
        have HW := hW
        have g0 := hA2.st.c0
        have g1 := hA2.st.c1
        have g2 := hA2.st.c2
        have g3' := hA2.st.c3
        obtain ⟨⟨r0, k0⟩, f0⟩ := hA2.rs 0 (by decide)
        obtain ⟨⟨r1, k1⟩, f1⟩ := hA2.rs 1 (by decide)
        obtain ⟨⟨r2, k2⟩, f2⟩ := hA2.rs 2 (by decide)
        obtain ⟨⟨r3, k3⟩, f3⟩ := hA2.rs 3 (by decide)
        have H4 := hide (four_set W w.heap.size (.int .i64 (b : Nat)) (.int .i64 (cnt : Nat)) (.int .u32 (wt : Nat)) (.slice (some ⟨g1', 0, none⟩) (k + 1) cc') (fun i hi => (hA2.rs i hi).1))
        clear hA2
        go_wp2_with fail
        obtain ⟨p0, p1, p2, p3, c4⟩ := unhide H4
        generalize (((W.setCell ⟨w.heap.size, 0, none⟩ (.int .i64 (b : Nat))).setCell ⟨w.heap.size, 1, none⟩ (.int .i64 (cnt : Nat))).setCell ⟨w.heap.size, 2, none⟩ (.int .u32 (wt : Nat))).setCell ⟨w.heap.size, 3, none⟩ (.slice (some ⟨g1', 0, none⟩) (k + 1) cc') = wf at *
        try simp only [Exit.inBlock, Exit.then]
        refine bodyPost_ret (by simp [results, Tryz.results179, go_sem, p0, p1, p2, p3]; try rfl) rfl ?_
        exact ⟨cnt, wt, k + 1, _, rfl, (unhide HA2).1.done (unhide HC) (unhide HWT) (by omega) (unhide HNPP) wf c4⟩
      · have hbrk' : ¬ (n:Int) < 2 * (mp:Int) - 1 := by omega
        have hp2 := (unhide HA2).2
        generalize hW : w2.setCell ⟨w.heap.size + 1, 3, none⟩ (.slice (some ⟨g1', 0, none⟩) (k + 1) cc') = W at *
        have HW := hW
        have hsl := hp2.sl
        rw [unhide HP] at hsl
        have KM := multiply_any ap ap mp mp mp mp (limbs P) (limbs P) W hsl hsl (limbs_rep P).ok (limbs_rep P).ok (by omega)
        rw [(limbs_rep P).val] at KM
        have KM' := hide KM
        clear KM hsl hp2
        go_wp2_with fail
        refine (unhide KM').mono ?_
        rintro _ w3 ⟨a3, m3, z3, rfl, s3, r3, n3, b3⟩
        rw [r3.eq] at s3
        have hA3 := (unhide HA2).1.keep b3
        have hWs := (unhide HA2).1.st.lt
        have hob := own_ge (unhide HA2).1.own
        have HA3 := hide (show NwA w3 w b cnt wt N (k + 1) (.slice (some ⟨g1', 0, none⟩) (k + 1) cc') (es ++ [(ap, mp)]) ∧ Sl w3 a3 m3 m3 (limbs (wt ^ 2 ^ (k + 1))) ∧ (∀ x, a3 = some x → w.heap.size + 2 ≤ x.block) ∧ (∀ x, a3 = some x → (Value.slice (some ⟨g1', 0, none⟩) (k + 1) cc').ownBlock ≠ some x.block) from
          ⟨hA3, by rw [pow_next, unhide HP]; exact s3, fun x hx => by have := n3 x hx; omega, fun x hx e => by have h1 := n3 x hx; have h2 := (hob _ e).2; omega⟩)
        have hPP : P < P * P := by
          have := Nat.mul_le_mul_left P hP2
          omega
        have HPP := hide (show N + 1 - wt ^ 2 ^ (k + 1) < N + 1 - P from by rw [pow_next, unhide HP]; omega)
        obtain ⟨Z, hZ⟩ : ∃ Z, N + 1 - wt ^ 2 ^ (k + 1) = Z := ⟨_, rfl⟩
        have HZ := hide hZ
        clear hA3 s3 r3 n3 b3 hob KM' hZ hPP
        go_wp2_with fail
        go_roundg Z
        case measure => rw [← unhide HZ]; exact Nat.lt_of_lt_of_le (unhide HPP) hgq
        case rel => exact ⟨k + 1, _, _, a3, m3, rfl, by rw [unhide HZ]; exact Nat.le_refl _, (unhide HA3).1, (unhide HA3).2.1, (unhide HA3).2.2.1, (unhide HA3).2.2.2⟩
    · have hc0 : ¬ cmpN P N ≤ 0 := by rw [cmpN_gt (by omega)]; decide
      generalize cmpN P N = cc at *
      go_wp2_with fail
      refine (unhide KC').mono ?_
      rintro _ w1 ⟨rfl, j, hw1⟩
      have hb1 : Below wr.heap.size wr w1 := by rw [hw1]; exact bel_drewN (Below.refl _ _) j
      have hA1 := (unhide HA).1.keep hb1
      have HA1 := hide hA1
      have g0 := hA1.st.c0
      have g1 := hA1.st.c1
      have g2 := hA1.st.c2
      have g3 := hA1.st.c3
      obtain ⟨⟨r0, k0⟩, f0⟩ := hA1.rs 0 (by decide)
      obtain ⟨⟨r1, k1⟩, f1⟩ := hA1.rs 1 (by decide)
      obtain ⟨⟨r2, k2⟩, f2⟩ := hA1.rs 2 (by decide)
      obtain ⟨⟨r3, k3⟩, f3⟩ := hA1.rs 3 (by decide)
      have H4 := hide (four_set w1 w.heap.size (.int .i64 (b : Nat)) (.int .i64 (cnt : Nat)) (.int .u32 (wt : Nat)) (.slice av k cv) (fun i hi => (hA1.rs i hi).1))
      clear hA1 hb1 hw1 KC' HA
      go_wp2_with fail
      obtain ⟨p0, p1, p2, p3, c4⟩ := unhide H4
      generalize (((w1.setCell ⟨w.heap.size, 0, none⟩ (.int .i64 (b : Nat))).setCell ⟨w.heap.size, 1, none⟩ (.int .i64 (cnt : Nat))).setCell ⟨w.heap.size, 2, none⟩ (.int .u32 (wt : Nat))).setCell ⟨w.heap.size, 3, none⟩ (.slice av k cv) = wf at *
      try simp only [Exit.inBlock, Exit.then]
      refine bodyPost_ret (by simp [results, Tryz.results179, go_sem, p0, p1, p2, p3]; try rfl) rfl ?_
      exact ⟨cnt, wt, k, _, rfl, (unhide HA1).done (unhide HC) (unhide HWT) (by omega) (by rw [unhide HP]; omega) wf c4⟩
end Go.Proofs.YtcfefobgmhhfkaaGreatDoor

namespace Go.Proofs.YtcfefobgmhhfkaaGreatDoor
open Go.RowKit Go.Deep
set_option linter.unusedVariables false

theorem make_b2 (n : Nat) (hn : n ≤ 1000000000) (w : World) : (Instr.makeSlice 207 (.int .i64 (n : Int)) (.int .i64 (n : Int))).run Tryz.prog w = .ok (.slice (some ⟨w.heap.size, 0, none⟩) n n) (w.alloc (.cells (madeCells #[.int .u8 0] n) 5)) :=
  run_make_row' (P := Tryz.prog) 207 5 (.int .u8 0) 1 Tryz.underlying207 Tryz.info_u8 rfl .i64 .i64 n (by omega) (by omega) w

theorem pow_small2 {wt N n k : Nat} (hw : 2 ≤ wt) (hn : n ≤ 2048) (hN : N < 2 ^ (32 * n)) (h : ∀ i, i < k → wt ^ 2 ^ i ≤ N) : k ≤ 16 := by
  rcases Nat.eq_zero_or_pos k with e | e
  · omega
  · have h1 := h (k - 1) (by omega)
    have h2 : 2 ^ 2 ^ (k - 1) ≤ wt ^ 2 ^ (k - 1) := Nat.pow_le_pow_left hw _
    have h3 : 2 ^ 2 ^ (k - 1) < 2 ^ (32 * n) := by omega
    have h4 := (Nat.pow_lt_pow_iff_right (by decide : 1 < 2)).1 h3
    have h5 : 2 ^ (k - 1) < 2 ^ 16 := by
      have : (2:Nat) ^ 16 = 65536 := by decide
      omega
    have := (Nat.pow_lt_pow_iff_right (by decide : 1 < 2)).1 h5
    omega

theorem top_zero {N b L : Nat} (hb : 0 < b) : ∀ {t : Nat}, t ≤ L → N < b ^ L → (∀ p, p < t → dgt N b (L - 1 - p) = 0) → N < b ^ (L - t)
  | 0, _, h, _ => by simpa using h
  | t + 1, ht, h, hz => by
    have h1 := top_zero hb (t := t) (by omega) h (fun p hp => hz p (by omega))
    have h2 := hz t (by omega)
    unfold dgt at h2
    have hp : 0 < b ^ (L - 1 - t) := Nat.pow_pos hb
    rw [show L - t = (L - 1 - t) + 1 from by omega, Nat.pow_succ] at h1
    have h3 : N / b ^ (L - 1 - t) < b := (Nat.div_lt_iff_lt_mul hp).2 (by rw [Nat.mul_comm]; exact h1)
    rw [Nat.mod_eq_of_lt h3] at h2
    have h4 := Nat.div_eq_zero_iff.1 h2
    rw [show L - (t + 1) = L - 1 - t from by omega]
    omega
theorem top_ge {N b j : Nat} (hb : 0 < b) (h : dgt N b j ≠ 0) : b ^ j ≤ N := by
  rcases Nat.lt_or_ge N (b ^ j) with k | k
  · exfalso
    apply h
    unfold dgt
    rw [Nat.div_eq_of_lt k, Nat.zero_mod]
  · exact k

theorem pr_pre (w1 w2 : World) (a : Option Addr) (n c N b cnt wt K pb L : Nat) (a0 : Option Addr) (cp : Nat) (hw2 : ((w1.alloc (.cells #[.int .i64 (b : Nat), .int .i64 (cnt : Nat), .int .u32 (wt : Nat), .slice a0 K cp] 205)).alloc (.cells (madeCells #[.int .u8 0] L) 5)) = w2)
    (hL : cnt * 2 ^ K = L) (hs : Sl w1 a n c (limbs N)) (hsb : ∀ x, a = some x → limbs N ≠ [] → x.block < w1.heap.size) (hn : n ≤ 2048) (hN : N < wt ^ 2 ^ K) (hpb : pb < w1.heap.size)
    (hpe : ∀ i, i < K → ∃ a m, w1.cell? ⟨pb, 0 + i, none⟩ = some (.slice a m m) ∧ Sl w1 a m m (limbs (wt ^ 2 ^ i)) ∧ m ≤ 2048 ∧ ∀ x, a = some x → x.block < w1.heap.size) :
    WrPre w2 K (w1.heap.size + 1) 0 L L a n c N b cnt wt pb 0 K (fun _ => 0) ∧ Below w1.heap.size w1 w2 := by
  have bA : Below w1.heap.size w1 _ := (Below.refl _ _).alloc (Nat.le_refl _) (.cells #[.int .i64 (b : Nat), .int .i64 (cnt : Nat), .int .u32 (wt : Nat), .slice a0 K cp] 205)
  have fB := FnB.made (w1.alloc (.cells #[.int .i64 (b : Nat), .int .i64 (cnt : Nat), .int .u32 (wt : Nat), .slice a0 K cp] 205)) L 5
  have bB := bA.alloc (by simp) (.cells (madeCells #[.int .u8 0] L) 5)
  rw [hw2] at fB bB
  rw [show (w1.alloc (.cells #[.int .i64 (b : Nat), .int .i64 (cnt : Nat), .int .u32 (wt : Nat), .slice a0 K cp] 205)).heap.size = w1.heap.size + 1 from by simp] at fB
  refine ⟨⟨hL.symm, Nat.le_refl _, hs.below bB, fun x hx hne => by have := hsb x hx hne; omega, hn, hN, Nat.le_refl _, ⟨by omega, fun i hi => ?_⟩, fB⟩, bB⟩
  obtain ⟨ai, mi, h1, h2, h3, h4⟩ := hpe i hi
  have hcc : Chg (fun _ => False) w1 w2 := Chg.of_below bB
  exact ⟨ai, mi, hcc.cell (fun h => h) h1, h2.below bB, h3, fun x hx => by have := h4 x hx; omega⟩

set_option maxHeartbeats 16000000 in
theorem nprint_ok (a : Option Addr) (n c : Nat) (xs : List Nat) (b : Nat) (w : World) (h : Sl w a n c xs) (ox : Ok xs) (m : MayL xs = true) (hb : 2 ≤ b) (hb2 : b ≤ 36) :
    Calls Tryz.prog 143 #[.slice a n c, .int .i64 (b : Nat)] w fun e w' => PrPost xs (b : Nat) w e w' := by
  have KM := may_any a n c xs w h
  rw [m] at KM
  have KM' := hide KM
  have KB := isBase_any (b : Int) w
  rw [show decide ((2:Int) ≤ (b:Int) ∧ (b:Int) ≤ 36) = true from by simp; omega] at KB
  have KB' := hide KB
  have hn : n ≤ 2048 := by have := h.len; have := MayL.len m; omega
  have KW := hide (newWriter_any a n c b xs w h ox (MayL.norm m) hn hb hb2)
  have HM := hide m
  have H := hide h
  have HL := hide h.len
  clear KM KB m h
  go_enter Tryz.func143, Tryz.ntmps143
  go_wp2_with fail
  refine (unhide KM').mono ?_
  rintro _ _ ⟨rfl, hw⟩
  obtain rfl := hw.symm
  clear hw KM'
  go_wp2_with fail
  refine (unhide KB').mono ?_
  rintro _ _ ⟨rfl, hw⟩
  obtain rfl := hw.symm
  clear hw KB'
  go_wp2_with fail
  refine (unhide KW).mono ?_
  rintro _ w1 ⟨cnt, wt, K, pv, rfl, hQ⟩
  obtain ⟨pb, a0, cp, rfl, hpv, hpb, hpe⟩ := hQ.pvs
  have hc1 := hQ.ch.pos
  have hc2 := hQ.ch.le
  have hwt2 : 2 ≤ wt := by
    rw [← hQ.wte]
    exact Nat.le_trans hb (Nat.le_trans (by rw [Nat.pow_one]; exact Nat.le_refl _) (Nat.pow_le_pow_right (n := b) (by omega) hc1))
  have hK : K ≤ 16 := pow_small2 hwt2 hn (by
    have h1 := val_lt ox
    rw [unhide HL, pow_limb] at h1
    exact h1) hQ.le
  obtain ⟨L, hL⟩ : ∃ L, cnt * 2 ^ K = L := ⟨_, rfl⟩
  have hL2 : L ≤ 31 * 65536 := by
    rw [← hL]
    exact Nat.mul_le_mul hc2 (Nat.le_trans (Nat.pow_le_pow_right (by decide) hK) (by decide))
  have hL1 : 1 ≤ L := by rw [← hL]; exact Nat.mul_pos hc1 (Nat.pow_pos (by decide))
  have sh : (cnt:Int) * 2 ^ K = (L:Int) := by rw [← hL, Int.natCast_mul, Int.natCast_pow]; rfl
  have wL : IntKind.i64.wrap (L:Int) = (L:Int) := by rw [IntKind.wrap_i64]; omega
  have hmk := make_b2 L (by omega)
  have HLe := hide hL
  clear hL
  have HQ := hide hQ
  have HPE := hide (And.intro hpv (And.intro hpb hpe))
  clear KW hQ hpv hpb hpe
  unfold writerV
  go_wp2_with fail
  obtain ⟨w2, hw2⟩ : ∃ w2, ((w1.alloc (.cells #[.int .i64 (b : Nat), .int .i64 (cnt : Nat), .int .u32 (wt : Nat), .slice a0 K cp] 205)).alloc (.cells (madeCells #[.int .u8 0] L) 5)) = w2 := ⟨_, rfl⟩
  rw [hw2]
  obtain ⟨N, hN⟩ : ∃ N, val xs = N := ⟨_, rfl⟩
  have hxs : xs = limbs N := by rw [← hN]; exact (limbs_val ox (MayL.norm (unhide HM))).symm
  have hsA : Sl w1 a n c (limbs N) := by rw [← hxs]; exact (unhide H).below (unhide HQ).bel
  have hPre := pr_pre w1 w2 a n c N b cnt wt K pb L a0 cp hw2 (unhide HLe) hsA
  have hNlt : N < wt ^ 2 ^ K := by rw [← hN]; exact (unhide HQ).lt
  have hPre := hPre (fun x hx hne => hsA.block_lt hne x hx) hn hNlt (unhide HPE).2.1 (unhide HPE).2.2
  have KR := write_any (w1.heap.size + 1) b cnt wt pb 0 K cp (.slice a0 K cp) (unhide HPE).1 hb hb2 (unhide HQ).ch (unhide HQ).wte (by omega) K 0 L L a n c N (fun _ => 0) w2 (by omega) (by omega) hPre.1
  unfold writerV at KR
  refine KR.mono ?_
  rintro _ w3 ⟨rfl, f3, u3⟩
  have hNL : N < b ^ L := by
    rw [← unhide HLe, Nat.pow_mul, (unhide HQ).wte]
    exact hNlt
  have hb3 : Below w.heap.size w w3 := by
    have h1 := (unhide HQ).bel
    have h2 := h1.size
    exact h1.trans ((hPre.2.mono h2).trans (u3.below (by omega) (by have := hPre.2.size; omega)))
  have HF := hide f3
  have HB3 := hide hb3
  have HNe := hide hN
  clear KR f3 u3 hb3 hPre hNlt hsA hxs hN hw2 HQ HPE HLe H wL sh hmk
  go_wp2_with fail
  go_loop [8] (fun iv => ∃ i : Nat, i < L ∧ iv = .int .i64 (i : Nat) ∧ Hid (∀ p, p < i → dgt N b (L - 1 - p) = 0)) (fun iv => L - (intOf iv).toNat)
  case atStart => exact ⟨0, by omega, rfl, fun p hp => by omega⟩
  case round =>
    obtain ⟨i, hi, rfl, HZ⟩ := hrel
    by_cases hst : i < L - 1 ∧ dgt N b (L - 1 - i) = 0
    · obtain ⟨hi1, hz⟩ := hst
      have t1 : (i:Int) < (L:Int) - 1 := by omega
      have f1 := (unhide HF i hi).1
      simp only [hz] at f1
      rw [Nat.zero_add, show chrN 0 = 48 from rfl] at f1
      have HZ2 := hide (show ∀ p, p < i + 1 → dgt N b (L - 1 - p) = 0 from fun p hp => by
        by_cases e : p = i
        · rw [e]; exact hz
        · exact unhide HZ p (by omega))
      clear HZ hz
      go_wp2_with fail
      exact ⟨⟨i + 1, by omega, by go_num, unhide HZ2⟩, by simp [intOf]; omega⟩
    · have hT : TxtOf N b (L - i) := by
        refine ⟨by omega, top_zero (by omega) (by omega) hNL (unhide HZ), ?_⟩
        by_cases e : i < L - 1
        · right
          refine top_ge (by omega) (fun hz => hst ⟨e, ?_⟩)
          rw [show L - 1 - i = L - i - 1 from by omega]
          exact hz
        · left; omega
      have HX := hide (show PrIs xs (b : Nat) (strB (txtL N b (L - i))) 0 from by
        have := PrIs.text (xs := xs) (b := (b : Int)) (L - i) (unhide HM) (by omega) (by rw [unhide HNe]; exact hT)
        rw [unhide HNe] at this
        exact this)
      have hsub : FnB w3 (w1.heap.size + 1) i (L - i) (fun p => chrN (dgt N b (L - i - 1 - p))) := by
        intro p hp
        have := unhide HF (i + p) (by omega)
        simp only at this ⊢
        rw [Nat.zero_add, show L - 1 - (i + p) = L - i - 1 - p from by omega] at this
        exact this
      have kc := (hsub.slB (c := L - i) (Nat.le_refl _) (fun p hp => chr_ok N hb hb2 _)).conv
      change _ = Result.ok (Value.string (strB (txtL N b (L - i)))) w3 at kc
      have f1 := (unhide HF i hi).1
      simp only at f1
      rw [Nat.zero_add] at f1
      have hz1 : dgt N b (L - 1 - i) = 0 → ¬ i < L - 1 := fun h1 h2 => hst ⟨h2, h1⟩
      have hcl := chr_ok N hb hb2 (L - 1 - i)
      have hch := chrN_zero (d := dgt N b (L - 1 - i)) (by have := dgt_lt N (L - 1 - i) (b := b) (by omega); omega)
      generalize strB (txtL N b (L - i)) = S at *
      obtain ⟨q, hq⟩ : ∃ q, L - i = q := ⟨_, rfl⟩
      have hq1 : (L:Int) - (i:Int) = (q:Int) := by omega
      rw [hq] at kc
      have hLi : ¬ L = i := by omega
      generalize dgt N b (L - 1 - i) = D at *
      generalize chrN D = z at *
      clear hst hsub hT HZ
      by_cases hi1 : i < L - 1
      · have t1 : (i:Int) < (L:Int) - 1 := by omega
        have hz48 : z ≠ 48 := fun e => hz1 (hch.1 e) hi1
        have t2 : ((z:Int) == 48) = false := by simp; omega
        have t3 : ¬ (z:Int) = 48 := by omega
        clear hz1 hch
        go_wp2_with fail
        go_ret2
        exact ⟨S, 0, rfl, unhide HX, unhide HB3⟩
      · have t1 : ¬ (i:Int) < (L:Int) - 1 := by omega
        clear hz1 hch
        go_wp2_with fail
        go_ret2
        exact ⟨S, 0, rfl, unhide HX, unhide HB3⟩

set_option maxHeartbeats 4000000 in
/-- natural.Print. -/
theorem nprint_any (a : Option Addr) (n c : Nat) (xs : List Nat) (b : Int) (w : World) (h : Sl w a n c xs) (ox : Ok xs) :
    Calls Tryz.prog 143 #[.slice a n c, .int .i64 b] w fun e w' => PrPost xs b w e w' := by
  have KM := may_any a n c xs w h
  by_cases m : MayL xs = true
  · by_cases hb : 2 ≤ b ∧ b ≤ 36
    · obtain ⟨k, rfl⟩ : ∃ k : Nat, b = (k : Int) := ⟨b.toNat, by omega⟩
      exact nprint_ok a n c xs k w h ox m (by omega) (by omega)
    · have KB := isBase_any b w
      rw [show decide (2 ≤ b ∧ b ≤ 36) = false from decide_eq_false hb] at KB
      rw [m] at KM
      have KM' := hide KM
      have KB' := hide KB
      have HM := hide m
      have HB := hide hb
      clear KM KB m h hb
      go_enter Tryz.func143, Tryz.ntmps143
      go_wp2_with fail
      refine (unhide KM').mono ?_
      rintro _ _ ⟨rfl, hw⟩
      obtain rfl := hw.symm
      clear hw KM'
      go_wp2_with fail
      refine (unhide KB').mono ?_
      rintro _ _ ⟨rfl, hw⟩
      obtain rfl := hw.symm
      clear hw KB'
      go_wp2_with fail
      go_ret2
      exact ⟨_, _, rfl, .base (unhide HM) (unhide HB), Below.refl _ _⟩
  · have m' : MayL xs = false := by simpa using m
    rw [m'] at KM
    have KM' := hide KM
    have HM := hide m'
    clear KM m m' h
    go_enter Tryz.func143, Tryz.ntmps143
    go_wp2_with fail
    refine (unhide KM').mono ?_
    rintro _ _ ⟨rfl, hw⟩
    obtain rfl := hw.symm
    clear hw KM'
    go_wp2_with fail
    go_ret2
    exact ⟨_, _, rfl, .nat (unhide HM), Below.refl _ _⟩
end Go.Proofs.YtcfefobgmhhfkaaGreatDoor
