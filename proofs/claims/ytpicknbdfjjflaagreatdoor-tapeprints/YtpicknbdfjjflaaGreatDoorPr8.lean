/- Pr8 -/
import Derived.Test.YtpicknbdfjjflaaGreatDoorPr7
import Derived.Test.YtpicknbdfjjflaaGreatDoorShl
import Derived.Test.YtpicknbdfjjflaaGreatDoorGiv2
import Derived.Deep.LoopGhost
namespace Go.Proofs.YtpicknbdfjjflaaGreatDoor
open Go.RowKit Go.Deep
set_option linter.unusedVariables false
def pwV (e : Option Addr × Nat) : Value := .slice e.1 e.2 e.2

structure PwAt (wr : World) (B : Nat) (pv : Value) (e : Option Addr × Nat) (P : Nat) : Prop where
  sl : Sl wr e.1 e.2 e.2 (limbs P)
  le : e.2 ≤ 2048
  new : ∀ x, e.1 = some x → B + 2 ≤ x.block
  ne : ∀ x, e.1 = some x → pv.ownBlock ≠ some x.block

structure NwA (wr w : World) (b cnt wt N k : Nat) (pv : Value) (es : List (Option Addr × Nat)) : Prop where
  st : St4 wr (w.heap.size + 1) b cnt wt pv
  fz : wr.frozen? ⟨w.heap.size + 1, 3, none⟩ = false
  rs : ∀ i, i < 4 → (∃ v, wr.cell? ⟨w.heap.size, i, none⟩ = some v) ∧ wr.frozen? ⟨w.heap.size, i, none⟩ = false
  own : wr.ownsRow (w.heap.size + 2) 50 1 pv k (es.map pwV)
  each : ∀ i, i < k → ∃ e, es[i]? = some e ∧ PwAt wr w.heap.size pv e (wt ^ 2 ^ i)
  le : ∀ i, i < k → wt ^ 2 ^ i ≤ N
  bel : Below w.heap.size w wr

theorem Chg.frozen {S : Nat → Prop} {w w' : World} (h : Chg S w w') {b i : Nat} (hs : ¬ S b) (hb : b < w.heap.size) : w'.frozen? ⟨b, i, none⟩ = w.frozen? ⟨b, i, none⟩ := by
  unfold World.frozen?; simp only; rw [h.block b hb hs]
theorem limbs_ne0 {v : Nat} (h : 0 < v) : limbs v ≠ [] := by
  intro e
  have := (limbs_rep v).val
  rw [e] at this
  simp [val] at this
  omega

theorem NwA.keep {wr w' w : World} {b cnt wt N k : Nat} {pv : Value} {es : List (Option Addr × Nat)} (h : NwA wr w b cnt wt N k pv es) (hb : Below wr.heap.size wr w') : NwA w' w b cnt wt N k pv es := by
  have hS : w.heap.size + 1 < wr.heap.size := h.st.lt
  have c : Chg (fun _ => False) wr w' := Chg.of_below hb
  refine ⟨h.st.keep (fun i => ?_), ?_, fun i hi => ?_, ownsRow_below h.own hb, fun i hi => ?_, h.le, h.bel.trans (hb.mono h.bel.size)⟩
  · unfold World.cell?; simp only; rw [hb.block _ hS]
  · rw [c.frozen (fun h => h) hS]; exact h.fz
  · obtain ⟨⟨v, hv⟩, hf⟩ := h.rs i hi
    exact ⟨⟨v, c.cell (fun h => h) hv⟩, by rw [c.frozen (fun h => h) (by omega)]; exact hf⟩
  · obtain ⟨e, he, p⟩ := h.each i hi
    exact ⟨e, he, p.sl.below hb, p.le, p.new, p.ne⟩

theorem NwA.push {wr w1 w : World} {b cnt wt N k g cap : Nat} {pv : Value} {es : List (Option Addr × Nat)} {ap : Option Addr} {mp : Nat} {o : Obj} (h : NwA wr w b cnt wt N k pv es) (hp : PwAt wr w.heap.size pv (ap, mp) (wt ^ 2 ^ k)) (hw : 0 < wt) (hN : wt ^ 2 ^ k ≤ N)
    (hown : w1.ownsRow (w.heap.size + 2) 50 1 (.slice (some ⟨g, 0, none⟩) (k + 1) cap) (k + 1) (es.map pwV ++ [.slice ap mp mp])) (hg : (wr.alloc o).grownBy w1 pv.ownBlock) (hat : pv.ownBlock = some g ∨ g = wr.heap.size + 1) :
    NwA (w1.setCell ⟨w.heap.size + 1, 3, none⟩ (.slice (some ⟨g, 0, none⟩) (k + 1) cap)) w b cnt wt N (k + 1) (.slice (some ⟨g, 0, none⟩) (k + 1) cap) (es ++ [(ap, mp)]) ∧
      PwAt (w1.setCell ⟨w.heap.size + 1, 3, none⟩ (.slice (some ⟨g, 0, none⟩) (k + 1) cap)) w.heap.size (.slice (some ⟨g, 0, none⟩) (k + 1) cap) (ap, mp) (wt ^ 2 ^ k) ∧
      w1.cell? ⟨w.heap.size + 1, 3, none⟩ = some pv ∧ w1.frozen? ⟨w.heap.size + 1, 3, none⟩ = false := by
  have hS : w.heap.size + 1 < wr.heap.size := h.st.lt
  have hlk : es.length = k := by have := h.own.1; simpa using this
  have hoB : ∀ j, pv.ownBlock = some j → w.heap.size + 2 ≤ j ∧ j < wr.heap.size := own_ge h.own
  have hgB : w.heap.size + 2 ≤ g := by
    rcases hat with e | e
    · exact (hoB g e).1
    · omega
  have c1 : Chg (fun j => pv.ownBlock = some j) wr w1 := (Chg.of_alloc wr o).trans (Chg.of_grown hg (fun j hj => hj))
  have c2 : Chg (fun j => pv.ownBlock = some j ∨ j = w.heap.size + 1) wr (w1.setCell ⟨w.heap.size + 1, 3, none⟩ (.slice (some ⟨g, 0, none⟩) (k + 1) cap)) :=
    (c1.mono (fun j _ hj => Or.inl hj)).trans (Chg.of_set _ _ _ _ (.inr rfl))
  have nS : ¬ pv.ownBlock = some (w.heap.size + 1) := fun e => by have := (hoB _ e).1; omega
  have nR : ¬ (pv.ownBlock = some w.heap.size ∨ w.heap.size = w.heap.size + 1) := by
    rintro (e | e)
    · have := (hoB _ e).1; omega
    · omega
  have moved : ∀ {e : Option Addr × Nat} {P : Nat}, 0 < P → PwAt wr w.heap.size pv e P → PwAt (w1.setCell ⟨w.heap.size + 1, 3, none⟩ (.slice (some ⟨g, 0, none⟩) (k + 1) cap)) w.heap.size (.slice (some ⟨g, 0, none⟩) (k + 1) cap) e P := by
    intro e P hP p
    refine ⟨p.sl.chg c2 (fun x hx _ => ?_), p.le, p.new, fun x hx => ?_⟩
    · rintro (e1 | e1)
      · exact p.ne x hx e1
      · have := p.new x hx; omega
    · intro e1
      simp only [Value.ownBlock, Option.some.injEq] at e1
      have hlt := p.sl.block_lt (limbs_ne0 hP) x hx
      rcases hat with e2 | e2
      · exact p.ne x hx (by rw [e2, e1])
      · omega
  have hPk : ∀ i, 0 < wt ^ 2 ^ i := fun i => Nat.pow_pos hw
  refine ⟨⟨?_, ?_, ?_, ?_, ?_, ?_, ?_⟩, moved (hPk k) hp, c1.cell nS h.st.c3, by rw [c1.frozen nS hS]; exact h.fz⟩
  · refine ⟨?_, ?_, ?_, ?_⟩
    · rw [World.cell?_setCell_other _ _ _ _ (by simp)]; exact c1.cell nS h.st.c0
    · rw [World.cell?_setCell_other _ _ _ _ (by simp)]; exact c1.cell nS h.st.c1
    · rw [World.cell?_setCell_other _ _ _ _ (by simp)]; exact c1.cell nS h.st.c2
    · rw [World.cell?_setCell_same _ _ _ (c1.cell nS h.st.c3)]
  · rw [World.frozen?_setCell, c1.frozen nS hS]; exact h.fz
  · intro i hi
    obtain ⟨⟨v, hv⟩, hf⟩ := h.rs i hi
    exact ⟨⟨v, c2.cell nR hv⟩, by rw [c2.frozen nR (by omega)]; exact hf⟩
  · rw [List.map_append]
    exact ownsRow_setCell_other hown (by simp [Value.ownBlock]; omega) _
  · intro i hi
    by_cases hik : i < k
    · obtain ⟨e, he, p⟩ := h.each i hik
      exact ⟨e, by rw [List.getElem?_append_left (by omega)]; exact he, moved (hPk i) p⟩
    · obtain rfl : i = k := by omega
      exact ⟨(ap, mp), by rw [List.getElem?_append_right (by omega), hlk]; simp, moved (hPk i) hp⟩
  · intro i hi
    by_cases hik : i < k
    · exact h.le i hik
    · obtain rfl : i = k := by omega
      exact hN
  · exact h.bel.trans (c2.below h.bel.size (fun j hj => by
      rintro (e | e)
      · have := (hoB _ e).1; omega
      · omega))

structure NwPost (w w' : World) (b N cnt wt K : Nat) (pv : Value) : Prop where
  ch : Chunk b cnt
  wte : b ^ cnt = wt
  lt : N < wt ^ 2 ^ K
  le : ∀ i, i < K → wt ^ 2 ^ i ≤ N
  pvs : ∃ pb a0 cp, pv = .slice a0 K cp ∧ (K = 0 ∨ pv = .slice (some ⟨pb, 0, none⟩) K cp) ∧ pb < w'.heap.size ∧ ∀ i, i < K → ∃ a m, w'.cell? ⟨pb, 0 + i, none⟩ = some (.slice a m m) ∧ Sl w' a m m (limbs (wt ^ 2 ^ i)) ∧ m ≤ 2048 ∧ ∀ x, a = some x → x.block < w'.heap.size
  bel : Below w.heap.size w w'

theorem NwA.done {wr w : World} {b cnt wt N k : Nat} {pv : Value} {es : List (Option Addr × Nat)} (h : NwA wr w b cnt wt N k pv es) (ch : Chunk b cnt) (hwt : b ^ cnt = wt) (hb : 0 < b) (hN : N < wt ^ 2 ^ k) (W : World) (c : Chg (fun j => j = w.heap.size) wr W) : NwPost w W b N cnt wt k pv := by
  have hS : w.heap.size + 1 < wr.heap.size := h.st.lt
  have hw : 0 < wt := by rw [← hwt]; exact Nat.pow_pos hb
  refine ⟨ch, hwt, hN, h.le, ?_, h.bel.trans (c.below h.bel.size (fun j hj => by omega))⟩
  rcases h.own.2 with ⟨e, h0⟩ | ⟨g, cap, cur, e, hg, hheap, h6, h7, h8, h9⟩
  · refine ⟨0, none, 0, by rw [e, h0], .inl h0, by have := c.size; omega, fun i hi => by omega⟩
  · have hgl : g < wr.heap.size := (own_ge h.own g (by rw [e]; rfl)).2
    refine ⟨g, some ⟨g, 0, none⟩, cap, e, .inr e, Nat.lt_of_lt_of_le hgl c.size, fun i hi => ?_⟩
    obtain ⟨x, hx, p⟩ := h.each i hi
    refine ⟨x.1, x.2, ?_, p.sl.chg c (fun y hy _ => by have := p.new y hy; omega), p.le, fun y hy => Nat.lt_of_lt_of_le (p.sl.block_lt (limbs_ne0 (Nat.pow_pos hw)) y hy) c.size⟩
    have ho := h.own
    rw [e] at ho
    have hc := ho.cellAt i (by omega)
    rw [List.getElem?_map, hx] at hc
    rw [Nat.zero_add]
    exact c.cell (by omega) hc

theorem pow_next {wt k : Nat} : wt ^ 2 ^ (k + 1) = wt ^ 2 ^ k * wt ^ 2 ^ k := by rw [Nat.pow_succ, Nat.mul_comm (2 ^ k) 2, Nat.two_mul, Nat.pow_add]

theorem four_set (w1 : World) (R : Nat) (v0 v1 v2 v3 : Value) (h : ∀ i, i < 4 → ∃ v, w1.cell? ⟨R, i, none⟩ = some v) :
    ((((w1.setCell ⟨R, 0, none⟩ v0).setCell ⟨R, 1, none⟩ v1).setCell ⟨R, 2, none⟩ v2).setCell ⟨R, 3, none⟩ v3).cell? ⟨R, 0, none⟩ = some v0 ∧
    ((((w1.setCell ⟨R, 0, none⟩ v0).setCell ⟨R, 1, none⟩ v1).setCell ⟨R, 2, none⟩ v2).setCell ⟨R, 3, none⟩ v3).cell? ⟨R, 1, none⟩ = some v1 ∧
    ((((w1.setCell ⟨R, 0, none⟩ v0).setCell ⟨R, 1, none⟩ v1).setCell ⟨R, 2, none⟩ v2).setCell ⟨R, 3, none⟩ v3).cell? ⟨R, 2, none⟩ = some v2 ∧
    ((((w1.setCell ⟨R, 0, none⟩ v0).setCell ⟨R, 1, none⟩ v1).setCell ⟨R, 2, none⟩ v2).setCell ⟨R, 3, none⟩ v3).cell? ⟨R, 3, none⟩ = some v3 ∧
    Chg (fun j => j = R) w1 ((((w1.setCell ⟨R, 0, none⟩ v0).setCell ⟨R, 1, none⟩ v1).setCell ⟨R, 2, none⟩ v2).setCell ⟨R, 3, none⟩ v3) := by
  obtain ⟨x0, h0⟩ := h 0 (by decide)
  obtain ⟨x1, h1⟩ := h 1 (by decide)
  obtain ⟨x2, h2⟩ := h 2 (by decide)
  obtain ⟨x3, h3⟩ := h 3 (by decide)
  have s0 : (w1.setCell ⟨R, 0, none⟩ v0).cell? ⟨R, 0, none⟩ = some v0 := World.cell?_setCell_same _ _ _ h0
  have s1 : (w1.setCell ⟨R, 0, none⟩ v0).cell? ⟨R, 1, none⟩ = some x1 := by rw [World.cell?_setCell_other _ _ _ _ (by simp)]; exact h1
  have s2 : (w1.setCell ⟨R, 0, none⟩ v0).cell? ⟨R, 2, none⟩ = some x2 := by rw [World.cell?_setCell_other _ _ _ _ (by simp)]; exact h2
  have s3 : (w1.setCell ⟨R, 0, none⟩ v0).cell? ⟨R, 3, none⟩ = some x3 := by rw [World.cell?_setCell_other _ _ _ _ (by simp)]; exact h3
  have t0 : ((w1.setCell ⟨R, 0, none⟩ v0).setCell ⟨R, 1, none⟩ v1).cell? ⟨R, 0, none⟩ = some v0 := by rw [World.cell?_setCell_other _ _ _ _ (by simp)]; exact s0
  have t1 : ((w1.setCell ⟨R, 0, none⟩ v0).setCell ⟨R, 1, none⟩ v1).cell? ⟨R, 1, none⟩ = some v1 := World.cell?_setCell_same _ _ _ s1
  have t2 : ((w1.setCell ⟨R, 0, none⟩ v0).setCell ⟨R, 1, none⟩ v1).cell? ⟨R, 2, none⟩ = some x2 := by rw [World.cell?_setCell_other _ _ _ _ (by simp)]; exact s2
  have t3 : ((w1.setCell ⟨R, 0, none⟩ v0).setCell ⟨R, 1, none⟩ v1).cell? ⟨R, 3, none⟩ = some x3 := by rw [World.cell?_setCell_other _ _ _ _ (by simp)]; exact s3
  have u2 : (((w1.setCell ⟨R, 0, none⟩ v0).setCell ⟨R, 1, none⟩ v1).setCell ⟨R, 2, none⟩ v2).cell? ⟨R, 2, none⟩ = some v2 := World.cell?_setCell_same _ _ _ t2
  have u3 : (((w1.setCell ⟨R, 0, none⟩ v0).setCell ⟨R, 1, none⟩ v1).setCell ⟨R, 2, none⟩ v2).cell? ⟨R, 3, none⟩ = some x3 := by rw [World.cell?_setCell_other _ _ _ _ (by simp)]; exact t3
  refine ⟨?_, ?_, ?_, World.cell?_setCell_same _ _ _ u3, (((Chg.of_set (S := fun j => j = R) _ _ _ _ rfl).trans (Chg.of_set (S := fun j => j = R) _ _ _ _ rfl)).trans (Chg.of_set (S := fun j => j = R) _ _ _ _ rfl)).trans (Chg.of_set (S := fun j => j = R) _ _ _ _ rfl)⟩
  · rw [World.cell?_setCell_other _ _ _ _ (by simp), World.cell?_setCell_other _ _ _ _ (by simp)]; exact t0
  · rw [World.cell?_setCell_other _ _ _ _ (by simp), World.cell?_setCell_other _ _ _ _ (by simp)]; exact t1
  · rw [World.cell?_setCell_other _ _ _ _ (by simp)]; exact u2

theorem pow_small {wt N n k : Nat} (hw : 2 ≤ wt) (hN : N < 2 ^ (32 * n)) (h : ∀ i, i < k → wt ^ 2 ^ i ≤ N) : k ≤ 32 * n := by
  rcases Nat.eq_zero_or_pos k with e | e
  · omega
  · have h1 := h (k - 1) (by omega)
    have h2 : 2 ^ 2 ^ (k - 1) ≤ wt ^ 2 ^ (k - 1) := Nat.pow_le_pow_left hw _
    have h3 : 2 ^ 2 ^ (k - 1) < 2 ^ (32 * n) := by omega
    have h4 := (Nat.pow_lt_pow_iff_right (by decide : 1 < 2)).1 h3
    have h5 : k - 1 < 2 ^ (k - 1) := Nat.lt_two_pow_self
    omega

def nw0 (w : World) (b cnt wt : Nat) : World := ((w.alloc (.cells #[.int .i64 0, .int .i64 0, .int .u32 0, .slice none 0 0] 191)).alloc (.cells #[.int .i64 (b : Nat), .int .i64 (cnt : Nat), .int .u32 (wt : Nat), .slice none 0 0] 191)).alloc (.cells #[.int .u32 (wt : Nat)] 87)

theorem limbs_single {v : Nat} (h0 : 0 < v) (h : v < 4294967296) : limbs v = [v] :=
  ((limbs_rep v).unique ⟨Ok.cons h Ok.nil, .inr (by simp; omega), by simp [val]⟩)

theorem nw0_start (w : World) (b cnt wt N : Nat) (h0 : 0 < wt) (h : wt < 4294967296) : NwA (nw0 w b cnt wt) w b cnt wt N 0 (.slice none 0 0) [] ∧ Sl (nw0 w b cnt wt) (some ⟨w.heap.size + 1 + 1, 0, none⟩) 1 1 (limbs wt) := by
  unfold nw0
  obtain ⟨wA, hA⟩ : ∃ wA, w.alloc (.cells #[.int .i64 0, .int .i64 0, .int .u32 0, .slice none 0 0] 191) = wA := ⟨_, rfl⟩
  have zA : wA.heap.size = w.heap.size + 1 := by rw [← hA]; simp
  have bA : Below w.heap.size w wA := by rw [← hA]; exact (Below.refl _ _).alloc (Nat.le_refl _) _
  have cA : ∀ i, i < 4 → (∃ v, wA.cell? ⟨w.heap.size, i, none⟩ = some v) ∧ wA.frozen? ⟨w.heap.size, i, none⟩ = false := by
    intro i hi
    rw [← hA]
    match i, hi with
    | 0, _ => exact ⟨⟨.int .i64 0, by simp⟩, by simp⟩
    | 1, _ => exact ⟨⟨.int .i64 0, by simp⟩, by simp⟩
    | 2, _ => exact ⟨⟨.int .u32 0, by simp⟩, by simp⟩
    | 3, _ => exact ⟨⟨.slice none 0 0, by simp⟩, by simp⟩
  rw [hA]
  have sB := St4.made wA b cnt wt (.slice none 0 0) 191
  have fB : (wA.alloc (.cells #[.int .i64 (b : Nat), .int .i64 (cnt : Nat), .int .u32 (wt : Nat), .slice none 0 0] 191)).frozen? ⟨wA.heap.size, 3, none⟩ = false := by simp
  have bB : Below wA.heap.size wA _ := (Below.refl _ _).alloc (Nat.le_refl _) (.cells #[.int .i64 (b : Nat), .int .i64 (cnt : Nat), .int .u32 (wt : Nat), .slice none 0 0] 191)
  obtain ⟨wB, hB⟩ : ∃ wB, wA.alloc (.cells #[.int .i64 (b : Nat), .int .i64 (cnt : Nat), .int .u32 (wt : Nat), .slice none 0 0] 191) = wB := ⟨_, rfl⟩
  have zB : wB.heap.size = w.heap.size + 1 + 1 := by rw [← hB]; simp [zA]
  rw [hB] at sB fB bB ⊢
  have bC : Below wB.heap.size wB _ := (Below.refl _ _).alloc (Nat.le_refl _) (.cells #[.int .u32 (wt : Nat)] 87)
  have cC : (wB.alloc (.cells #[.int .u32 (wt : Nat)] 87)).cell? ⟨wB.heap.size, 0, none⟩ = some (.int .u32 (wt : Nat)) := by simp
  obtain ⟨wC, hC⟩ : ∃ wC, wB.alloc (.cells #[.int .u32 (wt : Nat)] 87) = wC := ⟨_, rfl⟩
  rw [hC] at bC cC ⊢
  have kB : Chg (fun _ => False) wA wB := Chg.of_below bB
  have kC : Chg (fun _ => False) wB wC := Chg.of_below bC
  rw [zA] at sB fB
  rw [zB] at cC
  have hB2 : w.heap.size + 1 < wB.heap.size := by omega
  refine ⟨⟨sB.keep (fun i => by unfold World.cell?; simp only; rw [bC.block _ hB2]), by rw [kC.frozen (fun h => h) hB2]; exact fB, ?_, World.ownsRow_nil _ _ _ _, fun i hi => by omega, fun i hi => by omega, ?_⟩, ?_⟩
  · intro i hi
    obtain ⟨⟨v, hv⟩, hf⟩ := cA i hi
    exact ⟨⟨v, kC.cell (fun h => h) (kB.cell (fun h => h) hv)⟩, by rw [kC.frozen (fun h => h) (by omega), kB.frozen (fun h => h) (by omega)]; exact hf⟩
  · exact (bA.trans (bB.mono (by omega))).trans (bC.mono (by omega))
  · rw [limbs_single h0 h]
    refine ⟨rfl, Nat.le_refl _, by unfold maxLen; omega, .inr ⟨_, _, rfl, fun i hi => ?_⟩⟩
    obtain rfl : i = 0 := by simp at hi; omega
    exact cC

set_option maxHeartbeats 16000000 in
theorem newWriter_any (a : Option Addr) (n c b : Nat) (xs : List Nat) (w : World) (hs : Sl w a n c xs) (ox : Ok xs) (nx : Norm xs) (hn : n ≤ 2048) (hb : 2 ≤ b) (hb2 : b ≤ 36) :
    Calls Tryz.prog 126 #[.slice a n c, .int .i64 (b : Nat)] w fun e w' => ∃ cnt wt K pv, e = .returned (writerV b cnt wt pv) ∧ NwPost w w' b (val xs) cnt wt K pv := by
  obtain ⟨N, hN⟩ : ∃ N, val xs = N := ⟨_, rfl⟩
  have HNe := hide hN
  rw [hN]
  clear hN
  have HS := hide hs
  have HL := hide hs.len
  obtain ⟨i23, hi23, hz23, hs23, hb23⟩ := info_parts Tryz.info_limbs
  have I23 := hide (And.intro hi23 (And.intro hz23 (And.intro hs23 hb23)))
  clear hi23 hz23 hs23 hb23 hs
  go_enter Tryz.func126, Tryz.ntmps126
  go_wp2_with fail
  refine (chunk_any b hb hb2 _).mono ?_
  rintro e w' ⟨cnt, hch, rfl, hw⟩
  obtain rfl := hw.symm
  have h1 := hch.pos
  have h2 := hch.le
  have h3 := hch.lt
  have HC := hide hch
  have hbw : b ≤ b ^ cnt := Nat.le_trans (by rw [Nat.pow_one]; exact Nat.le_refl _) (Nat.pow_le_pow_right (n := b) (by omega) h1)
  clear hch hw
  obtain ⟨wt, hwt⟩ : ∃ wt, b ^ cnt = wt := ⟨_, rfl⟩
  have HWT := hide hwt
  rw [hwt] at h3 hbw ⊢
  clear hwt
  go_wp2_with fail
  have HA0 := hide (nw0_start w b cnt wt N (by omega) h3)
  go_loopg [6] (N + 1) (fun g pvv wr => ∃ (k : Nat) (pv : Value) (es : List (Option Addr × Nat)) (ap : Option Addr) (mp : Nat), pvv = .slice ap mp mp ∧ N + 1 - wt ^ 2 ^ k ≤ g ∧ NwA wr w b cnt wt N k pv es ∧ Sl wr ap mp mp (limbs (wt ^ 2 ^ k)) ∧ (∀ x, ap = some x → w.heap.size + 2 ≤ x.block) ∧ (∀ x, ap = some x → pv.ownBlock ≠ some x.block))
  case atStart =>
    refine ⟨0, .slice none 0 0, [], _, 1, rfl, by omega, (unhide HA0).1, ?_, ?_, ?_⟩
    · have := (unhide HA0).2
      rw [Nat.pow_zero, Nat.pow_one]
      exact this
    · intro x hx; cases hx; exact Nat.le_refl _
    · intro x hx h; cases h
  case round =>
    clear HA0
    obtain ⟨k, pv, es, ap, mp, rfl, hgq, hA, hp, hpn, hpne⟩ := hrel
    obtain ⟨av, cv, rfl⟩ := own_len hA.own
    obtain ⟨P, hP⟩ : ∃ P, wt ^ 2 ^ k = P := ⟨_, rfl⟩
    have HP := hide hP
    rw [hP] at hp hgq
    have hP2 : 2 ≤ P := by
      rw [← hP]
      exact Nat.le_trans (show 2 ≤ wt by omega) (Nat.le_trans (by rw [Nat.pow_one]; exact Nat.le_refl _) (Nat.pow_le_pow_right (n := wt) (by omega) (Nat.pow_pos (by decide) : 1 ≤ 2 ^ k)))
    have KC := compare_any ap a mp mp n c (limbs P) xs wr hp ((unhide HS).below hA.bel) (limbs_rep P).ok ox (limbs_rep P).norm nx
    rw [(limbs_rep P).val, unhide HNe] at KC
    have KC' := hide KC
    have HA := hide (And.intro hA (And.intro hp (And.intro hpn hpne)))
    clear KC hA hp hpn hpne hP
    by_cases hle : P ≤ N
    · have hc0 : cmpN P N ≤ 0 := by
        rcases Nat.lt_trichotomy P N with h | h | h
        · rw [cmpN_lt h]; decide
        · rw [cmpN_eq h]; decide
        · omega
      generalize cmpN P N = cc at *
      go_wp2_with fail
      refine (unhide KC').mono ?_
      rintro _ w1 ⟨rfl, j, hw1⟩
      have hb1 : Below wr.heap.size wr w1 := by rw [hw1]; exact bel_drewN (Below.refl _ _) j
      have hA1 := (unhide HA).1.keep hb1
      have g3 := hA1.st.c3
      have hNb : N < 4294967296 ^ n := by
        have h1 := val_lt ox
        rw [unhide HNe, unhide HL] at h1
        exact h1
      have hmp : mp ≤ n := by
        have h1 := rep_len_leS (limbs_rep P) (j := n) (by omega)
        have h2 := (unhide HA).2.1.len
        omega
      have hk6 : k ≤ 32 * n := pow_small (wt := wt) (by omega) (by rw [← pow_limb]; exact hNb) hA1.le
      have hpw : PwAt w1 w.heap.size (.slice av k cv) (ap, mp) (wt ^ 2 ^ k) := ⟨by rw [unhide HP]; exact (unhide HA).2.1.below hb1, by omega, (unhide HA).2.2.1, (unhide HA).2.2.2⟩
      have HA1 := hide (And.intro hA1 hpw)
      have hsz := hA1.st.lt
      have HNb := hide hNb
      have hA1o := hide hA1.own
      clear hA1 hpw hb1 hw1 KC' HA hNb
      have hk7 : k ≤ 65536 := by omega
      clear hk6
      go_wp2_with (at_builtin; refine wpList_append_lies _ rfl _ _ 27 rfl (w.heap.size + 2) 50 i23 (.slice none 0 0) 1 24 Tryz.underlying27 (unhide I23).1 (unhide I23).2.1 (unhide I23).2.2.1 (unhide I23).2.2.2 rfl (by decide) _ k _ rfl ((unhide hA1o).alloc _) ⟨w1.heap.size, 0, none⟩ 1 1 [.slice ap mp mp] rfl rfl (World.news_of_block (alloc_block _ _)) one_slice (by decide) ?c31 ?c41 ?c51 (w1.heap.size + 1) (by simp) ?_)
      case c31 => unfold maxLen; omega
      case c41 => omega
      case c51 => simp; omega
      intro g1' cc' w2 hown hgrow hat hlt2
      obtain ⟨hA2, hp2, m1, m2⟩ := (unhide HA1).1.push (unhide HA1).2 (by omega) (by rw [unhide HP]; exact hle) hown hgrow hat
      have HA2 := hide (And.intro hA2 hp2)
      clear hown hgrow hat hlt2 hA2 hp2 HA1 hA1o
      have hmp1 : 1 ≤ mp := by
        have h2 := (unhide HA2).2.sl.len
        rcases Nat.eq_zero_or_pos mp with e | e
        · exfalso
          rw [e, unhide HP] at h2
          exact limbs_ne0 (by omega) (List.eq_nil_of_length_eq_zero h2)
        · exact e
      by_cases hbrk : n < 2 * mp - 1
      · have hbrk' : (n:Int) < 2 * (mp:Int) - 1 := by omega
        have hNPP : N < wt ^ 2 ^ (k + 1) := by
          rw [pow_next, unhide HP]
          have h1 := val_ge_of_norm (limbs_rep P).norm (limbs_ne0 (v := P) (by omega))
          have h2 := (unhide HA2).2.sl.len
          rw [unhide HP] at h2
          rw [(limbs_rep P).val, h2] at h1
          have h3 : 4294967296 ^ n ≤ 4294967296 ^ (mp - 1 + (mp - 1)) := pow_mono (by omega)
          rw [Nat.pow_add] at h3
          have h4 : 4294967296 ^ (mp - 1) * 4294967296 ^ (mp - 1) ≤ P * P := Nat.mul_le_mul h1 h1
          have := unhide HNb
          omega
        have HNPP := hide hNPP
        clear hNPP
        have hA2 := (unhide HA2).1
        generalize hW : w2.setCell ⟨w.heap.size + 1, 3, none⟩ (.slice (some ⟨g1', 0, none⟩) (k + 1) cc') = W at *
        have HW := hW
        have g0 := hA2.st.c0
        have g1 := hA2.st.c1
        have g2 := hA2.st.c2
        have g3' := hA2.st.c3
        obtain ⟨⟨r0, k0⟩, f0⟩ := hA2.rs 0 (by decide)
        obtain ⟨⟨r1, k1⟩, f1⟩ := hA2.rs 1 (by decide)
        obtain ⟨⟨r2, k2⟩, f2⟩ := hA2.rs 2 (by decide)
        obtain ⟨⟨r3, k3⟩, f3⟩ := hA2.rs 3 (by decide)
        have H4 := hide (four_set W w.heap.size (.int .i64 (b : Nat)) (.int .i64 (cnt : Nat)) (.int .u32 (wt : Nat)) (.slice (some ⟨g1', 0, none⟩) (k + 1) cc') (fun i hi => (hA2.rs i hi).1))
        clear hA2
        go_wp2_with fail
        obtain ⟨p0, p1, p2, p3, c4⟩ := unhide H4
        generalize (((W.setCell ⟨w.heap.size, 0, none⟩ (.int .i64 (b : Nat))).setCell ⟨w.heap.size, 1, none⟩ (.int .i64 (cnt : Nat))).setCell ⟨w.heap.size, 2, none⟩ (.int .u32 (wt : Nat))).setCell ⟨w.heap.size, 3, none⟩ (.slice (some ⟨g1', 0, none⟩) (k + 1) cc') = wf at *
        try simp only [Exit.inBlock, Exit.then]
        refine bodyPost_ret (by simp [results, Tryz.results126, go_sem, p0, p1, p2, p3]; try rfl) rfl ?_
        exact ⟨cnt, wt, k + 1, _, rfl, (unhide HA2).1.done (unhide HC) (unhide HWT) (by omega) (unhide HNPP) wf c4⟩
      · have hbrk' : ¬ (n:Int) < 2 * (mp:Int) - 1 := by omega
        have hp2 := (unhide HA2).2
        generalize hW : w2.setCell ⟨w.heap.size + 1, 3, none⟩ (.slice (some ⟨g1', 0, none⟩) (k + 1) cc') = W at *
        have HW := hW
        have hsl := hp2.sl
        rw [unhide HP] at hsl
        have KM := multiply_any ap ap mp mp mp mp (limbs P) (limbs P) W hsl hsl (limbs_rep P).ok (limbs_rep P).ok (by omega)
        rw [(limbs_rep P).val] at KM
        have KM' := hide KM
        clear KM hsl hp2
        go_wp2_with fail
        refine (unhide KM').mono ?_
        rintro _ w3 ⟨a3, m3, z3, rfl, s3, r3, n3, b3⟩
        rw [r3.eq] at s3
        have hA3 := (unhide HA2).1.keep b3
        have hWs := (unhide HA2).1.st.lt
        have hob := own_ge (unhide HA2).1.own
        have HA3 := hide (show NwA w3 w b cnt wt N (k + 1) (.slice (some ⟨g1', 0, none⟩) (k + 1) cc') (es ++ [(ap, mp)]) ∧ Sl w3 a3 m3 m3 (limbs (wt ^ 2 ^ (k + 1))) ∧ (∀ x, a3 = some x → w.heap.size + 2 ≤ x.block) ∧ (∀ x, a3 = some x → (Value.slice (some ⟨g1', 0, none⟩) (k + 1) cc').ownBlock ≠ some x.block) from
          ⟨hA3, by rw [pow_next, unhide HP]; exact s3, fun x hx => by have := n3 x hx; omega, fun x hx e => by have h1 := n3 x hx; have h2 := (hob _ e).2; omega⟩)
        have hPP : P < P * P := by
          have := Nat.mul_le_mul_left P hP2
          omega
        have HPP := hide (show N + 1 - wt ^ 2 ^ (k + 1) < N + 1 - P from by rw [pow_next, unhide HP]; omega)
        obtain ⟨Z, hZ⟩ : ∃ Z, N + 1 - wt ^ 2 ^ (k + 1) = Z := ⟨_, rfl⟩
        have HZ := hide hZ
        clear hA3 s3 r3 n3 b3 hob KM' hZ hPP
        go_wp2_with fail
        go_roundg Z
        case measure => rw [← unhide HZ]; exact Nat.lt_of_lt_of_le (unhide HPP) hgq
        case rel => exact ⟨k + 1, _, _, a3, m3, rfl, by rw [unhide HZ]; exact Nat.le_refl _, (unhide HA3).1, (unhide HA3).2.1, (unhide HA3).2.2.1, (unhide HA3).2.2.2⟩
    · have hc0 : ¬ cmpN P N ≤ 0 := by rw [cmpN_gt (by omega)]; decide
      generalize cmpN P N = cc at *
      go_wp2_with fail
      refine (unhide KC').mono ?_
      rintro _ w1 ⟨rfl, j, hw1⟩
      have hb1 : Below wr.heap.size wr w1 := by rw [hw1]; exact bel_drewN (Below.refl _ _) j
      have hA1 := (unhide HA).1.keep hb1
      have HA1 := hide hA1
      have g0 := hA1.st.c0
      have g1 := hA1.st.c1
      have g2 := hA1.st.c2
      have g3 := hA1.st.c3
      obtain ⟨⟨r0, k0⟩, f0⟩ := hA1.rs 0 (by decide)
      obtain ⟨⟨r1, k1⟩, f1⟩ := hA1.rs 1 (by decide)
      obtain ⟨⟨r2, k2⟩, f2⟩ := hA1.rs 2 (by decide)
      obtain ⟨⟨r3, k3⟩, f3⟩ := hA1.rs 3 (by decide)
      have H4 := hide (four_set w1 w.heap.size (.int .i64 (b : Nat)) (.int .i64 (cnt : Nat)) (.int .u32 (wt : Nat)) (.slice av k cv) (fun i hi => (hA1.rs i hi).1))
      clear hA1 hb1 hw1 KC' HA
      go_wp2_with fail
      obtain ⟨p0, p1, p2, p3, c4⟩ := unhide H4
      generalize (((w1.setCell ⟨w.heap.size, 0, none⟩ (.int .i64 (b : Nat))).setCell ⟨w.heap.size, 1, none⟩ (.int .i64 (cnt : Nat))).setCell ⟨w.heap.size, 2, none⟩ (.int .u32 (wt : Nat))).setCell ⟨w.heap.size, 3, none⟩ (.slice av k cv) = wf at *
      try simp only [Exit.inBlock, Exit.then]
      refine bodyPost_ret (by simp [results, Tryz.results126, go_sem, p0, p1, p2, p3]; try rfl) rfl ?_
      exact ⟨cnt, wt, k, _, rfl, (unhide HA1).done (unhide HC) (unhide HWT) (by omega) (by rw [unhide HP]; omega) wf c4⟩
end Go.Proofs.YtpicknbdfjjflaaGreatDoor
