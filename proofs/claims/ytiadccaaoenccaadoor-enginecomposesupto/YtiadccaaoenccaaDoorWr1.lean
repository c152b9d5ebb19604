/- Wi5 -/
import Derived.Test.YtiadccaaoenccaaDoorWi4
import Derived.Test.YtiadccaaoenccaaDoorShl
import Derived.Test.YtiadccaaoenccaaDoorBase
import Derived.Deep.RegionHeld3
import Derived.Test.YtiadccaaoenccaaDoorCmp
import Derived.Test.YtiadccaaoenccaaDoorGiv
import Derived.Test.YtiadccaaoenccaaDoorNMul
namespace Go.Proofs.YtiadccaaoenccaaDoor
open Go.RowKit Go.Deep
set_option linter.unusedVariables false
theorem wv_zero : ∀ (l : List Pc), (∀ p ∈ l, p.xs = []) → wv l = 0
  | [], _ => rfl
  | p :: l, h => by
    simp only [wv]
    rw [h p (by simp), wv_zero l (fun q hq => h q (by simp [hq])), Nat.mul_zero]
    rfl
theorem wv_append (l m : List Pc) : wv (l ++ m) = wv l + wD ^ l.length * wv m := by
  induction l with
  | nil => simp [wv]
  | cons q l ih =>
    simp only [List.cons_append, wv, ih, List.length_cons, Nat.pow_succ, Nat.mul_add]
    rw [Nat.add_assoc, Nat.mul_comm (wD ^ l.length) wD, Nat.mul_assoc]
theorem Trimmed.wv {ps qs : List Pc} {m : Nat} (h : Trimmed ps qs m) : wv qs = Go.Proofs.YtiadccaaoenccaaDoor.wv ps := by
  have e : ps = ps.take m ++ ps.drop m := (List.take_append_drop m ps).symm
  rw [h.eq]
  conv => rhs; rw [e]
  rw [wv_append, wv_zero (ps.drop m) (fun p hp => ?_), Nat.mul_zero, Nat.add_zero]
  obtain ⟨i, hi⟩ := List.mem_iff_getElem?.1 hp
  rw [List.getElem?_drop] at hi
  exact h.zero (m + i) p (by omega) hi
def slV (p : Pc) : Value := .slice p.a p.n p.c
structure Dig (w : World) (g : Nat) (p : Pc) : Prop where
  sl : Sl w p.a p.n p.c p.xs
  ok : Ok p.xs
  norm : Norm p.xs
  len : p.n ≤ dLimbs
  off : p.xs ≠ [] → ∀ x, p.a = some x → x.block ≠ g
theorem Dig.below {w w' : World} {g : Nat} {p : Pc} (h : Dig w g p) (k : Below w.heap.size w w') : Dig w' g p := ⟨h.sl.below k, h.ok, h.norm, h.len, h.off⟩
theorem chg_grownR {w w' : World} {g : Nat} (h : w.grownBy w' (some g)) : Chg (fun k => k = g) w w' :=
  ⟨h.os, h.tape, h.output, h.size, fun k hk hs => h.block k hk (fun e => hs (by simpa using e))⟩
theorem Dig.grown {w w' : World} {g : Nat} {p : Pc} (h : Dig w g p) (k : w.grownBy w' (some g)) : Dig w' g p :=
  ⟨h.sl.chg (chg_grownR k) (fun x hx hn => h.off hn x hx), h.ok, h.norm, h.len, h.off⟩
structure RowD (w wr : World) (g cap : Nat) (acc : List Pc) : Prop where
  own : wr.ownsRow w.heap.size 50 1 (.slice (some ⟨g, 0, none⟩) acc.length cap) acc.length (acc.map slV)
  each : ∀ p ∈ acc, Dig wr g p
  bel : Below w.heap.size w wr
  lt : g < wr.heap.size
  ge : w.heap.size ≤ g
theorem own_belR {w w2 : World} {B : Nat} {e : TypeId} {sz : Nat} {v : Value} {n : Nat} {xs : List Value} (h : w.ownsRow B e sz v n xs) (hb : Below w.heap.size w w2) : w2.ownsRow B e sz v n xs := by
  rcases h with ⟨h1, h2 | ⟨g, cap, cur, e1, q1, q2, q3⟩⟩
  · exact ⟨h1, .inl h2⟩
  · refine ⟨h1, .inr ⟨g, cap, cur, e1, q1, ?_, q3⟩⟩
    rw [hb.block g (Array.getElem?_eq_some_iff.1 q2).1]
    exact q2
theorem RowD.below {w wr w2 : World} {g cap : Nat} {acc : List Pc} (h : RowD w wr g cap acc) (hb : Below wr.heap.size wr w2) : RowD w w2 g cap acc :=
  ⟨own_belR h.own hb, fun p hp => (h.each p hp).below hb, h.bel.trans (hb.mono h.bel.size), Nat.lt_of_lt_of_le h.lt hb.size, h.ge⟩
theorem RowD.app {w wr w2 : World} {g cap : Nat} {acc : List Pc} {p : Pc} {o : Obj} (h : RowD w wr g cap acc) (hp : Dig wr g p) (hown : w2.ownsRow w.heap.size 50 1 (.slice (some ⟨g, 0, none⟩) (acc.length + 1) cap) (acc.length + 1) (acc.map slV ++ [slV p])) (hg : (wr.alloc o).grownBy w2 (some g)) : RowD w w2 g cap (acc ++ [p]) := by
  have hal := h.below ((Below.refl wr.heap.size wr).alloc (Nat.le_refl _) o)
  refine ⟨?_, fun q hq => ?_, ?_, Nat.lt_of_lt_of_le hal.lt hg.size, h.ge⟩
  · simpa using hown
  · rcases List.mem_append.1 hq with c | c
    · exact (hal.each q c).grown hg
    · rw [List.mem_singleton.1 c]
      exact (hp.below ((Below.refl wr.heap.size wr).alloc (Nat.le_refl _) o)).grown hg
  · have hc := chg_grownR hg
    exact ⟨hc.os.trans hal.bel.os, hc.tape.trans hal.bel.tape, hc.output.trans hal.bel.output, Nat.le_trans hal.bel.size hc.size, fun k hk => by
      have hge := h.ge
      rw [hc.block k (Nat.lt_of_lt_of_le hk hal.bel.size) (by omega)]
      exact hal.bel.block k hk⟩
theorem RowD.sl {w wr : World} {g cap : Nat} {acc : List Pc} (h : RowD w wr g cap acc) : SlL wr (some ⟨g, 0, none⟩) acc.length cap acc := by
  rcases h.own.2 with ⟨e, _⟩ | ⟨g', cap', cur, e, q1, q2, q3, q4, q5, q6⟩
  · cases e
  · simp only [Value.slice.injEq, Option.some.injEq, Addr.mk.injEq, and_true, true_and] at e
    obtain ⟨rfl, rfl⟩ := e
    refine ⟨rfl, q3, .inr ⟨g, 0, rfl, fun i p hp => ?_⟩, fun p hp => ⟨(h.each p hp).sl, (h.each p hp).ok⟩⟩
    have hi : i < acc.length := (List.getElem?_eq_some_iff.1 hp).1
    have h2 : (acc.map slV)[i]? = some (slV p) := by rw [List.getElem?_map, hp]; rfl
    rw [← q6, Nat.mul_one, List.getElem?_take_of_lt hi] at h2
    simp only [World.cell?, q2, Nat.zero_add]
    simpa [slV] using h2
end Go.Proofs.YtiadccaaoenccaaDoor

namespace Go.Proofs.YtiadccaaoenccaaDoor
open Go.RowKit Go.Deep
set_option linter.unusedVariables false

end Go.Proofs.YtiadccaaoenccaaDoor

namespace Go.Proofs.YtiadccaaoenccaaDoor
open Go.RowKit Go.Deep
set_option linter.unusedVariables false

end Go.Proofs.YtiadccaaoenccaaDoor

namespace Go.Proofs.YtiadccaaoenccaaDoor
open Go.RowKit Go.Deep
set_option linter.unusedVariables false

end Go.Proofs.YtiadccaaoenccaaDoor
namespace Go.Proofs.YtiadccaaoenccaaDoor
open Go.RowKit Go.Deep
set_option linter.unusedVariables false
theorem RowD.put {w wr : World} {g cap i : Nat} {acc : List Pc} {p : Pc} (h : RowD w wr g cap acc) (hi : i < acc.length) (hp : Dig wr g p) : RowD w (wr.setCell ⟨g, i, none⟩ (slV p)) g cap (acc.set i p) := by
  have hc : Chg (fun k => k = g) wr (wr.setCell ⟨g, i, none⟩ (slV p)) := Chg.of_set (S := fun k => k = g) _ _ _ _ rfl
  have dk : ∀ q, Dig wr g q → Dig (wr.setCell ⟨g, i, none⟩ (slV p)) g q := fun q hq => ⟨hq.sl.chg hc (fun x hx hn => hq.off hn x hx), hq.ok, hq.norm, hq.len, hq.off⟩
  refine ⟨?_, fun q hq => ?_, h.bel.setCell (p := ⟨g, i, none⟩) h.ge _, by simpa using h.lt, h.ge⟩
  · rcases h.own with ⟨e0, ⟨e, _⟩ | ⟨g', cap', cur, e, q1, q2, q3, q4, q5, q6⟩⟩
    · cases e
    · simp only [Value.slice.injEq, Option.some.injEq, Addr.mk.injEq, and_true, true_and] at e
      obtain ⟨rfl, rfl⟩ := e
      refine ⟨by simp, .inr ⟨g, cap, cur.setIfInBounds i (slV p), by simp, q1, ?_, by simpa using q3, q4, by simpa using q5, ?_⟩⟩
      · exact heap_setCell_same _ _ _ _ _ _ q2
      · rw [List.length_set, Array.toList_setIfInBounds, List.take_set, q6]
        simp
  · rcases List.mem_or_eq_of_mem_set hq with c | c
    · exact dk q (h.each q c)
    · rw [c]; exact dk p hp
theorem RowD.at {w wr : World} {g cap i : Nat} {acc : List Pc} (h : RowD w wr g cap acc) (hi : i < acc.length) : (∃ v, wr.cell? ⟨g, i, none⟩ = some v) ∧ wr.frozen? ⟨g, i, none⟩ = false := by
  rcases h.own with ⟨e0, ⟨e, _⟩ | ⟨g', cap', cur, e, q1, q2, q3, q4, q5, q6⟩⟩
  · cases e
  · simp only [Value.slice.injEq, Option.some.injEq, Addr.mk.injEq, and_true, true_and] at e
    obtain ⟨rfl, rfl⟩ := e
    have hc : i < cur.size := by omega
    exact ⟨⟨cur[i], by simp [World.cell?, q2, hc]⟩, by simp [World.frozen?, q2]⟩
end Go.Proofs.YtiadccaaoenccaaDoor

namespace Go.Proofs.YtiadccaaoenccaaDoor
open Go.RowKit Go.Deep
set_option linter.unusedVariables false

end Go.Proofs.YtiadccaaoenccaaDoor
namespace Go.Proofs.YtiadccaaoenccaaDoor
open Go.RowKit Go.Deep
set_option linter.unusedVariables false
structure Ext (w0 : World) where
  w : World
  bel : Below w0.heap.size w0 w
theorem Ext.ne (w : World) : Nonempty (Ext w) := ⟨⟨w, Below.refl _ _⟩⟩
section
variable {P : Program}
theorem wp_region_ext {id : Nat} {Q : Exit → Act → World → Prop} {a : Act} {w : World} {l : List Oper} (hm : P.follows .mixedOrders = true) (hB : Region.lexB .any l.toArray = true)
    (h : wpQuiet P l.toArray (fun w' => ∃ x : Ext w, w' = x.w) (fun a' => ∀ w', (∃ x : Ext w, w' = x.w) → Q .normal a' w') l a) : (Code.region id l.toArray true).wp P Q a w :=
  wp_region_quiet (C := fun w' => ∃ x : Ext w, w' = x.w) hm hB ⟨⟨w.drew, (Below.refl _ _).drew⟩, rfl⟩ (by simpa using h)
end
theorem Ext.call {P : Program} {f : FuncId} {args : Array Value} {w : World} {x : Ext w} {v : Value} {R : Ending → World → Prop} (h : Calls P f args x.w R) (hR : ∀ e w', R e w' → e = .returned v ∧ Below x.w.heap.size x.w w') :
    Calls P f args x.w fun e w'' => e = .returned v ∧ ∃ y : Ext w, w'' = y.w :=
  h.mono fun e w' hr => ⟨(hR e w' hr).1, ⟨⟨w', x.bel.trans ((hR e w' hr).2.mono x.bel.size)⟩, rfl⟩⟩
theorem Ext.cell {w : World} (x : Ext w) {p : Addr} {v : Value} (h : w.cell? p = some v) : x.w.cell? p = some v := (x.bel.cell (p := p) (World.block_lt_of_cell? _ _ h)).trans h
end Go.Proofs.YtiadccaaoenccaaDoor

namespace Go.Proofs.YtiadccaaoenccaaDoor
open Go.RowKit Go.Deep
set_option linter.unusedVariables false

end Go.Proofs.YtiadccaaoenccaaDoor
namespace Go.Proofs.YtiadccaaoenccaaDoor
open Go.RowKit Go.Deep
set_option linter.unusedVariables false
theorem MayR.parts {g : Bool} {x y : List Nat} (h : MayR g x y = true) : MayL x = true ∧ MayL y = true ∧ y ≠ [] ∧ (g = true → x ≠ []) ∧ Nat.gcd (val x) (val y) = 1 := by
  unfold MayR at h
  simp only [Bool.and_eq_true, Bool.not_eq_true', decide_eq_false_iff_not, decide_eq_true_eq] at h
  obtain ⟨⟨⟨⟨h1, h2⟩, h3⟩, h4⟩, h5⟩ := h
  refine ⟨h1, h2, h3, fun hg hx => ?_, h5⟩
  rw [hg, hx] at h4
  simp at h4
end Go.Proofs.YtiadccaaoenccaaDoor

namespace Go.Proofs.YtiadccaaoenccaaDoor
open Go.RowKit Go.Deep
set_option linter.unusedVariables false

end Go.Proofs.YtiadccaaoenccaaDoor
namespace Go.Proofs.YtiadccaaoenccaaDoor
open Go.RowKit Go.Deep
set_option linter.unusedVariables false
def Ow (w : World) (B : Nat) (a : Option Addr) (n c : Nat) (xs : List Nat) : Prop := w.ownsRow B 74 1 (.slice a n c) n (vals xs)
def AtB (a : Option Addr) (k : Nat) : Prop := ∃ x, a = some x ∧ x.block = k
theorem atB_some {g o : Nat} : AtB (some ⟨g, o, none⟩) g := ⟨_, rfl, rfl⟩
theorem atB_is {g o k : Nat} (h : AtB (some ⟨g, o, none⟩) k) : k = g := by obtain ⟨x, e, rfl⟩ := h; cases e; rfl
theorem atB_none {k : Nat} (h : AtB none k) : False := by obtain ⟨x, e, _⟩ := h; cases e
theorem atB_own {a : Option Addr} {n c k : Nat} : (Value.slice a n c).ownBlock = some k ↔ AtB a k := by
  cases a with
  | none => exact ⟨fun h => (by cases h), fun h => (atB_none h).elim⟩
  | some x => exact ⟨fun h => ⟨x, rfl, by simpa [Value.ownBlock] using h⟩, fun ⟨y, e, h⟩ => (by cases e; simp [Value.ownBlock, h])⟩

theorem Ow.nil (w : World) (B : Nat) : Ow w B none 0 0 [] := World.ownsRow_nil _ _ _ _
theorem Ow.len {w : World} {B n c : Nat} {a : Option Addr} {xs : List Nat} (h : Ow w B a n c xs) : xs.length = n := by have := h.1; simpa [vals] using this
theorem Ow.sl {w : World} {B n c : Nat} {a : Option Addr} {xs : List Nat} (h : Ow w B a n c xs) : Sl w a n c xs := by
  obtain ⟨a', c', e, k, _⟩ := own_sl h
  cases e; exact k
theorem Ow.new {w : World} {B n c : Nat} {a : Option Addr} {xs : List Nat} (h : Ow w B a n c xs) : NewAt B a := by
  obtain ⟨a', c', e, _, k⟩ := own_sl h
  cases e; exact k
theorem Ow.lt {w : World} {B n c k : Nat} {a : Option Addr} {xs : List Nat} (h : Ow w B a n c xs) (hk : AtB a k) : B ≤ k ∧ k < w.heap.size := own_ge h k (atB_own.2 hk)
theorem Ow.mono {w : World} {B B' n c : Nat} {a : Option Addr} {xs : List Nat} (h : Ow w B a n c xs) (hb : B' ≤ B) : Ow w B' a n c xs :=
  ⟨h.1, h.2.imp id (fun ⟨g, cap, cur, e, h1, h2⟩ => ⟨g, cap, cur, e, Nat.le_trans hb h1, h2⟩)⟩
theorem Ow.chg {S : Nat → Prop} {w w' : World} {B n c : Nat} {a : Option Addr} {xs : List Nat} (h : Ow w B a n c xs) (k : Chg S w w') (hs : ∀ k, AtB a k → ¬ S k) : Ow w' B a n c xs :=
  ownsRow_chg h k (fun k hk => hs k (atB_own.1 hk))
theorem Ow.below {w w' : World} {B n c : Nat} {a : Option Addr} {xs : List Nat} (h : Ow w B a n c xs) (k : Below w.heap.size w w') : Ow w' B a n c xs :=
  h.chg (S := fun _ => False) (.of_below k) (fun _ _ => id)
theorem Ow.form {w : World} {B n c : Nat} {a : Option Addr} {xs : List Nat} (h : Ow w B a n c xs) (hn : 0 < n) : ∃ g, a = some ⟨g, 0, none⟩ ∧ B ≤ g ∧ g < w.heap.size := by
  obtain ⟨g, cap, e, h1, h2⟩ := World.ownsRow.form h hn
  cases e
  exact ⟨g, rfl, h1, h2⟩
theorem Ow.shape {w : World} {B n c : Nat} {a : Option Addr} {xs : List Nat} (h : Ow w B a n c xs) : (a = none ∧ n = 0 ∧ c = 0) ∨ ∃ g, a = some ⟨g, 0, none⟩ := by
  rcases h.2 with ⟨e, h0⟩ | ⟨g, cap, cur, e, _⟩
  · cases e; exact .inl ⟨rfl, rfl, rfl⟩
  · cases e; exact .inr ⟨g, rfl⟩
theorem Ow.cell {w : World} {B g n c i : Nat} {xs : List Nat} (h : Ow w B (some ⟨g, 0, none⟩) n c xs) (hi : i < n) : w.cell? ⟨g, i, none⟩ = some (.int .u32 (xs.getD i 0 : Nat)) := by
  have := World.ownsRow.cellAt h i (by omega)
  rw [this, vals_get (by rw [h.len]; exact hi)]
theorem Ow.froz {w : World} {B g n c i : Nat} {xs : List Nat} (h : Ow w B (some ⟨g, 0, none⟩) n c xs) : w.frozen? ⟨g, i, none⟩ = false := World.ownsRow.frozenAt h i
theorem Ow.set {w : World} {B g n c : Nat} {xs : List Nat} (h : Ow w B (some ⟨g, 0, none⟩) n c xs) (j x : Nat) : Ow (w.setCell ⟨g, j, none⟩ (.int .u32 (x : Nat))) B (some ⟨g, 0, none⟩) n c (xs.set j x) := by
  have := (World.ownsRow.stored h j (.int .u32 (x : Nat))).1
  have e : (vals xs).set j (.int .u32 (x : Nat)) = vals (xs.set j x) := by simp [vals, List.map_set]
  rw [e] at this
  exact this
theorem Ow.take {w : World} {B n c m : Nat} {a : Option Addr} {xs : List Nat} (h : Ow w B a n c xs) (hm : m ≤ n) : Ow w B a m c (xs.take m) := by
  have hl := h.len
  refine ⟨by simp [vals, hl]; omega, ?_⟩
  rcases h.2 with ⟨e, h0⟩ | ⟨g, cap, cur, e, h1, h2, h3, h4, h5, h6⟩
  · cases e; left; exact ⟨by congr; omega, by omega⟩
  · cases e
    right
    refine ⟨g, c, cur, rfl, h1, h2, by omega, h4, h5, ?_⟩
    have e2 : vals (xs.take m) = (vals xs).take m := by simp [vals]
    rw [e2, ← h6, List.take_take]
    congr 1; omega
theorem Ow.made (w : World) (n : Nat) (hn : n ≤ 70368744177600) : Ow (w.alloc (.cells (madeCells #[.int .u32 0] n) 74)) w.heap.size (some ⟨w.heap.size, 0, none⟩) n n (List.replicate n 0) := by
  have := World.ownsRow_lit (base := w.heap.size) (e := 74) (size := 1) w (madeCells #[.int .u32 0] n) n (Nat.le_refl _) (by unfold maxLen; omega) (by simp [madeCells])
  rw [toList_madeCells_one] at this
  have e : vals (List.replicate n 0) = List.replicate n (.int .u32 0) := by simp [vals]
  unfold Ow
  rw [e]
  exact this

theorem TrimAt.limbs {xs : List Nat} {m : Nat} (h : TrimAt xs m) (ok : Ok xs) : xs.take m = limbs (val xs) := (h.rep ok).eq
theorem limbs_ok (v : Nat) : Ok (limbs v) := (limbs_rep v).ok
theorem limbs_norm (v : Nat) : Norm (limbs v) := (limbs_rep v).norm
theorem limbs_v (v : Nat) : val (limbs v) = v := (limbs_rep v).val
theorem limbs_len {v j : Nat} (hv : v < 4294967296 ^ j) : (limbs v).length ≤ j := by
  rcases Nat.lt_or_ge j (limbs v).length with k | k
  · exfalso
    have hz : limbs v ≠ [] := by intro e; rw [e] at k; simp at k
    have h1 := val_ge_of_norm (limbs_norm v) hz
    rw [limbs_v] at h1
    have h2 : 4294967296 ^ j ≤ 4294967296 ^ ((limbs v).length - 1) := Nat.pow_le_pow_right (by decide) (by omega)
    omega
  · exact k
theorem limbs_lt (v : Nat) : v < 4294967296 ^ (limbs v).length := by have := val_lt (limbs_ok v); rwa [limbs_v] at this
theorem limbs_eq_nil {v : Nat} : limbs v = [] ↔ v = 0 := by
  constructor
  · intro h; have := limbs_v v; rw [h] at this; exact this.symm
  · rintro rfl; rfl

set_option maxHeartbeats 400000 in
theorem wnorm_some (b off n c : Nat) (xs : List Nat) (w : World) (hn : xs.length = n) (hnc : n ≤ c) (hcm : c ≤ maxLen) (hc : Cells w b off xs) :
    Calls Tryd.prog 70 #[.slice (some ⟨b, off, none⟩) n c] w fun e w' => ∃ m, TrimAt xs m ∧ e = .returned (.slice (some ⟨b, off, none⟩) m c) ∧ w' = w := by
  unfold maxLen at hcm
  go_enter Tryd.func70, Tryd.ntmps70
  go_wp2
  go_loop [3] (fun i => ∃ k : Nat, k ≤ n ∧ i = .int .i64 k ∧ ∀ j, k ≤ j → xs.getD j 0 = 0) (fun i => (intOf i).toNat)
  case atStart => exact ⟨n, Nat.le_refl _, rfl, fun j hj => getD_ge (by omega)⟩
  case round =>
    obtain ⟨k, hk, rfl, hz⟩ := hrel
    by_cases h0 : k = 0
    · subst h0
      go_wp2
      go_ret
      exact ⟨0, ⟨by omega, .inl rfl, hz⟩, rfl, rfl⟩
    · have hpos : (0:Int) < (k:Int) := by omega
      have hk1 : ((k:Int) - 1).toNat = k - 1 := by omega
      have hcell := hc (k - 1) (by omega)
      by_cases hx : xs.getD (k - 1) 0 = 0
      · rw [hx] at hcell
        have Hx : Hid (xs.getD (k - 1) 0 = 0) := hx
        clear hx
        go_wp2
        go_round
        case rel => exact ⟨k - 1, by omega, by congr 1; omega, fun j hj => by
          by_cases e : j = k - 1
          · rw [e]; exact Hx.out
          · exact hz j (by omega)⟩
        case measure => simp [intOf]; omega
      · have Hx : Hid (xs.getD (k - 1) 0 ≠ 0) := hx
        have hx' : (((xs.getD (k - 1) 0 : Nat) : Int) == 0) = false := by simp at hx ⊢; exact hx
        clear hx
        generalize hg : (((xs.getD (k - 1) 0 : Nat) : Int)) = g at hcell hx'
        clear hg
        go_wp2
        go_ret
        exact ⟨k, ⟨by omega, .inr Hx.out, hz⟩, rfl, rfl⟩

theorem wnorm_nil (w : World) :
    Calls Tryd.prog 70 #[.slice none 0 0] w fun e w' => e = .returned (.slice none 0 0) ∧ w' = w := by
  go_enter Tryd.func70, Tryd.ntmps70
  go_wp2
  go_loop [3] (fun i => i = .int .i64 0) (fun i => (intOf i).toNat)
  case atStart => rfl
  case round =>
    subst hrel
    go_wp2
    go_ret
    exact ⟨rfl, rfl⟩

theorem wnorm_any (a : Option Addr) (n c B : Nat) (xs : List Nat) (w : World) (h : Ow w B a n c xs) (ok : Ok xs) :
    Calls Tryd.prog 70 #[.slice a n c] w fun e w' => ∃ m, e = .returned (.slice a m c) ∧ m ≤ n ∧ Ow w B a m c (limbs (val xs)) ∧ w' = w := by
  rcases h.shape with ⟨rfl, rfl, rfl⟩ | ⟨g, rfl⟩
  · refine (wnorm_nil w).mono ?_
    rintro e w' ⟨rfl, rfl⟩
    have : xs = [] := List.eq_nil_of_length_eq_zero h.len
    subst this
    exact ⟨0, rfl, Nat.le_refl _, Ow.nil _ _, rfl⟩
  · have hs := h.sl
    refine (wnorm_some g 0 n c xs w hs.len hs.le hs.cap ?_).mono ?_
    · intro i hi
      have := h.cell (i := i) (by rw [← h.len]; exact hi)
      simpa using this
    · rintro e w' ⟨m, ht, rfl, rfl⟩
      have hm : m ≤ n := by have := ht.le; rw [h.len] at this; exact this
      refine ⟨m, rfl, hm, ?_, rfl⟩
      have := h.take hm
      rw [ht.limbs ok] at this
      exact this
end Go.Proofs.YtiadccaaoenccaaDoor
