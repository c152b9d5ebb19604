/- Ra3 -/
import Derived.Test.YtpicknbdfjjflaaGreatDoorRa2
import Derived.Test.YtpicknbdfjjflaaGreatDoorUpd
import Derived.Lib.LazyBuf
import Derived.Test.YtpicknbdfjjflaaGreatDoorShl
import Derived.Test.YtpicknbdfjjflaaGreatDoorNMul
namespace Go.Proofs.YtpicknbdfjjflaaGreatDoor
open Go.RowKit Go.Deep
set_option linter.unusedVariables false
section
variable {P : Program} {w : World}
end
def NewR (w w' : World) (neg : Bool) (xs ys : List Nat) (v : Value) : Prop :=
  ∃ a1 m1 c1 a2 m2 c2, v = ratV neg a1 m1 c1 a2 m2 c2 ∧ Sl w' a1 m1 c1 xs ∧ Sl w' a2 m2 c2 ys ∧ NewAt w.heap.size a1 ∧ NewAt w.heap.size a2 ∧ Below w.heap.size w w'

structure Box (w wa : World) (neg : Bool) (a1 : Option Addr) (n1 c1 : Nat) (a2 : Option Addr) (n2 c2 : Nat) : Prop where
  bel : Below w.heap.size w wa
  lt : w.heap.size < wa.heap.size
  d0 : wa.cell? ⟨w.heap.size, 0, none⟩ = some (.bool neg)
  d1 : wa.cell? ⟨w.heap.size, 1, none⟩ = some (.slice a1 n1 c1)
  d2 : wa.cell? ⟨w.heap.size, 2, none⟩ = some (.slice a2 n2 c2)

theorem Box.made (w : World) (neg : Bool) (a1 : Option Addr) (n1 c1 : Nat) (a2 : Option Addr) (n2 c2 : Nat) : Box w (ratBox w neg a1 n1 c1 a2 n2 c2) neg a1 n1 c1 a2 n2 c2 :=
  ⟨(Below.refl _ _).alloc (Nat.le_refl _) _, by simp [ratBox], by simp [ratBox], by simp [ratBox], by simp [ratBox]⟩
theorem Box.keep {w wa wb : World} {neg : Bool} {a1 : Option Addr} {n1 c1 : Nat} {a2 : Option Addr} {n2 c2 : Nat} (h : Box w wa neg a1 n1 c1 a2 n2 c2) (k : Below wa.heap.size wa wb) : Box w wb neg a1 n1 c1 a2 n2 c2 := by
  have hc : ∀ i, wb.cell? ⟨w.heap.size, i, none⟩ = wa.cell? ⟨w.heap.size, i, none⟩ := fun i => by unfold World.cell?; simp only; rw [k.block _ h.lt]
  exact ⟨h.bel.trans (k.mono h.bel.size), Nat.lt_of_lt_of_le h.lt k.size, (hc 0).trans h.d0, (hc 1).trans h.d1, (hc 2).trans h.d2⟩

theorem three_set (w1 : World) (R : Nat) (v0 v1 v2 : Value) (h : ∀ i, i < 3 → ∃ v, w1.cell? ⟨R, i, none⟩ = some v) :
    (((w1.setCell ⟨R, 0, none⟩ v0).setCell ⟨R, 1, none⟩ v1).setCell ⟨R, 2, none⟩ v2).cell? ⟨R, 0, none⟩ = some v0 ∧
    (((w1.setCell ⟨R, 0, none⟩ v0).setCell ⟨R, 1, none⟩ v1).setCell ⟨R, 2, none⟩ v2).cell? ⟨R, 1, none⟩ = some v1 ∧
    (((w1.setCell ⟨R, 0, none⟩ v0).setCell ⟨R, 1, none⟩ v1).setCell ⟨R, 2, none⟩ v2).cell? ⟨R, 2, none⟩ = some v2 ∧
    Chg (fun j => j = R) w1 (((w1.setCell ⟨R, 0, none⟩ v0).setCell ⟨R, 1, none⟩ v1).setCell ⟨R, 2, none⟩ v2) := by
  obtain ⟨x0, h0⟩ := h 0 (by decide)
  obtain ⟨x1, h1⟩ := h 1 (by decide)
  obtain ⟨x2, h2⟩ := h 2 (by decide)
  have s0 : (w1.setCell ⟨R, 0, none⟩ v0).cell? ⟨R, 0, none⟩ = some v0 := World.cell?_setCell_same _ _ _ h0
  have s1 : (w1.setCell ⟨R, 0, none⟩ v0).cell? ⟨R, 1, none⟩ = some x1 := by rw [World.cell?_setCell_other _ _ _ _ (by simp)]; exact h1
  have s2 : (w1.setCell ⟨R, 0, none⟩ v0).cell? ⟨R, 2, none⟩ = some x2 := by rw [World.cell?_setCell_other _ _ _ _ (by simp)]; exact h2
  have t1 : ((w1.setCell ⟨R, 0, none⟩ v0).setCell ⟨R, 1, none⟩ v1).cell? ⟨R, 1, none⟩ = some v1 := World.cell?_setCell_same _ _ _ s1
  have t2 : ((w1.setCell ⟨R, 0, none⟩ v0).setCell ⟨R, 1, none⟩ v1).cell? ⟨R, 2, none⟩ = some x2 := by rw [World.cell?_setCell_other _ _ _ _ (by simp)]; exact s2
  refine ⟨?_, ?_, World.cell?_setCell_same _ _ _ t2, ((Chg.of_set (S := fun j => j = R) _ _ _ _ rfl).trans (Chg.of_set (S := fun j => j = R) _ _ _ _ rfl)).trans (Chg.of_set (S := fun j => j = R) _ _ _ _ rfl)⟩
  · rw [World.cell?_setCell_other _ _ _ _ (by simp), World.cell?_setCell_other _ _ _ _ (by simp)]; exact s0
  · rw [World.cell?_setCell_other _ _ _ _ (by simp)]; exact t1

structure Out (w : World) (R : Nat) : Prop where
  cells : ∀ i, i < 3 → ∃ v, w.cell? ⟨R, i, none⟩ = some v
  fz : ∀ i, i < 3 → w.frozen? ⟨R, i, none⟩ = false
  lt : R < w.heap.size
theorem Out.made (w : World) : Out (w.alloc (.cells #[.bool false, .slice none 0 0, .slice none 0 0] 53)) w.heap.size := by
  refine ⟨fun i hi => ?_, fun i hi => ?_, by simp⟩
  · match i, hi with
    | 0, _ => exact ⟨.bool false, by simp⟩
    | 1, _ => exact ⟨.slice none 0 0, by simp⟩
    | 2, _ => exact ⟨.slice none 0 0, by simp⟩
  · match i, hi with
    | 0, _ => simp
    | 1, _ => simp
    | 2, _ => simp
theorem Out.keep {w w' : World} {R : Nat} (h : Out w R) (k : Below w.heap.size w w') : Out w' R := by
  refine ⟨fun i hi => ?_, fun i hi => ?_, Nat.lt_of_lt_of_le h.lt k.size⟩
  · obtain ⟨v, hv⟩ := h.cells i hi
    exact ⟨v, by rw [← hv]; unfold World.cell?; simp only; rw [k.block _ h.lt]⟩
  · rw [← h.fz i hi]; unfold World.frozen?; simp only; rw [k.block _ h.lt]



structure Trimmed (ps qs : List Pc) (m : Nat) : Prop where
  le : m ≤ ps.length
  eq : qs = ps.take m
  zero : ∀ i p, m ≤ i → ps[i]? = some p → p.xs = []
  top : m = 0 ∨ ∃ p, ps[m - 1]? = some p ∧ p.xs ≠ []

theorem SlL.take {w : World} {a : Option Addr} {n c : Nat} {ps : List Pc} (h : SlL w a n c ps) {m : Nat} (hm : m ≤ n) : SlL w a m c (ps.take m) := by
  have hl := h.len
  refine ⟨by rw [List.length_take]; omega, Nat.le_trans hm h.le, ?_, fun p hp => h.each p (List.mem_of_mem_take hp)⟩
  rcases h.cells with e | ⟨b, off, e, hc⟩
  · left; rw [e]; simp
  · right
    refine ⟨b, off, e, fun i p hp => hc i p ?_⟩
    rw [List.getElem?_take] at hp
    split at hp
    · exact hp
    · cases hp
def dLimbs : Nat := 1024
def wD : Nat := 4294967296 ^ dLimbs
def wv : List Pc → Nat
  | [] => 0
  | p :: ps => val p.xs + wD * wv ps

structure Wide (w : World) (a : Option Addr) (n c : Nat) (v : Nat) (ps : List Pc) : Prop where
  sl : SlL w a n c ps
  norm : ∀ p ∈ ps, Norm p.xs
  len : ∀ p ∈ ps, p.n ≤ dLimbs
  top : ps = [] ∨ ∃ p, ps.getLast? = some p ∧ p.xs ≠ []
  val : wv ps = v

theorem Wide.below {w w' : World} {a : Option Addr} {n c v : Nat} {ps : List Pc} (h : Wide w a n c v ps) (k : Below w.heap.size w w') : Wide w' a n c v ps := ⟨h.sl.below k, h.norm, h.len, h.top, h.val⟩


theorem wv_zero : ∀ (l : List Pc), (∀ p ∈ l, p.xs = []) → wv l = 0
  | [], _ => rfl
  | p :: l, h => by
    simp only [wv]
    rw [h p (by simp), wv_zero l (fun q hq => h q (by simp [hq])), Nat.mul_zero]
    rfl
theorem wv_append (l m : List Pc) : wv (l ++ m) = wv l + wD ^ l.length * wv m := by
  induction l with
  | nil => simp [wv]
  | cons q l ih =>
    simp only [List.cons_append, wv, ih, List.length_cons, Nat.pow_succ, Nat.mul_add]
    rw [Nat.add_assoc, Nat.mul_comm (wD ^ l.length) wD, Nat.mul_assoc]
theorem Trimmed.wv {ps qs : List Pc} {m : Nat} (h : Trimmed ps qs m) : wv qs = Go.Proofs.YtpicknbdfjjflaaGreatDoor.wv ps := by
  have e : ps = ps.take m ++ ps.drop m := (List.take_append_drop m ps).symm
  rw [h.eq]
  conv => rhs; rw [e]
  rw [wv_append, wv_zero (ps.drop m) (fun p hp => ?_), Nat.mul_zero, Nat.add_zero]
  obtain ⟨i, hi⟩ := List.mem_iff_getElem?.1 hp
  rw [List.getElem?_drop] at hi
  exact h.zero (m + i) p (by omega) hi
def slV (p : Pc) : Value := .slice p.a p.n p.c
structure Dig (w : World) (g : Nat) (p : Pc) : Prop where
  sl : Sl w p.a p.n p.c p.xs
  ok : Ok p.xs
  norm : Norm p.xs
  len : p.n ≤ dLimbs
  off : p.xs ≠ [] → ∀ x, p.a = some x → x.block ≠ g
theorem Dig.below {w w' : World} {g : Nat} {p : Pc} (h : Dig w g p) (k : Below w.heap.size w w') : Dig w' g p := ⟨h.sl.below k, h.ok, h.norm, h.len, h.off⟩
theorem chg_grownR {w w' : World} {g : Nat} (h : w.grownBy w' (some g)) : Chg (fun k => k = g) w w' :=
  ⟨h.os, h.tape, h.output, h.size, fun k hk hs => h.block k hk (fun e => hs (by simpa using e))⟩
theorem Dig.grown {w w' : World} {g : Nat} {p : Pc} (h : Dig w g p) (k : w.grownBy w' (some g)) : Dig w' g p :=
  ⟨h.sl.chg (chg_grownR k) (fun x hx hn => h.off hn x hx), h.ok, h.norm, h.len, h.off⟩
structure RowD (w wr : World) (g cap : Nat) (acc : List Pc) : Prop where
  own : wr.ownsRow w.heap.size 51 1 (.slice (some ⟨g, 0, none⟩) acc.length cap) acc.length (acc.map slV)
  each : ∀ p ∈ acc, Dig wr g p
  bel : Below w.heap.size w wr
  lt : g < wr.heap.size
  ge : w.heap.size ≤ g
theorem own_belR {w w2 : World} {B : Nat} {e : TypeId} {sz : Nat} {v : Value} {n : Nat} {xs : List Value} (h : w.ownsRow B e sz v n xs) (hb : Below w.heap.size w w2) : w2.ownsRow B e sz v n xs := by
  rcases h with ⟨h1, h2 | ⟨g, cap, cur, e1, q1, q2, q3⟩⟩
  · exact ⟨h1, .inl h2⟩
  · refine ⟨h1, .inr ⟨g, cap, cur, e1, q1, ?_, q3⟩⟩
    rw [hb.block g (Array.getElem?_eq_some_iff.1 q2).1]
    exact q2
theorem RowD.below {w wr w2 : World} {g cap : Nat} {acc : List Pc} (h : RowD w wr g cap acc) (hb : Below wr.heap.size wr w2) : RowD w w2 g cap acc :=
  ⟨own_belR h.own hb, fun p hp => (h.each p hp).below hb, h.bel.trans (hb.mono h.bel.size), Nat.lt_of_lt_of_le h.lt hb.size, h.ge⟩
theorem RowD.sl {w wr : World} {g cap : Nat} {acc : List Pc} (h : RowD w wr g cap acc) : SlL wr (some ⟨g, 0, none⟩) acc.length cap acc := by
  rcases h.own.2 with ⟨e, _⟩ | ⟨g', cap', cur, e, q1, q2, q3, q4, q5, q6⟩
  · cases e
  · simp only [Value.slice.injEq, Option.some.injEq, Addr.mk.injEq, and_true, true_and] at e
    obtain ⟨rfl, rfl⟩ := e
    refine ⟨rfl, q3, .inr ⟨g, 0, rfl, fun i p hp => ?_⟩, fun p hp => ⟨(h.each p hp).sl, (h.each p hp).ok⟩⟩
    have hi : i < acc.length := (List.getElem?_eq_some_iff.1 hp).1
    have h2 : (acc.map slV)[i]? = some (slV p) := by rw [List.getElem?_map, hp]; rfl
    rw [← q6, Nat.mul_one, List.getElem?_take_of_lt hi] at h2
    simp only [World.cell?, q2, Nat.zero_add]
    simpa [slV] using h2
end Go.Proofs.YtpicknbdfjjflaaGreatDoor
