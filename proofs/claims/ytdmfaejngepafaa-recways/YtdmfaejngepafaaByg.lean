/-
  bitset's reader: number: its contract.
-/
import Derived.Test.YtdmfaejngepafaaByf
namespace Go.Proofs.Ytdmfaejngepafaa
open Go.RowKit Go.Deep
set_option linter.unusedVariables false

/-- Three cells. -/
structure Thr (w : World) (R : Nat) (v0 v1 v2 : Value) : Prop where
  c0 : w.cell? ⟨R, 0, none⟩ = some v0
  c1 : w.cell? ⟨R, 1, none⟩ = some v1
  c2 : w.cell? ⟨R, 2, none⟩ = some v2
  f0 : w.frozen? ⟨R, 0, none⟩ = false
  f1 : w.frozen? ⟨R, 1, none⟩ = false
  f2 : w.frozen? ⟨R, 2, none⟩ = false
theorem Thr.lt {w : World} {R : Nat} {v0 v1 v2 : Value} (h : Thr w R v0 v1 v2) : R < w.heap.size := World.block_lt_of_cell? _ _ h.c0
theorem Thr.made (w : World) (v0 v1 v2 : Value) (e : TypeId) : Thr (w.alloc (.cells #[v0, v1, v2] e)) w.heap.size v0 v1 v2 := ⟨by simp, by simp, by simp, by simp, by simp, by simp⟩
theorem Thr.chg {S : Nat → Prop} {w w' : World} {R : Nat} {v0 v1 v2 : Value} (h : Thr w R v0 v1 v2) (k : Chg S w w') (hs : ¬ S R) : Thr w' R v0 v1 v2 :=
  ⟨k.cell hs h.c0, k.cell hs h.c1, k.cell hs h.c2, by rw [k.froz h.lt hs]; exact h.f0, by rw [k.froz h.lt hs]; exact h.f1, by rw [k.froz h.lt hs]; exact h.f2⟩
theorem Thr.keep {w w' : World} {R : Nat} {v0 v1 v2 : Value} (h : Thr w R v0 v1 v2) (k : Below w.heap.size w w') : Thr w' R v0 v1 v2 := h.chg (S := fun _ => False) (Chg.of_below k) (fun x => x)
theorem Thr.put0 {w : World} {R : Nat} {v0 v1 v2 : Value} (h : Thr w R v0 v1 v2) (u : Value) : Thr (w.setCell ⟨R, 0, none⟩ u) R u v1 v2 :=
  ⟨World.cell?_setCell_same _ _ _ h.c0, by rw [World.cell?_setCell_other _ _ _ _ (by simp)]; exact h.c1, by rw [World.cell?_setCell_other _ _ _ _ (by simp)]; exact h.c2, by rw [World.frozen?_setCell]; exact h.f0, by rw [World.frozen?_setCell]; exact h.f1, by rw [World.frozen?_setCell]; exact h.f2⟩
theorem Thr.all {w : World} {R : Nat} {v0 v1 v2 : Value} (h : Thr w R v0 v1 v2) (u0 u1 u2 : Value) : Thr (((w.setCell ⟨R, 0, none⟩ u0).setCell ⟨R, 1, none⟩ u1).setCell ⟨R, 2, none⟩ u2) R u0 u1 u2 := by
  have k0 := h.put0 u0
  have s1 := World.cell?_setCell_same _ _ u1 k0.c1
  have e0 : ((w.setCell ⟨R, 0, none⟩ u0).setCell ⟨R, 1, none⟩ u1).cell? ⟨R, 0, none⟩ = some u0 := by rw [World.cell?_setCell_other _ _ _ _ (by simp)]; exact k0.c0
  have e2 : ((w.setCell ⟨R, 0, none⟩ u0).setCell ⟨R, 1, none⟩ u1).cell? ⟨R, 2, none⟩ = some v2 := by rw [World.cell?_setCell_other _ _ _ _ (by simp)]; exact k0.c2
  refine ⟨by rw [World.cell?_setCell_other _ _ _ _ (by simp)]; exact e0, by rw [World.cell?_setCell_other _ _ _ _ (by simp)]; exact s1, World.cell?_setCell_same _ _ _ e2, ?_, ?_, ?_⟩
  · rw [World.frozen?_setCell, World.frozen?_setCell, World.frozen?_setCell]; exact h.f0
  · rw [World.frozen?_setCell, World.frozen?_setCell, World.frozen?_setCell]; exact h.f1
  · rw [World.frozen?_setCell, World.frozen?_setCell, World.frozen?_setCell]; exact h.f2
theorem Chg.new {S : Nat → Prop} {w wr : World} (h : Chg S w wr) {b : Nat} (hb : w.heap.size ≤ b) (i : Nat) (v : Value) : Chg S w (wr.setCell ⟨b, i, none⟩ v) :=
  ⟨h.os, h.tape, h.output, by simpa using h.size, fun k hk hs => by
    rw [Below.heap_setCell wr _ v k (fun e => by have e2 : k = b := e; omega)]
    exact h.block k hk hs⟩

def isDg (c : Nat) : Bool := decide (48 ≤ c) && decide (c ≤ 57)
/-- A number's digits: what it is worth (no more than 4097), and where it ends. -/
def rdV (s : ByteArray) : Nat → Nat → Nat → Nat × Nat
  | 0, p, v => (v, p)
  | f + 1, p, v => if isDg (bySt s p) then rdV s f (p + 1) (min (10 * v + (bySt s p - 48)) 4097) else (v, p)
def numR (s : ByteArray) (p : Nat) : (Nat × Nat) × Bool := if skB s p 48 then ((0, p + 1), true) else ((rdV s (s.size - p) p 0), decide (p < (rdV s (s.size - p) p 0).2))
theorem rdV_le (s : ByteArray) : ∀ f p v, p ≤ (rdV s f p v).2 ∧ (rdV s f p v).2 ≤ p + f
  | 0, p, v => ⟨Nat.le_refl _, Nat.le_refl _⟩
  | f + 1, p, v => by
    unfold rdV
    split
    · have := rdV_le s f (p + 1) (min (10 * v + (bySt s p - 48)) 4097)
      omega
    · simp

structure NbI (w wr : World) (R : Nat) (s : ByteArray) (p q v : Nat) : Prop where
  tr : Two wr R (.string s) (.int .i64 (q : Int))
  tn : Thr wr (w.heap.size + 1) (.int .i64 (v : Int)) (.int .i64 (p : Int)) (.bool false)
  tz : Thr wr w.heap.size (.int .i64 0) (.int .i64 0) (.bool false)
  chg : Chg (fun j => j = R) w wr
theorem NbI.below {w wr w2 : World} {R : Nat} {s : ByteArray} {p q v : Nat} (h : NbI w wr R s p q v) (hb : Below wr.heap.size wr w2) : NbI w w2 R s p q v :=
  ⟨h.tr.keep hb, h.tn.keep hb, h.tz.keep hb, h.chg.trans (Chg.of_below hb)⟩
theorem NbI.skip {w wr w2 : World} {R : Nat} {s : ByteArray} {p q q2 v : Nat} (h : NbI w wr R s p q v) (hR : R < w.heap.size) (ht : Two w2 R (.string s) (.int .i64 (q2 : Int))) (hc : Chg (fun j => j = R) wr w2) : NbI w w2 R s p q2 v :=
  ⟨ht, h.tn.chg hc (by omega), h.tz.chg hc (by omega), h.chg.trans hc⟩
/-- The value is written, and the place. -/
theorem NbI.step {w wr : World} {R : Nat} {s : ByteArray} {p q v : Nat} (h : NbI w wr R s p q v) (hR : R < w.heap.size) (v2 q2 : Nat) : NbI w ((wr.setCell ⟨w.heap.size + 1, 0, none⟩ (.int .i64 (v2 : Int))).setCell ⟨R, 1, none⟩ (.int .i64 (q2 : Int))) R s p q2 v2 := by
  have h1 : Chg (fun j => j = w.heap.size + 1) wr (wr.setCell ⟨w.heap.size + 1, 0, none⟩ (.int .i64 (v2 : Int))) := Chg.of_set (S := fun j => j = w.heap.size + 1) _ _ _ _ rfl
  have h2 : Chg (fun j => j = R) (wr.setCell ⟨w.heap.size + 1, 0, none⟩ (.int .i64 (v2 : Int))) ((wr.setCell ⟨w.heap.size + 1, 0, none⟩ (.int .i64 (v2 : Int))).setCell ⟨R, 1, none⟩ (.int .i64 (q2 : Int))) := Chg.of_set (S := fun j => j = R) _ _ _ _ rfl
  exact ⟨(h.tr.chg h1 (by omega)).put1 _, (h.tn.put0 _).chg h2 (by omega), (h.tz.chg h1 (by omega)).chg h2 (by omega), (h.chg.new (by omega) 0 _).trans h2⟩
theorem NbI.val {w wr : World} {R : Nat} {s : ByteArray} {p q v : Nat} (h : NbI w wr R s p q v) (hR : R < w.heap.size) (v2 : Nat) : NbI w (wr.setCell ⟨w.heap.size + 1, 0, none⟩ (.int .i64 (v2 : Int))).drew R s p q v2 := by
  have h1 : Chg (fun j => j = w.heap.size + 1) wr (wr.setCell ⟨w.heap.size + 1, 0, none⟩ (.int .i64 (v2 : Int))) := Chg.of_set (S := fun j => j = w.heap.size + 1) _ _ _ _ rfl
  exact NbI.below (wr := wr.setCell ⟨w.heap.size + 1, 0, none⟩ (.int .i64 (v2 : Int))) ⟨h.tr.chg h1 (by omega), h.tn.put0 _, h.tz.chg h1 (by omega), h.chg.new (by omega) 0 _⟩ (Below.refl _ _).drew
theorem NbI.at1 {w wr : World} {R : Nat} {s : ByteArray} {p q v : Nat} (h : NbI w wr R s p q v) (hR : R < w.heap.size) (q2 : Nat) : NbI w (wr.setCell ⟨R, 1, none⟩ (.int .i64 (q2 : Int))) R s p q2 v := by
  have h2 : Chg (fun j => j = R) wr (wr.setCell ⟨R, 1, none⟩ (.int .i64 (q2 : Int))) := Chg.of_set (S := fun j => j = R) _ _ _ _ rfl
  exact ⟨h.tr.put1 _, h.tn.chg h2 (by omega), h.tz.chg h2 (by omega), h.chg.trans h2⟩
/-- The answer's place is written. -/
theorem NbI.fin {w wr : World} {R : Nat} {s : ByteArray} {p q v : Nat} (h : NbI w wr R s p q v) (hR : R < w.heap.size) (u0 u1 u2 : Value) : Two (((wr.setCell ⟨w.heap.size, 0, none⟩ u0).setCell ⟨w.heap.size, 1, none⟩ u1).setCell ⟨w.heap.size, 2, none⟩ u2) R (.string s) (.int .i64 (q : Int)) ∧ Chg (fun j => j = R) w (((wr.setCell ⟨w.heap.size, 0, none⟩ u0).setCell ⟨w.heap.size, 1, none⟩ u1).setCell ⟨w.heap.size, 2, none⟩ u2) :=
  ⟨((h.tr.other _ _ _ (by omega)).other _ _ _ (by omega)).other _ _ _ (by omega), ((h.chg.new (Nat.le_refl _) 0 _).new (Nat.le_refl _) 1 _).new (Nat.le_refl _) 2 _⟩

def rdI (w : World) (R : Nat) : Nat := match w.cell? ⟨R, 1, none⟩ with | some (.int _ z) => z.toNat | _ => 0
theorem NbI.rd {w wr : World} {R : Nat} {s : ByteArray} {p q v : Nat} (h : NbI w wr R s p q v) : rdI wr R = q := by
  unfold rdI
  rw [h.tr.c1]
  simp
theorem rdV_dg (s : ByteArray) {q v : Nat} (hq : q < s.size) (hd : isDg (bySt s q) = true) : rdV s (s.size - q) q v = rdV s (s.size - (q + 1)) (q + 1) (min (10 * v + (bySt s q - 48)) 4097) := by
  obtain ⟨f, hf⟩ : ∃ f, s.size - q = f + 1 := ⟨s.size - q - 1, by omega⟩
  rw [hf, show s.size - (q + 1) = f from by omega]
  show (if isDg (bySt s q) then _ else _) = _
  rw [if_pos hd]
theorem rdV_no (s : ByteArray) {q v : Nat} (hd : s.size ≤ q ∨ isDg (bySt s q) = false) : rdV s (s.size - q) q v = (v, q) := by
  rcases hd with h | h
  · rw [show s.size - q = 0 from by omega]; rfl
  · cases hf : s.size - q with
    | zero => rfl
    | succ f =>
      show (if isDg (bySt s q) then _ else _) = _
      rw [h]; rfl

end Go.Proofs.Ytdmfaejngepafaa
