/-
  sloperef3.none, Make, Range: contracts.
-/
import Derived.Test.YtbendkndnojihabDoorBt5
import Derived.Test.YtbendkndnojihabDoorBt2
namespace Go.Proofs.YtbendkndnojihabDoor
open Go.RowKit Go.Deep
set_option linter.unusedVariables false

theorem Tryd.info_bool : (Tryd.prog.info? 4).map (fun i => (i.zero, i.size, i.bytes)) = some (some (.bool false), 1, 1) := by kernel_rfl
theorem make_bools (n : Nat) (hn : n ≤ 35184372088000) (w : World) : (Instr.makeSlice 81 (.int .i64 (n : Int)) (.int .i64 (n : Int))).run Tryd.prog w = .ok (.slice (some ⟨w.heap.size, 0, none⟩) n n) (w.alloc (.cells (madeCells #[.bool false] n) 4)) :=
  run_make_row' (P := Tryd.prog) 81 4 (.bool false) 1 Tryd.underlying81 Tryd.info_bool rfl .i64 .i64 n (by omega) (by omega) w

theorem bits_fn (g : Nat → Bool) (sz : Nat) : bitsL (lstG g sz) = wordsL sz (fun x => decide (x < sz) && g x) := by
  unfold bitsL
  rw [lstG_len]
  apply wordsL_congr
  intro x _
  by_cases h : x < sz
  · rw [lstG_getD g sz x false h]; simp [h]
  · simp [h, List.getD, List.getElem?_eq_none (show (lstG g sz).length ≤ x by rw [lstG_len]; omega)]

/-- The answer's place, and a row of yes and no. -/
structure InLp (w wr : World) (R b sz : Nat) (g : Nat → Bool) : Prop where
  res : Two wr R (.int .i64 0) (.slice none 0 0)
  row : FnB wr b 0 sz g
  bel : Below w.heap.size w wr
theorem InLp.made {w wa : World} (h : Two wa w.heap.size (.int .i64 0) (.slice none 0 0)) (hb : Below w.heap.size w wa) (sz : Nat) : InLp w (wa.alloc (.cells (madeCells #[.bool false] sz) 4)) w.heap.size wa.heap.size sz (fun _ => false) :=
  have hal : Below wa.heap.size wa (wa.alloc (.cells (madeCells #[.bool false] sz) 4)) := (Below.refl _ _).alloc (Nat.le_refl _) _
  ⟨h.keep hal, FnG.made wa sz 4 false rfl, hb.trans (hal.mono hb.size)⟩
theorem InLp.set {w wr : World} {R b sz : Nat} {g : Nat → Bool} (h : InLp w wr R b sz g) (k : Nat) (v : Bool) (hk : k < sz) (hR : R ≠ b) (hb : w.heap.size ≤ b) : InLp w (wr.setCell ⟨b, k, none⟩ (.bool v)) R b sz (fun x => if x = k then v else g x) := by
  refine ⟨h.res.other b k _ (fun e => hR e.symm), ?_, h.bel.setCell (p := ⟨b, k, none⟩) hb _⟩
  have := h.row.set k v hk
  rw [Nat.zero_add] at this
  exact this
theorem InLp.congr {w wr : World} {R b sz : Nat} {g g' : Nat → Bool} (h : InLp w wr R b sz g) (e : ∀ x, x < sz → g x = g' x) : InLp w wr R b sz g' := ⟨h.res, h.row.congr e, h.bel⟩
theorem InLp.sl {w wr : World} {R b sz : Nat} {g : Nat → Bool} (h : InLp w wr R b sz g) (hs : sz ≤ 4096) : SlB wr (some ⟨b, 0, none⟩) sz sz (lstG g sz) := h.row.sl (Nat.le_refl _) (by unfold maxLen; omega)
/-- The set that Of has made is answered. -/
theorem InLp.done {w wr w2 : World} {R b sz : Nat} {g P : Nat → Bool} {a : Option Addr} {n c : Nat} (h : InLp w wr R b sz g) (hR : R = w.heap.size) (hs : SlW w2 a n c (bitsL (lstG g sz))) (hb : Below wr.heap.size wr w2) (hne : ∀ x, a = some x → wr.heap.size ≤ x.block) (hP : ∀ x, (decide (x < sz) && g x) = P x) :
    ResS w ((w2.setCell ⟨R, 0, none⟩ (.int .i64 sz)).setCell ⟨R, 1, none⟩ (.slice a n c)) (sz, wordsL sz P, 0) (.returned (.tuple #[.agg #[.int .i64 sz, .slice a n c], .int .i64 0])) := by
  refine ⟨a, n, c, rfl, ?_, two_below (h.bel.trans (hb.mono h.bel.size)) R (by omega) _ _⟩
  have e : bitsL (lstG g sz) = wordsL sz P := by
    rw [bits_fn]
    exact wordsL_congr (fun x _ => hP x)
  rw [e] at hs
  have hlt := h.res.lt
  exact hs.chg (two_chg w2 R _ _) (fun x hx hl => by have := hne x hx; omega)

theorem InLp.doneR {w wr w2 : World} {R b sz : Nat} {g P : Nat → Bool} {a : Option Addr} {n c : Nat} (h : InLp w wr R b sz g) (hR : w.heap.size ≤ R) (hs : SlW w2 a n c (bitsL (lstG g sz))) (hb : Below wr.heap.size wr w2) (hne : ∀ x, a = some x → wr.heap.size ≤ x.block) (hP : ∀ x, x < 64 * nW sz → (decide (x < sz) && g x) = P x) :
    ResS w ((w2.setCell ⟨R, 0, none⟩ (.int .i64 sz)).setCell ⟨R, 1, none⟩ (.slice a n c)) (sz, wordsL sz P, 0) (.returned (.tuple #[.agg #[.int .i64 sz, .slice a n c], .int .i64 0])) := by
  refine ⟨a, n, c, rfl, ?_, two_below (h.bel.trans (hb.mono h.bel.size)) R hR _ _⟩
  have e : bitsL (lstG g sz) = wordsL sz P := by
    rw [bits_fn]
    exact wordsL_congr hP
  rw [e] at hs
  have hlt := h.res.lt
  exact hs.chg (two_chg w2 R _ _) (fun x hx hl => by have := hne x hx; omega)

end Go.Proofs.YtbendkndnojihabDoor

namespace Go.Proofs.YtbendkndnojihabDoor
open Go.RowKit Go.Deep
set_option linter.unusedVariables false

/-- The words of a set lie not in a struct. -/
theorem SlW.two {w : World} {R : Nat} {s0 : Int} {a0 : Option Addr} {n0 c0 : Nat} {a : Option Addr} {n c : Nat} {xs : List Nat} (h : SlW w a n c xs) (t : Two w R (.int .i64 s0) (.slice a0 n0 c0)) (u0 u1 : Value) :
    SlW ((w.setCell ⟨R, 0, none⟩ u0).setCell ⟨R, 1, none⟩ u1) a n c xs := by
  refine ⟨h.len, h.le, h.cap, ?_⟩
  rcases h.cells with e | ⟨b, off, e, k⟩
  · exact .inl e
  · refine .inr ⟨b, off, e, fun i hi => ?_⟩
    have hc := k i hi
    have h0 : ¬ (R = b ∧ 0 = off + i) := by
      rintro ⟨rfl, hh⟩
      rw [← hh, t.c0] at hc
      cases hc
    have h1 : ¬ (R = b ∧ 1 = off + i) := by
      rintro ⟨rfl, hh⟩
      rw [← hh, t.c1] at hc
      cases hc
    rw [World.cell?_setCell_other _ _ _ _ (by intro h; injection h with e1 e2; exact h1 ⟨e1, e2⟩), World.cell?_setCell_other _ _ _ _ (by intro h; injection h with e1 e2; exact h0 ⟨e1, e2⟩)]
    exact hc

end Go.Proofs.YtbendkndnojihabDoor
