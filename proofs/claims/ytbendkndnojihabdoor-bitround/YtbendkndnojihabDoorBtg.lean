/-
  sloperef3.none, Make, Range: contracts.
-/
import Derived.Test.YtbendkndnojihabDoorBt5
namespace Go.Proofs.YtbendkndnojihabDoor
open Go.RowKit Go.Deep
set_option linter.unusedVariables false

theorem Tryd.info_bool : (Tryd.prog.info? 4).map (fun i => (i.zero, i.size, i.bytes)) = some (some (.bool false), 1, 1) := by kernel_rfl
theorem make_bools (n : Nat) (hn : n ≤ 35184372088000) (w : World) : (Instr.makeSlice 81 (.int .i64 (n : Int)) (.int .i64 (n : Int))).run Tryd.prog w = .ok (.slice (some ⟨w.heap.size, 0, none⟩) n n) (w.alloc (.cells (madeCells #[.bool false] n) 4)) :=
  run_make_row' (P := Tryd.prog) 81 4 (.bool false) 1 Tryd.underlying81 Tryd.info_bool rfl .i64 .i64 n (by omega) (by omega) w

theorem bits_fn (g : Nat → Bool) (sz : Nat) : bitsL (lstG g sz) = wordsL sz (fun x => decide (x < sz) && g x) := by
  unfold bitsL
  rw [lstG_len]
  apply wordsL_congr
  intro x _
  by_cases h : x < sz
  · rw [lstG_getD g sz x false h]; simp [h]
  · simp [h, List.getD, List.getElem?_eq_none (show (lstG g sz).length ≤ x by rw [lstG_len]; omega)]

/-- The answer's place, and a row of yes and no. -/
structure InLp (w wr : World) (R b sz : Nat) (g : Nat → Bool) : Prop where
  res : Two wr R (.int .i64 0) (.slice none 0 0)
  row : FnB wr b 0 sz g
  bel : Below w.heap.size w wr
theorem InLp.made {w wa : World} (h : Two wa w.heap.size (.int .i64 0) (.slice none 0 0)) (hb : Below w.heap.size w wa) (sz : Nat) : InLp w (wa.alloc (.cells (madeCells #[.bool false] sz) 4)) w.heap.size wa.heap.size sz (fun _ => false) :=
  have hal : Below wa.heap.size wa (wa.alloc (.cells (madeCells #[.bool false] sz) 4)) := (Below.refl _ _).alloc (Nat.le_refl _) _
  ⟨h.keep hal, FnG.made wa sz 4 false rfl, hb.trans (hal.mono hb.size)⟩
theorem InLp.set {w wr : World} {R b sz : Nat} {g : Nat → Bool} (h : InLp w wr R b sz g) (k : Nat) (v : Bool) (hk : k < sz) (hR : R ≠ b) (hb : w.heap.size ≤ b) : InLp w (wr.setCell ⟨b, k, none⟩ (.bool v)) R b sz (fun x => if x = k then v else g x) := by
  refine ⟨h.res.other b k _ (fun e => hR e.symm), ?_, h.bel.setCell (p := ⟨b, k, none⟩) hb _⟩
  have := h.row.set k v hk
  rw [Nat.zero_add] at this
  exact this
theorem InLp.congr {w wr : World} {R b sz : Nat} {g g' : Nat → Bool} (h : InLp w wr R b sz g) (e : ∀ x, x < sz → g x = g' x) : InLp w wr R b sz g' := ⟨h.res, h.row.congr e, h.bel⟩
theorem InLp.sl {w wr : World} {R b sz : Nat} {g : Nat → Bool} (h : InLp w wr R b sz g) (hs : sz ≤ 4096) : SlB wr (some ⟨b, 0, none⟩) sz sz (lstG g sz) := h.row.sl (Nat.le_refl _) (by unfold maxLen; omega)
/-- The set that Of has made is answered. -/
theorem InLp.done {w wr w2 : World} {R b sz : Nat} {g P : Nat → Bool} {a : Option Addr} {n c : Nat} (h : InLp w wr R b sz g) (hR : R = w.heap.size) (hs : SlW w2 a n c (bitsL (lstG g sz))) (hb : Below wr.heap.size wr w2) (hne : ∀ x, a = some x → wr.heap.size ≤ x.block) (hP : ∀ x, (decide (x < sz) && g x) = P x) :
    ResS w ((w2.setCell ⟨R, 0, none⟩ (.int .i64 sz)).setCell ⟨R, 1, none⟩ (.slice a n c)) (sz, wordsL sz P, 0) (.returned (.tuple #[.agg #[.int .i64 sz, .slice a n c], .int .i64 0])) := by
  refine ⟨a, n, c, rfl, ?_, two_below (h.bel.trans (hb.mono h.bel.size)) R (by omega) _ _⟩
  have e : bitsL (lstG g sz) = wordsL sz P := by
    rw [bits_fn]
    exact wordsL_congr (fun x _ => hP x)
  rw [e] at hs
  have hlt := h.res.lt
  exact hs.chg (two_chg w2 R _ _) (fun x hx hl => by have := hne x hx; omega)

theorem InLp.doneR {w wr w2 : World} {R b sz : Nat} {g P : Nat → Bool} {a : Option Addr} {n c : Nat} (h : InLp w wr R b sz g) (hR : w.heap.size ≤ R) (hs : SlW w2 a n c (bitsL (lstG g sz))) (hb : Below wr.heap.size wr w2) (hne : ∀ x, a = some x → wr.heap.size ≤ x.block) (hP : ∀ x, x < 64 * nW sz → (decide (x < sz) && g x) = P x) :
    ResS w ((w2.setCell ⟨R, 0, none⟩ (.int .i64 sz)).setCell ⟨R, 1, none⟩ (.slice a n c)) (sz, wordsL sz P, 0) (.returned (.tuple #[.agg #[.int .i64 sz, .slice a n c], .int .i64 0])) := by
  refine ⟨a, n, c, rfl, ?_, two_below (h.bel.trans (hb.mono h.bel.size)) R hR _ _⟩
  have e : bitsL (lstG g sz) = wordsL sz P := by
    rw [bits_fn]
    exact wordsL_congr hP
  rw [e] at hs
  have hlt := h.res.lt
  exact hs.chg (two_chg w2 R _ _) (fun x hx hl => by have := hne x hx; omega)

end Go.Proofs.YtbendkndnojihabDoor

namespace Go.Proofs.YtbendkndnojihabDoor
open Go.RowKit Go.Deep
set_option linter.unusedVariables false

set_option maxHeartbeats 2000000 in
/-- sloperef3.List. -/
theorem list_any (sz : Nat) (a : Option Addr) (n c : Nat) (xs : List Nat) (w : World) (h : SlW w a n c xs) (hsz : sz ≤ 4096) (hn : n = nW sz) :
    Calls Tryd.prog 53 #[setV sz a n c] w fun r w' => ∃ b, r = .returned (.slice (some ⟨b, 0, none⟩) sz sz) ∧ w.heap.size ≤ b ∧ b < w'.heap.size ∧ FnB w' b 0 sz (hasB (fun i => xs.getD i 0)) ∧ Below w.heap.size w w' := by
  obtain ⟨wa, hwa⟩ : ∃ wa, w.alloc (.cells #[.int .i64 (sz : Int), .slice a n c] 35) = wa := ⟨_, rfl⟩
  have hb : Below w.heap.size w wa := by rw [← hwa]; exact (Below.refl _ _).alloc (Nat.le_refl _) _
  have tA : Two wa w.heap.size (.int .i64 sz) (.slice a n c) := by rw [← hwa]; exact Two.made _ _ _ _
  have hm := make_bools sz (by omega)
  have hq : ∀ k, k < sz → k / 64 < n := fun k hk => by rw [hn]; unfold nW; omega
  have a0 := tA.c0
  have a1 := tA.c1
  have hal : Below wa.heap.size wa (wa.alloc (.cells (madeCells #[.bool false] sz) 4)) := (Below.refl _ _).alloc (Nat.le_refl _) _
  have HT := hide (And.intro (tA.keep hal) (And.intro ((h.below hb).below hal) (And.intro (show FnB (wa.alloc (.cells (madeCells #[.bool false] sz) 4)) wa.heap.size 0 sz (fun _ => false) from FnG.made wa sz 4 false rfl) (hb.trans (hal.mono hb.size)))))
  have hwl : w.heap.size < wa.heap.size := tA.lt
  have HQ := hide hq
  have HSl := hide h
  clear tA hb h hal hn hq
  unfold setV
  go_enter Tryd.func53, Tryd.ntmps53
  go_wp2_with fail
  clear hwa a0 a1
  have hs0 : wa.heap.size < (wa.alloc (.cells (madeCells #[.bool false] sz) 4)).heap.size := by simp
  generalize wa.alloc (.cells (madeCells #[.bool false] sz) 4) = wc at *
  generalize wa.heap.size = b at *
  go_loopw [4] (fun i wr => ∃ k : Nat, k ≤ sz ∧ i = .int .i64 k ∧ Two wr w.heap.size (.int .i64 sz) (.slice a n c) ∧ SlW wr a n c xs ∧ FnB wr b 0 sz (fun x => decide (x < k) && hasB (fun i => xs.getD i 0) x) ∧ Below w.heap.size w wr ∧ b < wr.heap.size) (fun i _ => sz - (intOf i).toNat)
  case atStart =>
    obtain ⟨q1, q2, q3, q4⟩ := unhide HT
    exact ⟨0, Nat.zero_le _, rfl, q1, q2, q3.congr (fun x _ => by simp), q4, hs0⟩
  case round =>
    obtain ⟨k, hk, rfl, q1, q2, q3, q4, q5⟩ := hrel
    have v0 := q1.c0
    have v1 := q1.c1
    have HR := hide (And.intro q1 (And.intro q2 (And.intro q3 q4)))
    by_cases hlt : k < sz
    · have hlt' : (k : Int) < (sz : Int) := by omega
      have K := in_any sz a n c xs k wr q2 (unhide HQ k hlt) (by omega)
      unfold setV at K
      have HK := hide K
      clear q1 q2 q3 q4 K
      go_wp2_with fail
      refine (unhide HK).mono ?_
      rintro _ w2 ⟨rfl, hb2⟩
      obtain ⟨q1, q2, q3, q4⟩ := unhide HR
      have g3 := q3.below hb2
      have g1 := (g3 k hlt).1
      have g2 := (g3 k hlt).2
      rw [Nat.zero_add] at g1 g2
      unfold vB at g1
      generalize (decide (k < k) && hasB (fun i => xs.getD i 0) k) = old at g1
      have hsz2 := hb2.size
      have HS := hide (show Two (w2.setCell ⟨b, k, none⟩ (.bool (hasB (fun i => xs.getD i 0) k))) w.heap.size (.int .i64 sz) (.slice a n c) ∧ SlW (w2.setCell ⟨b, k, none⟩ (.bool (hasB (fun i => xs.getD i 0) k))) a n c xs ∧ FnB (w2.setCell ⟨b, k, none⟩ (.bool (hasB (fun i => xs.getD i 0) k))) b 0 sz (fun x => decide (x < k + 1) && hasB (fun i => xs.getD i 0) x) ∧ Below w.heap.size w (w2.setCell ⟨b, k, none⟩ (.bool (hasB (fun i => xs.getD i 0) k))) by
        have hBx := q4.trans (hb2.mono q4.size)
        refine ⟨(q1.keep hb2).other b k _ (by omega), ?_, ?_, hBx.setCell (p := ⟨b, k, none⟩) (by show w.heap.size ≤ b; omega) _⟩
        · exact (unhide HSl).below (hBx.setCell (p := ⟨b, k, none⟩) (by show w.heap.size ≤ b; omega) _)
        · have := g3.set k (hasB (fun i => xs.getD i 0) k) hlt
          rw [Nat.zero_add] at this
          refine this.congr (fun x hx => ?_)
          by_cases hxk : x = k
          · subst hxk; simp
          · by_cases hx2 : x < k
            · simp [hxk, hx2, show x < k + 1 from by omega]
            · simp [hxk, hx2, show ¬ x < k + 1 from by omega])
      generalize hasB (fun i => xs.getD i 0) k = bv at *
      clear q1 q2 q3 q4 g3 hb2 HK HR v0 v1
      go_wp2_with fail
      obtain ⟨e1, e2, e3, e4⟩ := unhide HS
      exact ⟨⟨k + 1, by omega, by go_num, e1, e2, e3, e4, by simp; omega⟩, by simp [intOf]; omega⟩
    · have hlt' : ¬ (k : Int) < (sz : Int) := by omega
      have hkn : k = sz := by omega
      subst hkn
      clear q1 q2 q3 q4
      go_wp2_with fail
      go_ret
      obtain ⟨q1, q2, q3, q4⟩ := unhide HR
      exact ⟨b, rfl, by omega, q5, q3.congr (fun x hx => by simp [hx]), q4⟩

end Go.Proofs.YtbendkndnojihabDoor
