/-
  sloperef3.Reached: its contract.
-/
import Derived.Test.YtbendkndnojihabDoorBxm
import Derived.Test.YtbendkndnojihabDoorBxi
import Derived.Test.YtbendkndnojihabDoorBtg
import Derived.Test.YtbendkndnojihabDoorBn1
namespace Go.Proofs.YtbendkndnojihabDoor
open Go.RowKit Go.Deep
set_option linter.unusedVariables false

def rdB (w : World) (b x : Nat) : Bool := match w.cell? ⟨b, x, none⟩ with | some (.bool v) => v | _ => false
theorem rdB_fn {w : World} {b n : Nat} {g : Nat → Bool} (h : FnB w b 0 n g) (x : Nat) (hx : x < n) : rdB w b x = g x := by
  have := (h x hx).1
  rw [Nat.zero_add] at this
  unfold rdB
  rw [this]
  rfl
theorem cnt_set (D : Nat → Bool) (e : Nat) (h : D e = false) : ∀ n, e < n → cntB (fun x => if x = e then true else D x) n = cntB D n + 1
  | 0, he => by omega
  | n + 1, he => by
    simp only [cntB]
    by_cases c : n = e
    · subst c
      rw [cntB_congr (Q := D) (fun x hx => by simp [show x ≠ n from by omega])]
      simp [h]
    · rw [cnt_set D e h n (by omega)]
      simp [c]
      omega
structure RcP (i : Nat) (P C : Nat → Nat → Bool) (I D : Nat → Bool) : Prop where
  sound : ∀ x, I x = true → C i x = true
  first : ∀ x, P i x = true → I x = true
  done : ∀ e, D e = true → ∀ x, P e x = true → I x = true
theorem RcP.step {n i : Nat} {P C : Nat → Nat → Bool} {I D : Nat → Bool} (W : Ways n P C) (h : RcP i P C I D) {e : Nat} (he : I e = true) : RcP i P C (fun x => I x || P e x) (fun x => if x = e then true else D x) := by
  refine ⟨fun x hx => ?_, fun x hx => by simp [h.first x hx], fun y hy x hx => ?_⟩
  · simp only [Bool.or_eq_true] at hx
    rcases hx with a | a
    · exact h.sound x a
    · exact W.trans i e x (h.sound e he) (W.sub e x a)
  · by_cases c : y = e
    · subst c; simp [hx]
    · simp only [if_neg c] at hy
      simp [h.done y hy x hx]
theorem waP_min {P : Nat → Nat → Bool} {I : Nat → Bool} (hI : ∀ e x, I e = true → P e x = true → I x = true) : ∀ k a x, (∀ y, P a y = true → I y = true) → waP P k a x = true → I x = true
  | 0, a, x, ha, h => ha x h
  | k + 1, a, x, ha, h => by
    rcases waP_or h with c | ⟨c, d⟩
    · exact waP_min hI k a x ha c
    · have hk := waP_min hI k a k ha c
      exact waP_min hI k k x (fun y hy => hI k y hk hy) d
theorem RcP.end_ {n i : Nat} {P : Nat → Nat → Bool} {I D : Nat → Bool} (ho : ∀ i x, n ≤ i → P i x = false) (h : RcP i P (waP P n) I D) (hd : ∀ e, e < n → I e = true → D e = true) (x : Nat) : I x = waP P n i x := by
  rw [Bool.eq_iff_iff]
  refine ⟨h.sound x, fun hx => waP_min (fun e y he hy => ?_) n i x h.first hx⟩
  rcases Nat.lt_or_ge e n with c | c
  · exact h.done e (hd e c he) y hy
  · rw [ho e y c] at hy; cases hy
structure RcM (w wr : World) (b1 b2 n : Nat) (I D : Nat → Bool) : Prop where
  row1 : FnB wr b1 0 n I
  row2 : FnB wr b2 0 n D
  bel : Below w.heap.size w wr
  lt : b1 < wr.heap.size ∧ b2 < wr.heap.size
theorem FnB.chg {S : Nat → Prop} {w w' : World} {b n : Nat} {g : Nat → Bool} (h : FnB w b 0 n g) (hc : Chg S w w') (hb : b < w.heap.size) (hs : ¬ S b) : FnB w' b 0 n g :=
  fun i hi => ⟨hc.cell hs (h i hi).1, by rw [hc.froz hb hs]; exact (h i hi).2⟩

def boN (v : Value) : Nat := match v with | .bool true => 1 | _ => 0
theorem RcM.cnt {w wr : World} {b1 b2 n : Nat} {I D : Nat → Bool} (h : RcM w wr b1 b2 n I D) : cntB (rdB wr b2) n = cntB D n := cntB_congr (fun x hx => rdB_fn h.row2 x hx)
/-- A number is gone on from. -/
theorem RcM.gone {w wr w3 : World} {b1 b2 n : Nat} {I D Q : Nat → Bool} (h : RcM w wr b1 b2 n I D) (hw : w.heap.size ≤ b1) (h12 : b1 < b2) {e : Nat} (he : e < n) (hf : FnB w3 b1 0 n (fun x => I x || Q x)) (hc : Chg (fun j => j = b1) (wr.setCell ⟨b2, e, none⟩ (.bool true)) w3) : RcM w w3 b1 b2 n (fun x => I x || Q x) (fun x => if x = e then true else D x) := by
  have hs := h.bel.setCell (p := ⟨b2, e, none⟩) (by show w.heap.size ≤ b2; omega) (.bool true)
  have hsz : (wr.setCell ⟨b2, e, none⟩ (.bool true)).heap.size = wr.heap.size := by simp
  refine ⟨hf, ?_, hs.trans (hc.below hs.size (fun j hj => by omega)), by have := hc.size; have := h.lt; omega⟩
  have r := h.row2.set e true he
  rw [Nat.zero_add] at r
  have r2 : FnB (wr.setCell ⟨b2, e, none⟩ (.bool true)) b2 0 n (fun x => if x = e then true else D x) := r
  exact FnB.chg r2 hc (by have := h.lt; omega) (by omega)

set_option maxHeartbeats 8000000 in
set_option maxRecDepth 100000 in
/-- sloperef3.Reached. -/
theorem reached_good (n i : Nat) (a : Option Addr) (c : Nat) (L : List SetC) (P : Nat → Nat → Bool) (w : World) (h : SlS w a n c L) (g : GoodT n n L P) (hin : i < n) :
    Calls Tryd.prog 64 #[setV n a n c, .int .i64 (i : Int)] w fun r w' => ∃ a' n' c', r = .returned (.agg #[.int .i64 (n : Int), .slice a' n' c']) ∧ SlW w' a' n' c' (wordsL n (waP P n i)) ∧ OkW (wordsL n (waP P n i)) ∧ (∀ x, a' = some x → w.heap.size ≤ x.block) ∧ Below w.heap.size w w' := by
  have hle := h.le
  have hcap := h.cap
  unfold maxLen at hcap
  have hn := g.hn
  obtain ⟨wa, hwa⟩ : ∃ x, w.alloc (.cells #[.int .i64 (n : Int), .slice a n c] 24) = x := ⟨_, rfl⟩
  obtain ⟨wb, hwb⟩ : ∃ x, wa.alloc (.cells #[.int .i64 0, .slice none 0 0] 35) = x := ⟨_, rfl⟩
  have ba : Below w.heap.size w wa := by rw [← hwa]; exact (Below.refl _ _).alloc (Nat.le_refl _) _
  have bb : Below wa.heap.size wa wb := by rw [← hwb]; exact (Below.refl _ _).alloc (Nat.le_refl _) _
  have la : w.heap.size < wa.heap.size := by rw [← hwa]; simp
  have lb : wa.heap.size < wb.heap.size := by rw [← hwb]; simp
  have A0 : Two wb w.heap.size (.int .i64 (n : Int)) (.slice a n c) := by
    refine Two.keep (w := wa) ?_ bb
    rw [← hwa]; exact Two.made _ _ _ _
  have R0 : Two wb wa.heap.size (.int .i64 0) (.slice none 0 0) := by rw [← hwb]; exact Two.made _ _ _ _
  have hB0 := ba.trans (bb.mono ba.size)
  obtain ⟨b, off, rfl, hcells⟩ := h.at (by omega)
  have g1 := below_cell hB0 (hcells i hin).1
  have g2 := below_cell hB0 (hcells i hin).2
  have i1 := (h.get i hin).1.below hB0
  have gg1 := g.get i hin
  have Gi : Good n (wordsL n (P i)) (P i) := Good.mk' (fun x hx => g.zero i x hx) hn
  have HC := hide hcells
  have HA := hide (And.intro A0 (And.intro R0 hB0))
  have a0 := A0.c0
  have a1 := A0.c1
  have HW := hide (ways_of g.zero g.out)
  have HG := hide g
  have HSl := hide h
  generalize L.getD i .nul = x1 at g1 g2 i1 gg1
  obtain ⟨s1, ea1, en1, ec1, ex1⟩ := x1
  simp only at g1 g2 gg1
  obtain ⟨rfl, rfl⟩ := gg1
  have hn1 : en1 = nW n := by have := i1.len; simp only [wordsL_len] at this; omega
  have K := list_any n ea1 en1 ec1 (wordsL n (P i)) wb i1 hn hn1
  unfold setV at K ⊢
  have HK := hide K
  have HGi := hide Gi
  have hi0 : (0 : Int) ≤ (i : Int) := by omega
  have hi1 : (i : Int) < (n : Int) := by omega
  clear A0 R0 h ba bb hB0 K g hcells i1 Gi hn1
  go_enter Tryd.func64, Tryd.ntmps64
  go_wp2_with fail
  refine (unhide HK).mono ?_
  rintro _ wl ⟨b1, rfl, hb1, hb1l, hfl, hbl⟩
  have A1 := (unhide HA).1.keep hbl
  have c0 := A1.c0
  have hm := make_bools n (by omega)
  have hal : Below wl.heap.size wl (wl.alloc (.cells (madeCells #[.bool false] n) 4)) := (Below.refl _ _).alloc (Nat.le_refl _) _
  have HM0 := hide (show RcM wb (wl.alloc (.cells (madeCells #[.bool false] n) 4)) b1 wl.heap.size n (P i) (fun _ => false) from
    ⟨(hfl.below hal).congr (fun x hx => (unhide HGi).has x (by unfold nW; omega)), FnG.made wl n 4 false rfl, hbl.trans (hal.mono hbl.size), by simp; omega⟩)
  have HP0 := hide (show RcP i P (waP P n) (P i) (fun _ => false) from ⟨fun x hx => (unhide HW).sub i x hx, fun x hx => hx, fun e he => by cases he⟩)
  have hl2 := hbl.size
  clear g1 g2 a0 a1 A1 hfl hbl hal HK HGi hwa hwb
  go_wp2_with fail
  clear hm c0
  generalize wl.alloc (.cells (madeCells #[.bool false] n) 4) = wm at *
  generalize wl.heap.size = b2 at *
  go_loopw [7, 8] (fun m _ wr => ∃ (mo : Bool) (I D : Nat → Bool), m = .bool mo ∧ RcM wb wr b1 b2 n I D ∧ RcP i P (waP P n) I D ∧ (mo = false → ∀ e, e < n → I e = true → D e = true)) (fun m _ wr => 2 * (n - cntB (rdB wr b2) n) + boN m)
  case atStart => exact ⟨true, _, _, rfl, unhide HM0, unhide HP0, fun h => by cases h⟩
  case round =>
    obtain ⟨mo, I, D, rfl, hM, hP, hE⟩ := hrel
    obtain ⟨W1, hW1⟩ : ∃ W1, W1 = wr := ⟨_, rfl⟩
    subst hW1
    cases mo
    · have hI : ∀ x, I x = waP P n i x := fun x => hP.end_ (unhide HG).out (hE rfl) x
      have hf : FnB W1 b1 0 n (waP P n i) := hM.row1.congr (fun x _ => hI x)
      have K := of_row hf (Below.refl _ _) hn (fun x hx => waP_zero (unhide HG).zero n i x hx)
      have HK := hide K
      have hBw := (unhide HA).2.2.trans (hM.bel.mono (unhide HA).2.2.size)
      have R1 := (unhide HA).2.1.keep hM.bel
      have HR := hide (And.intro R1 hBw)
      have hls := hM.bel.size
      clear hM hP hE hI hf K R1 hBw
      go_wp2_with fail
      refine (unhide HK).mono ?_
      rintro _ w5 ⟨a5, n5, c5, rfl, hs5, ho5, hf5, hb5, hq5⟩
      have R2 := (unhide HR).1.keep hb5
      have r0 := R2.c0
      have r1 := R2.c1
      have f0 := R2.f0
      have f1 := R2.f1
      have T3 := R2.set (.int .i64 (n : Int)) (.slice a5 n5 c5)
      have p0 := T3.c0
      have p1 := T3.c1
      have hB5 := (unhide HR).2.trans (hb5.mono (unhide HR).2.size)
      have HE := hide (show SlW ((w5.setCell ⟨wa.heap.size, 0, none⟩ (.int .i64 (n : Int))).setCell ⟨wa.heap.size, 1, none⟩ (.slice a5 n5 c5)) a5 n5 c5 (wordsL n (waP P n i)) ∧ OkW (wordsL n (waP P n i)) ∧ (∀ x, a5 = some x → w.heap.size ≤ x.block) ∧ Below w.heap.size w ((w5.setCell ⟨wa.heap.size, 0, none⟩ (.int .i64 (n : Int))).setCell ⟨wa.heap.size, 1, none⟩ (.slice a5 n5 c5)) from
        ⟨hs5.chg (two_chg w5 _ _ _) (fun x hx _ => by have := hf5 x hx; omega), ho5, fun x hx => by have := hf5 x hx; omega, two_below hB5 _ (by omega) _ _⟩)
      clear R2 T3 hs5 ho5 hf5 hb5 hq5 hB5
      go_wp2_with fail
      refine bodyPost_ret (by simp [results, Tryd.results64, go_sem, p0, p1]; try rfl) rfl ?_
      exact ⟨_, _, _, rfl, unhide HE⟩
    · have HM := hide hM
      have HP := hide hP
      have hcD : cntB (rdB W1 b2) n = cntB D n := hM.cnt
      have HCD := hide hcD
      clear hM hP hE hcD
      go_wp2_with fail
      go_loopw [7, 8] (fun m v wr => ∃ (e : Nat) (mo : Bool) (I' D' : Nat → Bool), e ≤ n ∧ v = .int .i64 e ∧ m = .bool mo ∧ RcM wb wr b1 b2 n I' D' ∧ RcP i P (waP P n) I' D' ∧ cntB D n ≤ cntB D' n ∧ (mo = true → cntB D n < cntB D' n) ∧ (mo = false → ∀ y, y < e → I' y = true → D' y = true)) (fun _ v _ => n - (intOf v).toNat)
      case atStart => exact ⟨0, false, I, D, Nat.zero_le _, rfl, rfl, unhide HM, unhide HP, Nat.le_refl _, (fun h => by cases h), (fun _ y hy => by omega)⟩
      case round =>
        obtain ⟨e, mo, J, E, he, rfl, rfl, hM, hP, hc1, hc2, hc3⟩ := hrel
        have A3 := (unhide HA).1.keep hM.bel
        have c0 := A3.c0
        have c1 := A3.c1
        by_cases het : e < n
        · have het' : (e : Int) < (n : Int) := by omega
          have he0 : (0 : Int) ≤ (e : Int) := by omega
          have z1 := (hM.row1 e het).1
          have z2 := (hM.row2 e het).1
          have z3 := (hM.row2 e het).2
          rw [Nat.zero_add] at z1 z2 z3
          unfold vB at z1 z2
          have HR := hide (And.intro hM (And.intro hP (And.intro hc1 (And.intro hc2 hc3))))
          cases hJ : J e
          · rw [hJ] at z1
            have HN := hide (show mo = false → ∀ y, y < e + 1 → J y = true → E y = true from fun hm y hy hyJ => by
              by_cases cc : y = e
              · subst cc; rw [hJ] at hyJ; cases hyJ
              · exact hc3 hm y (by omega) hyJ)
            clear hM hP hc1 hc2 hc3 A3
            go_wp2_with fail
            exact ⟨⟨e + 1, mo, J, E, by omega, by go_num, rfl, (unhide HR).1, (unhide HR).2.1, (unhide HR).2.2.1, (unhide HR).2.2.2.1, unhide HN⟩, by simp [intOf]; omega⟩
          · rw [hJ] at z1
            cases hE2 : E e
            · rw [hE2] at z2
              have hBr := (unhide HA).2.2.trans (hM.bel.mono (unhide HA).2.2.size)
              have hlt := hM.lt
              have hBs : Below w.heap.size w (wr.setCell ⟨b2, e, none⟩ (.bool true)) := hBr.setCell (p := ⟨b2, e, none⟩) (by show w.heap.size ≤ b2; omega) _
              have g3 := below_cell hBs (unhide HC e het).1
              have g4 := below_cell hBs (unhide HC e het).2
              have d1 : (wr.setCell ⟨b2, e, none⟩ (.bool true)).cell? ⟨w.heap.size, 1, none⟩ = some (.slice (some ⟨b, off, none⟩) n c) := by
                rw [World.cell?_setCell_other _ _ _ _ (by intro hh; injection hh with h1 _; omega)]; exact c1
              have i2w := ((unhide HSl).get e het).1
              have gg2 := (unhide HG).get e het
              generalize L.getD e .nul = x2 at g3 g4 i2w gg2
              obtain ⟨s2, ea2, en2, ec2, ex2⟩ := x2
              simp only at g3 g4 gg2
              obtain ⟨rfl, rfl⟩ := gg2
              have hr1 : FnB (wr.setCell ⟨b2, e, none⟩ (.bool true)) b1 0 n J := FnB.chg hM.row1 (Chg.of_set (S := fun j => j = b2) _ _ _ _ rfl) hlt.1 (by omega)
              have K3 := add_any n b1 J ea2 en2 ec2 (P e) (wr.setCell ⟨b2, e, none⟩ (.bool true)) hr1 (by simp; omega) (i2w.below hBs) (fun x hx => (unhide HG).zero e x hx) hn (fun h0 x hx => by
                obtain ⟨b9, o9, e9, k9⟩ := i2w.at h0
                have e9' : ea2 = some ⟨b9, o9, none⟩ := e9
                rw [e9'] at hx
                cases hx
                have h9 : b9 < w.heap.size := World.block_lt_of_cell? _ _ (k9 0 h0)
                show ¬ b9 = b1
                omega)
              unfold setV at K3
              have HK3 := hide K3
              have HCn := hide (cnt_set E e hE2 n het)
              have HStep := hide ((unhide HR).2.1.step (unhide HW) hJ)
              clear K3 hr1 i2w hBr hBs hM hP hc1 hc2 hc3 A3 hJ hE2
              go_wp2_with fail
              refine (unhide HK3).mono ?_
              rintro _ w3 ⟨rfl, hf3, hc3'⟩
              have HF := hide ((unhide HR).1.gone (by omega) (by omega) het hf3 hc3')
              have hcn := unhide HCn
              have hq1 := (unhide HR).2.2.1
              have HCt := hide (show cntB D n < cntB (fun x => if x = e then true else E x) n by omega)
              clear hf3 hc3' hcn hq1 g3 g4 d1 c0 c1 z1 z2 z3
              go_wp2_with fail
              exact ⟨⟨e + 1, true, _, _, by omega, by go_num, rfl, unhide HF, unhide HStep, Nat.le_of_lt (unhide HCt), fun _ => unhide HCt, fun h => by cases h⟩, by simp [intOf]; omega⟩
            · rw [hE2] at z2
              have HN := hide (show mo = false → ∀ y, y < e + 1 → J y = true → E y = true from fun hm y hy hyJ => by
                by_cases cc : y = e
                · subst cc; exact hE2
                · exact hc3 hm y (by omega) hyJ)
              clear hM hP hc1 hc2 hc3 A3
              go_wp2_with fail
              exact ⟨⟨e + 1, mo, J, E, by omega, by go_num, rfl, (unhide HR).1, (unhide HR).2.1, (unhide HR).2.2.1, (unhide HR).2.2.2.1, unhide HN⟩, by simp [intOf]; omega⟩
        · have het' : ¬ (e : Int) < (n : Int) := by omega
          obtain rfl : n = e := by omega
          have HR := hide (And.intro hM (And.intro hP (And.intro hc1 (And.intro hc2 hc3))))
          have hcE := hM.cnt
          have HCE := hide hcE
          clear hM hP hc1 hc2 hc3 A3 hcE
          go_wp2_with fail
          refine ⟨⟨mo, J, E, rfl, (unhide HR).1, (unhide HR).2.1, (unhide HR).2.2.2.2⟩, ?_⟩
          have x1 := unhide HCD
          have x2 := unhide HCE
          have x3 := (unhide HR).2.2.1
          have x4 := (unhide HR).2.2.2.1
          have x5 := cntB_le E n
          show 2 * (n - cntB (rdB wr b2) n) + boN (.bool mo) < 2 * (n - cntB (rdB W1 b2) n) + boN (.bool true)
          rw [x1, x2]
          cases mo
          · show 2 * (n - cntB E n) + 0 < 2 * (n - cntB D n) + 1
            omega
          · have := x4 rfl
            show 2 * (n - cntB E n) + 1 < 2 * (n - cntB D n) + 1
            omega
end Go.Proofs.YtbendkndnojihabDoor
