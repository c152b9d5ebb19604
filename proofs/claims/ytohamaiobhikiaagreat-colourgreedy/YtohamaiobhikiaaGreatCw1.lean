/-
  COLOURS: sloperef12.right: contracts (written by wip/gens/mkcw1.py).
-/
import Derived.Test.YtohamaiobhikiaaGreatCv9
import Derived.Test.YtohamaiobhikiaaGreatCgg
import Derived.Test.YtohamaiobhikiaaGreatCg1
namespace Go.Proofs.YtohamaiobhikiaaGreat
open Go.RowKit Go.Deep
set_option linter.unusedVariables false

/-- Right, of a kind. -/
def RtK (k4 k5 : Bool) (Q : Nat → Bool) (N : Nat) (cs : Nat → Int) (v : Nat) : Prop :=
  match k4, k5 with
  | true, _ => RtS Q N cs v
  | false, true => RtA Q N cs v
  | false, false => RtN Q N cs v
theorem RtK.n {k4 k5 : Bool} {Q : Nat → Bool} {N : Nat} {cs : Nat → Int} {v : Nat} (h : RtK k4 k5 Q N cs v) : RtN Q N cs v := by
  cases k4
  · cases k5
    · exact h
    · exact h.1
  · exact h.1
set_option maxRecDepth 100000 in
set_option maxHeartbeats 16000000 in
/-- sloperef12.right. -/
theorem wright_any (kd : Int) (k4 k5 : Bool) (hk4 : (kd == 4) = k4) (hk5 : (kd == 5) = k5) (N gb m gc : Nat) (Q : Nat → Bool) (cs : Nat → Int) (v : Nat) (w : World) (hN : N ≤ 128) (hmm : N * N = m) (hv : v < N) (hQ : RoV w gb m (fun i => .bool (Q i))) (hc : RoV w gc N (fun i => .int .i64 (cs i))) (ok : Bool) (hok : TruQ ok (RtK k4 k5 Q N cs v)) :
    Calls Tryz.prog 19 #[.int .i64 kd, grV N gb m, .slice (some ⟨gc, 0, none⟩) N N, .int .i64 (v : Int)] w fun e w' => e = .returned (.bool ok) ∧ Below w.heap.size w w' := by
  obtain ⟨wb, hwb⟩ : ∃ x, w.alloc (.cells #[.int .i64 (N : Int), .slice (some ⟨gb, 0, none⟩) m m] 66) = x := ⟨_, rfl⟩
  have bb : Below w.heap.size w wb := by rw [← hwb]; exact (Below.refl _ _).alloc (Nat.le_refl _) _
  have hT := BoxP.made w #[.int .i64 (N : Int), .slice (some ⟨gb, 0, none⟩) m m] 66
  rw [hwb] at hT
  have hm2 : m ≤ 16384 := by rw [← hmm]; exact Nat.mul_le_mul hN hN
  have hnn1 : (N : Int) * (N : Int) = (m : Int) := by rw [← hmm]; simp
  have hmk := fun W => make_boolsP m (by omega) W
  have p0 := (hT.all 0 _ rfl).1
  have HA := hide (show ∀ W, Below wb.heap.size wb W → BoxP W w.heap.size [.int .i64 (N : Int), .slice (some ⟨gb, 0, none⟩) m m] ∧ RoV W gc N (fun i => .int .i64 (cs i)) ∧ Below w.heap.size w W ∧ RoV W gb m (fun i => .bool (Q i)) from fun W b => ⟨hT.below b, (hc.below bb).below b, bb.trans (b.mono bb.size), (hQ.below bb).below b⟩)
  have HAT := hide (show ∀ u z, u < N → z < N → u * N + z < m from fun u z hu hz => by rw [← hmm]; have := Nat.mul_le_mul_right N (show u + 1 ≤ N by omega); rw [Nat.add_mul, Nat.one_mul] at this; omega)
  have HM := hide (show ∀ W, Below wb.heap.size wb W → ∀ u z q, u < N → z < N → Q (u * N + z) = q → Calls Tryz.prog 36 #[.agg #[.int .i64 (N : Int), .slice (some ⟨gb, 0, none⟩) m m], .int .i64 (u : Int), .int .i64 (z : Int)] W fun e w' => e = .returned (.bool q) ∧ Below W.heap.size W w' from fun W b u z q hu hz hq => by
    subst hq
    exact wmeet_any N gb m u z Q W hN (by omega) (by omega) (unhide HAT u z hu hz) hm2 ((hQ.below bb).below b))
  have HOK := hide hok
  have HMM := hide hmm
  have HK45 := hide (And.intro hk4 hk5)
  clear hT bb hQ hc hok hmm hk4 hk5
  unfold grV
  go_enter Tryz.func19, Tryz.ntmps19
  go_wp2_with fail
  clear p0
  go_loopw [9] (fun uv wr => ∃ u : Nat, u ≤ N ∧ uv = .int .i64 (u : Int) ∧ Hid (∀ u', u' < u → Q (u' * N + v) = true → cs u' ≠ cs v) ∧ Hid (Below wb.heap.size wb wr)) (fun uv _ => N - (intOf uv).toNat)
  case atStart => exact ⟨0, Nat.zero_le _, rfl, hide (fun u' h => absurd h (Nat.not_lt_zero _)), hide (Below.refl _ _)⟩
  case round =>
    obtain ⟨u, hu, rfl, HS, HW⟩ := hrel
    have hx := unhide HA wr (unhide HW)
    have p0 := (hx.1.all 0 _ rfl).1
    have p1 := (hx.1.all 1 _ rfl).1
    by_cases hlt : u < N
    · have hlt' : (u : Int) < (N : Int) := by omega
      have s0 := (hx.2.1 u hlt).1
      have s1 := (hx.2.1 v hv).1
      obtain ⟨y0, hy0⟩ : ∃ y, cs u = y := ⟨_, rfl⟩
      obtain ⟨y1, hy1⟩ : ∃ y, cs v = y := ⟨_, rfl⟩
      simp only [hy0] at s0
      simp only [hy1] at s1
      obtain ⟨q0, hq0⟩ : ∃ q, Q (u * N + v) = q := ⟨_, rfl⟩
      have F0 := fun x' : Ext wr => x'.cell s0
      have F1 := fun x' : Ext wr => x'.cell s1
      have F2 := fun x' : Ext wr => x'.cell p0
      have F3 := fun x' : Ext wr => x'.cell p1
      have hNE := Ext.ne wr
      have HK0 := hide (show ∀ x' : Ext wr, Calls Tryz.prog 36 #[.agg #[.int .i64 (N : Int), .slice (some ⟨gb, 0, none⟩) m m], .int .i64 (u : Int), .int .i64 (v : Int)] x'.w fun e w' => e = .returned (.bool q0) ∧ Below x'.w.heap.size x'.w w' from fun x' => unhide HM x'.w ((unhide HW).trans (x'.bel.mono (unhide HW).size)) u v q0 hlt hv hq0)
      have HNX := hide (show (q0 = true → y0 ≠ y1) → ∀ u', u' < u + 1 → Q (u' * N + v) = true → cs u' ≠ cs v from fun h u' hu' hq => by
        by_cases e : u' = u
        · subst e; rw [hy0, hy1]; exact h (by rw [← hq0]; exact hq)
        · exact unhide HS u' (by omega) hq)
      have HNO := hide (show q0 = true → y0 = y1 → ok = false from fun h1 h2 => by
        rw [Bool.eq_false_iff]
        intro e
        exact ((unhide HOK).1 e).n u hlt (by rw [hq0]; exact h1) (by rw [hy0, hy1]; exact h2))
      clear hq0 hy0 hy1 hx
      cases q0
      · have HN := hide (unhide HNX (fun e => by cases e))
        go_wp2_with fail
        refine wp_region_ext (by kernel_rfl) (by kernel_rfl) ?_
        repeat (go_big_quiet_step ((go_at_call 36; rename_i x'; exact Ext.call (unhide HK0 x') (fun e w' h => h))))
        refine wpQuiet_nil ?_
        rintro _ ⟨xE, rfl⟩
        have HX1 := hide (show Below wb.heap.size wb xE.w from (unhide HW).trans (xE.bel.mono (unhide HW).size))
        clear F0 F1 F2 F3 hNE HK0 s0 s1 p0 p1
        go_wp2_with fail
        exact ⟨⟨u + 1, by omega, by (first | rfl | go_num), HN, HX1⟩, by simp [intOf]; omega⟩
      · by_cases hyy : y0 = y1
        · have hyy' : (y0 == y1) = true := by simp [hyy]
          have hok0 := unhide HNO rfl hyy
          subst hok0
          clear hyy
          go_wp2_with fail
          refine wp_region_ext (by kernel_rfl) (by kernel_rfl) ?_
          repeat (go_big_quiet_step ((go_at_call 36; rename_i x'; exact Ext.call (unhide HK0 x') (fun e w' h => h))))
          refine wpQuiet_nil ?_
          rintro _ ⟨xE, rfl⟩
          have HX1 := hide (show Below wb.heap.size wb xE.w from (unhide HW).trans (xE.bel.mono (unhide HW).size))
          clear F0 F1 F2 F3 hNE HK0 s0 s1 p0 p1
          have HF := hide ((unhide HA xE.w (unhide HX1)).2.2.1)
          go_wp2_with fail
          try go_ret
          exact ⟨rfl, unhide HF⟩
        · have hyy' : (y0 == y1) = false := by simp [hyy]
          have HN := hide (unhide HNX (fun _ => hyy))
          clear hyy
          go_wp2_with fail
          refine wp_region_ext (by kernel_rfl) (by kernel_rfl) ?_
          repeat (go_big_quiet_step ((go_at_call 36; rename_i x'; exact Ext.call (unhide HK0 x') (fun e w' h => h))))
          refine wpQuiet_nil ?_
          rintro _ ⟨xE, rfl⟩
          have HX1 := hide (show Below wb.heap.size wb xE.w from (unhide HW).trans (xE.bel.mono (unhide HW).size))
          clear F0 F1 F2 F3 hNE HK0 s0 s1 p0 p1
          go_wp2_with fail
          exact ⟨⟨u + 1, by omega, by (first | rfl | go_num), HN, HX1⟩, by simp [intOf]; omega⟩
    · obtain rfl : u = N := by omega
      have hlt' : ¬ (u : Int) < (u : Int) := by omega
      have HRT := hide (show RtN Q u cs v from fun u' h1 h2 => unhide HS u' h1 h2)
      have hlw : w.heap.size < wr.heap.size := hx.1.lt
      have q0x : ∀ o : Obj, (wr.alloc o).cell? ⟨w.heap.size, 0, none⟩ = some (.int .i64 (u : Int)) := fun o => by rw [World.cell?_alloc_lt _ _ _ hlw]; exact p0
      obtain ⟨s, hs⟩ : ∃ s, s = wr.heap.size := ⟨_, rfl⟩
      have HSS := hide hs
      clear hs hx HS
      go_wp2_with fail
      go_region
      have HD0 := gbA wr u m s (unhide HSS)
      generalize ((wr.alloc (.cells (madeCells #[.bool false] m) 4)).alloc (.cells #[.int .i64 (u : Int), .slice (some ⟨wr.heap.size, 0, none⟩) m m] 66)).drew = ws at HD0 ⊢
      generalize wr.heap.size + 1 = X at HD0 ⊢
      generalize wr.heap.size = G at HD0 ⊢
      have HD := hide HD0
      clear HD0
      rotate_left
      have HD0 := gbC wr u m s (unhide HSS)
      generalize ((wr.alloc (.cells #[.int .i64 (u : Int), .slice (some ⟨wr.heap.size + 1, 0, none⟩) m m] 66)).alloc (.cells (madeCells #[.bool false] m) 4)).drew = ws at HD0 ⊢
      generalize wr.heap.size + 1 = G at HD0 ⊢
      generalize wr.heap.size = X at HD0 ⊢
      have HD := hide HD0
      clear HD0
      all_goals
        clear p0 p1 q0x hlw hlt hlt'
        have HB := hide (show ∀ W, Chg (fun j => j = G) ws W → BoxP W w.heap.size [.int .i64 (u : Int), .slice (some ⟨gb, 0, none⟩) m m] ∧ BoxP W X [.int .i64 (u : Int), .slice (some ⟨G, 0, none⟩) m m] ∧ RoV W gc u (fun i => .int .i64 (cs i)) ∧ RoV W gb m (fun i => .bool (Q i)) ∧ Below w.heap.size w W from fun W k => by
          have hd := unhide HD
          have hsz := unhide HSS
          have hb := hd.bel
          rw [hsz] at hb
          have h1 := unhide HA ws ((unhide HW).trans (hb.mono (unhide HW).size))
          have hG := hd.g0
          have hwr := unhide HA wr (unhide HW)
          refine ⟨h1.1.chg k (fun e => by have := hwr.1.lt; omega), hd.box.chg k hd.ne, h1.2.1.chg k (fun e => ?_), h1.2.2.2.chg k (fun e => ?_), h1.2.2.1.trans (k.below h1.2.2.1.size (fun j hj e => ?_))⟩
          · have := World.block_lt_of_cell? _ _ (hwr.2.1 v hv).1
            have h9 : gc < wr.heap.size := this
            omega
          · have := World.block_lt_of_cell? _ _ (hwr.2.2.2 (v * u + v) (unhide HAT v v hv hv)).1
            have h9 : gb < wr.heap.size := this
            omega
          · have := hwr.2.2.1.size
            omega)
        have HR0 := hide (show RoV ws G m (fun x => .bool (decide (x < 0 * u + 0) && ptQ Q u cs x)) from (unhide HD).row.congr (fun x _ => by simp))
        have h0 := (unhide HB ws (Chg.refl _ _))
        have p0 := (h0.1.all 0 _ rfl).1
        clear h0
        go_wp2_with fail
        clear p0
        go_loopw [11] (fun av wa => ∃ a : Nat, a ≤ u ∧ av = .int .i64 (a : Int) ∧ Hid (RoV wa G m (fun x => .bool (decide (x < a * u + 0) && ptQ Q u cs x))) ∧ Hid (Chg (fun j => j = G) ws wa)) (fun av _ => u - (intOf av).toNat)
        case atStart => exact ⟨0, Nat.zero_le _, rfl, HR0, hide (Chg.refl _ _)⟩
        case round =>
          obtain ⟨a, ha, rfl, HR1, HC1⟩ := hrel
          have h0 := unhide HB wr (unhide HC1)
          have p0 := (h0.1.all 0 _ rfl).1
          by_cases hal : a < u
          · have hal' : (a : Int) < (u : Int) := by omega
            clear h0
            go_wp2_with fail
            clear p0
            go_loopw [12] (fun bv wa => ∃ b : Nat, b ≤ u ∧ bv = .int .i64 (b : Int) ∧ Hid (RoV wa G m (fun x => .bool (decide (x < a * u + b) && ptQ Q u cs x))) ∧ Hid (Chg (fun j => j = G) ws wa)) (fun bv _ => u - (intOf bv).toNat)
            case atStart => exact ⟨0, Nat.zero_le _, rfl, HR1, HC1⟩
            case round =>
              obtain ⟨b, hb, rfl, HR2, HC2⟩ := hrel
              have h0 := unhide HB wr (unhide HC2)
              have p0 := (h0.1.all 0 _ rfl).1
              have p1 := (h0.1.all 1 _ rfl).1
              have r0 := (h0.2.1.all 0 _ rfl).1
              have r1 := (h0.2.1.all 1 _ rfl).1
              by_cases hbl : b < u
              · have hbl' : (b : Int) < (u : Int) := by omega
                have s0 := (h0.2.2.1 a hal).1
                have s1 := (h0.2.2.1 b hbl).1
                have hat := unhide HAT a b hal hbl
                have g5 := (unhide HR2 (a * u + b) hat)
                have g5c := g5.1
                have g5f := g5.2
                obtain ⟨y0, hy0⟩ : ∃ y, cs a = y := ⟨_, rfl⟩
                obtain ⟨y1, hy1⟩ : ∃ y, cs b = y := ⟨_, rfl⟩
                simp only [hy0] at s0
                simp only [hy1] at s1
                obtain ⟨q0, hq0⟩ : ∃ q, Q (a * u + b) = q := ⟨_, rfl⟩
                have KM := hide (fun W (k : Below wr.heap.size wr W) => wmeet_any u gb m a b Q W hN (by omega) (by omega) hat hm2 (h0.2.2.2.1.below k))
                unfold grV at KM
                rw [hq0] at KM
                have HPT := hide (show ptQ Q u cs (a * u + b) = true ↔ (0 ≤ y0 ∧ 0 ≤ y1 ∧ q0 = true) from by rw [ptQ_at hbl, hy0, hy1, hq0])
                obtain ⟨ix, hix⟩ : ∃ ix, a * u + b = ix := ⟨_, rfl⟩
                have hix1 : (a : Int) * (u : Int) + (b : Int) = (ix : Int) := by rw [← hix]; simp
                have hwm : IntKind.i64.wrap ((a : Int) * (u : Int)) = (a : Int) * (u : Int) := by
                  have h1 : a * u ≤ 16384 := by omega
                  have h2 : (a : Int) * (u : Int) = ((a * u : Nat) : Int) := by simp
                  rw [h2, wrap_i64g]; omega
                have hwa : IntKind.i64.wrap ((a : Int) * (u : Int) + (b : Int)) = (ix : Int) := by rw [hix1, wrap_i64g]; omega
                have hwx : IntKind.i64.wrap (ix : Int) = (ix : Int) := by rw [wrap_i64g]; omega
                have hixm : ix < m := by omega
                have hixm' : (ix : Int) < (m : Int) := by omega
                rw [hix] at g5c g5f HPT
                have HPUT := hide (show ∀ W t, Chg (fun j => j = G) ws W → RoV W G m (fun x => .bool (decide (x < a * u + b) && ptQ Q u cs x)) → ptQ Q u cs ix = t → RoV (W.setCell ⟨G, ix, none⟩ (.bool t)) G m (fun x => .bool (decide (x < a * u + (b + 1)) && ptQ Q u cs x)) from fun W t _ hr ht => (hr.put ix _ hixm).congr (fun x hx => by
                  by_cases e : x = ix
                  · subst e
                    rw [if_pos rfl, ht]
                    have : x < a * u + (b + 1) := by omega
                    simp [this]
                  · rw [if_neg e]
                    have : (x < a * u + b) ↔ (x < a * u + (b + 1)) := by omega
                    simp [this]))
                have hGw : G < wr.heap.size := World.block_lt_of_cell? _ _ g5c
                have hwl : w.heap.size < wr.heap.size := h0.1.lt
                have hXl : X < wr.heap.size := h0.2.1.lt
                have hcl : gc < wr.heap.size := World.block_lt_of_cell? _ _ s0
                clear h0 g5 hy0 hy1 hq0 hat hix r0
                have hHeld : (fun W => W.cell? ⟨w.heap.size, 0, none⟩ = some (.int .i64 (u : Int)) ∧ W.cell? ⟨w.heap.size, 1, none⟩ = some (.slice (some ⟨gb, 0, none⟩) m m) ∧ W.cell? ⟨X, 1, none⟩ = some (.slice (some ⟨G, 0, none⟩) m m) ∧ W.cell? ⟨gc, a, none⟩ = some (.int .i64 y0) ∧ W.cell? ⟨gc, b, none⟩ = some (.int .i64 y1)) wr.drew := ⟨p0, p1, r1, s0, s1⟩
                by_cases c0 : 0 ≤ y0
                · have hc0 : (decide (0 ≤ y0)) = true := by simp [c0]
                  by_cases c1 : 0 ≤ y1
                  · have hc1 : (decide (0 ≤ y1)) = true := by simp [c1]
                    go_wp2_with fail
                    refine anyTill_region (fun W => W.cell? ⟨w.heap.size, 0, none⟩ = some (.int .i64 (u : Int)) ∧ W.cell? ⟨w.heap.size, 1, none⟩ = some (.slice (some ⟨gb, 0, none⟩) m m) ∧ W.cell? ⟨X, 1, none⟩ = some (.slice (some ⟨G, 0, none⟩) m m) ∧ W.cell? ⟨gc, a, none⟩ = some (.int .i64 y0) ∧ W.cell? ⟨gc, b, none⟩ = some (.int .i64 y1)) 27 (by kernel_rfl) ?_
                    refine anyTill_take (i := 0) (v := ?_) rfl rfl (by kernel_rfl) (by kernel_rfl) (by kernel_rfl) (by kernel_rfl) (fun _ _ _ h => h) (Or.inl ⟨by rfl, ?_⟩) (by assumption) ?_
                    rotate_left 1
                    · intro W hSw
                      obtain ⟨g0, g1, g2, g3, g4⟩ := hSw
                      go_simp
                      try with_reducible rfl
                    refine anyTill_take (i := 1) (v := ?_) rfl rfl (by kernel_rfl) (by kernel_rfl) (by kernel_rfl) (by kernel_rfl) (fun _ _ _ h => h) (Or.inl ⟨by rfl, ?_⟩) (by assumption) ?_
                    rotate_left 1
                    · intro W hSw
                      obtain ⟨g0, g1, g2, g3, g4⟩ := hSw
                      go_simp
                      try with_reducible rfl
                    refine anyTill_take (i := 2) (v := ?_) rfl rfl (by kernel_rfl) (by kernel_rfl) (by kernel_rfl) (by kernel_rfl) (fun _ _ _ h => h) (Or.inl ⟨by rfl, ?_⟩) (by assumption) ?_
                    rotate_left 1
                    · intro W hSw
                      obtain ⟨g0, g1, g2, g3, g4⟩ := hSw
                      go_simp
                      try with_reducible rfl
                    refine anyTill_take (i := 3) (v := ?_) rfl rfl (by kernel_rfl) (by kernel_rfl) (by kernel_rfl) (by kernel_rfl) (fun _ _ _ h => h) (Or.inl ⟨by rfl, ?_⟩) (by assumption) ?_
                    rotate_left 1
                    · intro W hSw
                      obtain ⟨g0, g1, g2, g3, g4⟩ := hSw
                      go_simp
                      try with_reducible rfl
                    refine anyTill_take (i := 4) (v := ?_) rfl rfl (by kernel_rfl) (by kernel_rfl) (by kernel_rfl) (by kernel_rfl) (fun _ _ _ h => h) (Or.inl ⟨by rfl, ?_⟩) (by assumption) ?_
                    rotate_left 1
                    · intro W hSw
                      obtain ⟨g0, g1, g2, g3, g4⟩ := hSw
                      go_simp
                      try with_reducible rfl
                    refine anyTill_take (i := 5) (v := .int .i64 ((a : Int) * (u : Int))) rfl rfl (by kernel_rfl) (by kernel_rfl) (by kernel_rfl) (by kernel_rfl) (fun _ _ _ h => h) (Or.inl ⟨by rfl, ?_⟩) (by assumption) ?_
                    · intro W hSw
                      go_simp
                      (try simp only [hwm, hwa, hwx])
                      (try with_reducible rfl)
                    refine anyTill_take (i := 6) (v := ?_) rfl rfl (by kernel_rfl) (by kernel_rfl) (by kernel_rfl) (by kernel_rfl) (fun _ _ _ h => h) (Or.inl ⟨by rfl, ?_⟩) (by assumption) ?_
                    rotate_left 1
                    · intro W hSw
                      obtain ⟨g0, g1, g2, g3, g4⟩ := hSw
                      go_simp
                      try with_reducible rfl
                    refine anyTill_take (i := 7) (v := .int .i64 (ix : Int)) rfl rfl (by kernel_rfl) (by kernel_rfl) (by kernel_rfl) (by kernel_rfl) (fun _ _ _ h => h) (Or.inl ⟨by rfl, ?_⟩) (by assumption) ?_
                    · intro W hSw
                      go_simp
                      (try simp only [hwm, hwa, hwx])
                      (try with_reducible rfl)
                    refine anyTill_take (i := 8) (v := ?_) rfl rfl (by kernel_rfl) (by kernel_rfl) (by kernel_rfl) (by kernel_rfl) (fun _ _ _ h => h) (Or.inl ⟨by rfl, ?_⟩) (by assumption) ?_
                    rotate_left 1
                    · intro W hSw
                      obtain ⟨g0, g1, g2, g3, g4⟩ := hSw
                      go_simp
                      try with_reducible rfl
                    refine anyTill_take (i := 9) (v := ?_) rfl rfl (by kernel_rfl) (by kernel_rfl) (by kernel_rfl) (by kernel_rfl) (fun _ _ _ h => h) (Or.inl ⟨by rfl, ?_⟩) (by assumption) ?_
                    rotate_left 1
                    · intro W hSw
                      obtain ⟨g0, g1, g2, g3, g4⟩ := hSw
                      go_simp
                      try with_reducible rfl
                    refine anyTill_take (i := 10) (v := ?_) rfl rfl (by kernel_rfl) (by kernel_rfl) (by kernel_rfl) (by kernel_rfl) (fun _ _ _ h => h) (Or.inl ⟨by rfl, ?_⟩) (by assumption) ?_
                    rotate_left 1
                    · intro W hSw
                      obtain ⟨g0, g1, g2, g3, g4⟩ := hSw
                      go_simp
                      try with_reducible rfl
                    refine anyTill_take (i := 11) (v := ?_) rfl rfl (by kernel_rfl) (by kernel_rfl) (by kernel_rfl) (by kernel_rfl) (fun _ _ _ h => h) (Or.inl ⟨by rfl, ?_⟩) (by assumption) ?_
                    rotate_left 1
                    · intro W hSw
                      obtain ⟨g0, g1, g2, g3, g4⟩ := hSw
                      go_simp
                      try with_reducible rfl
                    refine anyTill_take (i := 12) (v := ?_) rfl rfl (by kernel_rfl) (by kernel_rfl) (by kernel_rfl) (by kernel_rfl) (fun _ _ _ h => h) (Or.inl ⟨by rfl, ?_⟩) (by assumption) ?_
                    rotate_left 1
                    · intro W hSw
                      obtain ⟨g0, g1, g2, g3, g4⟩ := hSw
                      go_simp
                      try with_reducible rfl
                    refine anyTill_take (i := 13) (v := ?_) rfl rfl (by kernel_rfl) (by kernel_rfl) (by kernel_rfl) (by kernel_rfl) (fun _ _ _ h => h) (Or.inl ⟨by rfl, ?_⟩) (by assumption) ?_
                    rotate_left 1
                    · intro W hSw
                      obtain ⟨g0, g1, g2, g3, g4⟩ := hSw
                      go_simp
                      try with_reducible rfl
                    refine anyTill_take (i := 14) (v := ?_) rfl rfl (by kernel_rfl) (by kernel_rfl) (by kernel_rfl) (by kernel_rfl) (fun _ _ _ h => h) (Or.inl ⟨by kernel_rfl, ?_⟩) (by assumption) ?_
                    rotate_left 1
                    · intro W hSw
                      obtain ⟨g0, g1, g2, g3, g4⟩ := hSw
                      go_simp
                      try with_reducible rfl
                    refine anyTill_take (i := 15) (v := ?_) rfl rfl (by kernel_rfl) (by kernel_rfl) (by kernel_rfl) (by kernel_rfl) (fun _ _ _ h => h) (Or.inl ⟨by kernel_rfl, ?_⟩) (by assumption) ?_
                    rotate_left 1
                    · intro W hSw
                      obtain ⟨g0, g1, g2, g3, g4⟩ := hSw
                      go_simp
                      try with_reducible rfl
                    refine anyTill_take (i := 16) (v := ?_) rfl rfl (by kernel_rfl) (by kernel_rfl) (by kernel_rfl) (by kernel_rfl) (fun _ _ _ h => h) (Or.inl ⟨by kernel_rfl, ?_⟩) (by assumption) ?_
                    rotate_left 1
                    · intro W hSw
                      obtain ⟨g0, g1, g2, g3, g4⟩ := hSw
                      go_simp
                      try with_reducible rfl
                    refine anyTill_take (i := 17) (v := ?_) rfl rfl (by kernel_rfl) (by kernel_rfl) (by kernel_rfl) (by kernel_rfl) (fun _ _ _ h => h) (Or.inl ⟨by kernel_rfl, ?_⟩) (by assumption) ?_
                    rotate_left 1
                    · intro W hSw
                      obtain ⟨g0, g1, g2, g3, g4⟩ := hSw
                      go_simp
                      try with_reducible rfl
                    refine anyTill_take (i := 18) (v := ?_) rfl rfl (by kernel_rfl) (by kernel_rfl) (by kernel_rfl) (by kernel_rfl) (fun _ _ _ h => h) (Or.inl ⟨by kernel_rfl, ?_⟩) (by assumption) ?_
                    rotate_left 1
                    · intro W hSw
                      obtain ⟨g0, g1, g2, g3, g4⟩ := hSw
                      go_simp
                      try with_reducible rfl
                    refine anyTill_take (i := 19) (v := ?_) rfl rfl (by kernel_rfl) (by kernel_rfl) (by kernel_rfl) (by kernel_rfl) (fun _ _ _ h => h) (Or.inl ⟨by kernel_rfl, ?_⟩) (by assumption) ?_
                    rotate_left 1
                    · intro W hSw
                      obtain ⟨g0, g1, g2, g3, g4⟩ := hSw
                      go_simp
                      try with_reducible rfl
                    refine anyTill_take (i := 20) (v := ?_) rfl rfl (by kernel_rfl) (by kernel_rfl) (by kernel_rfl) (by kernel_rfl) (fun _ _ _ h => h) (Or.inl ⟨by kernel_rfl, ?_⟩) (by assumption) ?_
                    rotate_left 1
                    · intro W hSw
                      obtain ⟨g0, g1, g2, g3, g4⟩ := hSw
                      go_simp
                      try with_reducible rfl
                    refine anyTill_take (i := 21) (v := ?_) rfl rfl (by kernel_rfl) (by kernel_rfl) (by kernel_rfl) (by kernel_rfl) (fun _ _ _ h => h) (Or.inl ⟨by kernel_rfl, ?_⟩) (by assumption) ?_
                    rotate_left 1
                    · intro W hSw
                      obtain ⟨g0, g1, g2, g3, g4⟩ := hSw
                      go_simp
                      try with_reducible rfl
                    refine anyTill_take (i := 22) (v := ?_) rfl rfl (by kernel_rfl) (by kernel_rfl) (by kernel_rfl) (by kernel_rfl) (fun _ _ _ h => h) (Or.inl ⟨by kernel_rfl, ?_⟩) (by assumption) ?_
                    rotate_left 1
                    · intro W hSw
                      obtain ⟨g0, g1, g2, g3, g4⟩ := hSw
                      go_simp
                      try with_reducible rfl
                    refine anyTill_take (i := 23) (v := ?_) rfl rfl (by kernel_rfl) (by kernel_rfl) (by kernel_rfl) (by kernel_rfl) (fun _ _ _ h => h) (Or.inl ⟨by kernel_rfl, ?_⟩) (by assumption) ?_
                    rotate_left 1
                    · intro W hSw
                      obtain ⟨g0, g1, g2, g3, g4⟩ := hSw
                      go_simp
                      try with_reducible rfl
                    refine anyTill_one (i := 24) (by kernel_rfl) rfl (by kernel_rfl) (fun K hK => ?_)
                    go_simp
                    refine (unhide KM _ (Below.refl _ _).drew).mono ?_
                    rintro _ w6 ⟨rfl, b6⟩
                    have b6' : Below wr.heap.size wr w6 := (Below.refl _ _).drew.trans b6
                    have hHeld6 : (fun W => W.cell? ⟨w.heap.size, 0, none⟩ = some (.int .i64 (u : Int)) ∧ W.cell? ⟨w.heap.size, 1, none⟩ = some (.slice (some ⟨gb, 0, none⟩) m m) ∧ W.cell? ⟨X, 1, none⟩ = some (.slice (some ⟨G, 0, none⟩) m m) ∧ W.cell? ⟨gc, a, none⟩ = some (.int .i64 y0) ∧ W.cell? ⟨gc, b, none⟩ = some (.int .i64 y1)) w6 := ⟨(b6'.cell (p := ⟨w.heap.size, 0, none⟩) hwl).trans p0, (b6'.cell (p := ⟨w.heap.size, 1, none⟩) hwl).trans p1, (b6'.cell (p := ⟨X, 1, none⟩) hXl).trans r1, (b6'.cell (p := ⟨gc, a, none⟩) hcl).trans s0, (b6'.cell (p := ⟨gc, b, none⟩) hcl).trans s1⟩
                    have g6c := (b6'.cell (p := ⟨G, ix, none⟩) hGw).trans g5c
                    have g6f := ((unhide HR2).below b6' ix hixm).2
                    have HC6 := hide ((unhide HC2).trans (Chg.of_below b6'))
                    have HC9 := hide ((unhide HC6).trans (Chg.of_set (S := fun j => j = G) w6 G ix (.bool q0) rfl))
                    have HN := hide (unhide HPUT w6 q0 (unhide HC6) ((unhide HR2).below b6') (by rw [Bool.eq_iff_iff, unhide HPT]; simp [c0, c1]))
                    clear hHeld b6 b6' KM g5c g5f
                    have hHeld := hHeld6
                    clear hHeld6
                    refine hK _ _ (fun _ => hHeld) ?_
                    clear hK K
                    refine anyTill_one (i := 25) (by kernel_rfl) rfl (by kernel_rfl) (fun K hK => ?_)
                    go_simp
                    refine hK _ _ (fun _ => hHeld) ?_
                    clear hK K
                    refine anyTill_one (i := 26) (by kernel_rfl) rfl (by kernel_rfl) (fun K hK => ?_)
                    go_simp
                    refine hK _ _ (fun _ => hHeld) ?_
                    clear hK K
                    refine anyTill_one (i := 27) (by kernel_rfl) rfl (by kernel_rfl) (fun K hK => ?_)
                    go_simp
                    refine hK _ _ (fun h => absurd rfl h) ?_
                    clear hK K
                    refine anyTill_done (by kernel_rfl) ?_
                    clear hHeld
                    go_wp2_with fail
                    exact ⟨⟨b + 1, by omega, by (first | rfl | go_num), HN, HC9⟩, by simp [intOf]; omega⟩
                  · have hc1 : (decide (0 ≤ y1)) = false := by simp; omega
                    have HC9 := hide (((unhide HC2).trans (Chg.of_drew _)).trans (Chg.of_set (S := fun j => j = G) wr.drew G ix (.bool false) rfl))
                    have HN := hide (unhide HPUT wr.drew false ((unhide HC2).trans (Chg.of_drew _)) ((unhide HR2).below (Below.refl _ _).drew) (by rw [Bool.eq_false_iff]; intro e; exact c1 ((unhide HPT).1 e).2.1))
                    go_wp2_with fail
                    refine anyTill_region (fun W => W.cell? ⟨w.heap.size, 0, none⟩ = some (.int .i64 (u : Int)) ∧ W.cell? ⟨w.heap.size, 1, none⟩ = some (.slice (some ⟨gb, 0, none⟩) m m) ∧ W.cell? ⟨X, 1, none⟩ = some (.slice (some ⟨G, 0, none⟩) m m) ∧ W.cell? ⟨gc, a, none⟩ = some (.int .i64 y0) ∧ W.cell? ⟨gc, b, none⟩ = some (.int .i64 y1)) 27 (by kernel_rfl) ?_
                    refine anyTill_take (i := 0) (v := ?_) rfl rfl (by kernel_rfl) (by kernel_rfl) (by kernel_rfl) (by kernel_rfl) (fun _ _ _ h => h) (Or.inl ⟨by rfl, ?_⟩) (by assumption) ?_
                    rotate_left 1
                    · intro W hSw
                      obtain ⟨g0, g1, g2, g3, g4⟩ := hSw
                      go_simp
                      try with_reducible rfl
                    refine anyTill_take (i := 1) (v := ?_) rfl rfl (by kernel_rfl) (by kernel_rfl) (by kernel_rfl) (by kernel_rfl) (fun _ _ _ h => h) (Or.inl ⟨by rfl, ?_⟩) (by assumption) ?_
                    rotate_left 1
                    · intro W hSw
                      obtain ⟨g0, g1, g2, g3, g4⟩ := hSw
                      go_simp
                      try with_reducible rfl
                    refine anyTill_take (i := 2) (v := ?_) rfl rfl (by kernel_rfl) (by kernel_rfl) (by kernel_rfl) (by kernel_rfl) (fun _ _ _ h => h) (Or.inl ⟨by rfl, ?_⟩) (by assumption) ?_
                    rotate_left 1
                    · intro W hSw
                      obtain ⟨g0, g1, g2, g3, g4⟩ := hSw
                      go_simp
                      try with_reducible rfl
                    refine anyTill_take (i := 3) (v := ?_) rfl rfl (by kernel_rfl) (by kernel_rfl) (by kernel_rfl) (by kernel_rfl) (fun _ _ _ h => h) (Or.inl ⟨by rfl, ?_⟩) (by assumption) ?_
                    rotate_left 1
                    · intro W hSw
                      obtain ⟨g0, g1, g2, g3, g4⟩ := hSw
                      go_simp
                      try with_reducible rfl
                    refine anyTill_take (i := 4) (v := ?_) rfl rfl (by kernel_rfl) (by kernel_rfl) (by kernel_rfl) (by kernel_rfl) (fun _ _ _ h => h) (Or.inl ⟨by rfl, ?_⟩) (by assumption) ?_
                    rotate_left 1
                    · intro W hSw
                      obtain ⟨g0, g1, g2, g3, g4⟩ := hSw
                      go_simp
                      try with_reducible rfl
                    refine anyTill_take (i := 5) (v := .int .i64 ((a : Int) * (u : Int))) rfl rfl (by kernel_rfl) (by kernel_rfl) (by kernel_rfl) (by kernel_rfl) (fun _ _ _ h => h) (Or.inl ⟨by rfl, ?_⟩) (by assumption) ?_
                    · intro W hSw
                      go_simp
                      (try simp only [hwm, hwa, hwx])
                      (try with_reducible rfl)
                    refine anyTill_take (i := 6) (v := ?_) rfl rfl (by kernel_rfl) (by kernel_rfl) (by kernel_rfl) (by kernel_rfl) (fun _ _ _ h => h) (Or.inl ⟨by rfl, ?_⟩) (by assumption) ?_
                    rotate_left 1
                    · intro W hSw
                      obtain ⟨g0, g1, g2, g3, g4⟩ := hSw
                      go_simp
                      try with_reducible rfl
                    refine anyTill_take (i := 7) (v := .int .i64 (ix : Int)) rfl rfl (by kernel_rfl) (by kernel_rfl) (by kernel_rfl) (by kernel_rfl) (fun _ _ _ h => h) (Or.inl ⟨by rfl, ?_⟩) (by assumption) ?_
                    · intro W hSw
                      go_simp
                      (try simp only [hwm, hwa, hwx])
                      (try with_reducible rfl)
                    refine anyTill_take (i := 8) (v := ?_) rfl rfl (by kernel_rfl) (by kernel_rfl) (by kernel_rfl) (by kernel_rfl) (fun _ _ _ h => h) (Or.inl ⟨by rfl, ?_⟩) (by assumption) ?_
                    rotate_left 1
                    · intro W hSw
                      obtain ⟨g0, g1, g2, g3, g4⟩ := hSw
                      go_simp
                      try with_reducible rfl
                    refine anyTill_take (i := 9) (v := ?_) rfl rfl (by kernel_rfl) (by kernel_rfl) (by kernel_rfl) (by kernel_rfl) (fun _ _ _ h => h) (Or.inl ⟨by rfl, ?_⟩) (by assumption) ?_
                    rotate_left 1
                    · intro W hSw
                      obtain ⟨g0, g1, g2, g3, g4⟩ := hSw
                      go_simp
                      try with_reducible rfl
                    refine anyTill_take (i := 10) (v := ?_) rfl rfl (by kernel_rfl) (by kernel_rfl) (by kernel_rfl) (by kernel_rfl) (fun _ _ _ h => h) (Or.inl ⟨by rfl, ?_⟩) (by assumption) ?_
                    rotate_left 1
                    · intro W hSw
                      obtain ⟨g0, g1, g2, g3, g4⟩ := hSw
                      go_simp
                      try with_reducible rfl
                    refine anyTill_take (i := 11) (v := ?_) rfl rfl (by kernel_rfl) (by kernel_rfl) (by kernel_rfl) (by kernel_rfl) (fun _ _ _ h => h) (Or.inl ⟨by rfl, ?_⟩) (by assumption) ?_
                    rotate_left 1
                    · intro W hSw
                      obtain ⟨g0, g1, g2, g3, g4⟩ := hSw
                      go_simp
                      try with_reducible rfl
                    refine anyTill_take (i := 12) (v := ?_) rfl rfl (by kernel_rfl) (by kernel_rfl) (by kernel_rfl) (by kernel_rfl) (fun _ _ _ h => h) (Or.inl ⟨by rfl, ?_⟩) (by assumption) ?_
                    rotate_left 1
                    · intro W hSw
                      obtain ⟨g0, g1, g2, g3, g4⟩ := hSw
                      go_simp
                      try with_reducible rfl
                    refine anyTill_take (i := 13) (v := ?_) rfl rfl (by kernel_rfl) (by kernel_rfl) (by kernel_rfl) (by kernel_rfl) (fun _ _ _ h => h) (Or.inl ⟨by rfl, ?_⟩) (by assumption) ?_
                    rotate_left 1
                    · intro W hSw
                      obtain ⟨g0, g1, g2, g3, g4⟩ := hSw
                      go_simp
                      try with_reducible rfl
                    refine anyTill_take (i := 14) (v := ?_) rfl rfl (by kernel_rfl) (by kernel_rfl) (by kernel_rfl) (by kernel_rfl) (fun _ _ _ h => h) (Or.inl ⟨by kernel_rfl, ?_⟩) (by assumption) ?_
                    rotate_left 1
                    · intro W hSw
                      obtain ⟨g0, g1, g2, g3, g4⟩ := hSw
                      go_simp
                      try with_reducible rfl
                    refine anyTill_take (i := 15) (v := ?_) rfl rfl (by kernel_rfl) (by kernel_rfl) (by kernel_rfl) (by kernel_rfl) (fun _ _ _ h => h) (Or.inl ⟨by kernel_rfl, ?_⟩) (by assumption) ?_
                    rotate_left 1
                    · intro W hSw
                      obtain ⟨g0, g1, g2, g3, g4⟩ := hSw
                      go_simp
                      try with_reducible rfl
                    refine anyTill_take (i := 16) (v := ?_) rfl rfl (by kernel_rfl) (by kernel_rfl) (by kernel_rfl) (by kernel_rfl) (fun _ _ _ h => h) (Or.inl ⟨by kernel_rfl, ?_⟩) (by assumption) ?_
                    rotate_left 1
                    · intro W hSw
                      obtain ⟨g0, g1, g2, g3, g4⟩ := hSw
                      go_simp
                      try with_reducible rfl
                    refine anyTill_take (i := 17) (v := ?_) rfl rfl (by kernel_rfl) (by kernel_rfl) (by kernel_rfl) (by kernel_rfl) (fun _ _ _ h => h) (Or.inl ⟨by kernel_rfl, ?_⟩) (by assumption) ?_
                    rotate_left 1
                    · intro W hSw
                      obtain ⟨g0, g1, g2, g3, g4⟩ := hSw
                      go_simp
                      try with_reducible rfl
                    refine anyTill_take (i := 18) (v := ?_) rfl rfl (by kernel_rfl) (by kernel_rfl) (by kernel_rfl) (by kernel_rfl) (fun _ _ _ h => h) (Or.inl ⟨by kernel_rfl, ?_⟩) (by assumption) ?_
                    rotate_left 1
                    · intro W hSw
                      obtain ⟨g0, g1, g2, g3, g4⟩ := hSw
                      go_simp
                      try with_reducible rfl
                    refine anyTill_take (i := 19) (v := ?_) rfl rfl (by kernel_rfl) (by kernel_rfl) (by kernel_rfl) (by kernel_rfl) (fun _ _ _ h => h) (Or.inl ⟨by kernel_rfl, ?_⟩) (by assumption) ?_
                    rotate_left 1
                    · intro W hSw
                      obtain ⟨g0, g1, g2, g3, g4⟩ := hSw
                      go_simp
                      try with_reducible rfl
                    refine anyTill_take (i := 20) (v := ?_) rfl rfl (by kernel_rfl) (by kernel_rfl) (by kernel_rfl) (by kernel_rfl) (fun _ _ _ h => h) (Or.inl ⟨by kernel_rfl, ?_⟩) (by assumption) ?_
                    rotate_left 1
                    · intro W hSw
                      obtain ⟨g0, g1, g2, g3, g4⟩ := hSw
                      go_simp
                      try with_reducible rfl
                    refine anyTill_take (i := 21) (v := undef) rfl rfl (by kernel_rfl) (by kernel_rfl) (by kernel_rfl) (by kernel_rfl) (fun _ _ _ h => h) (Or.inr ⟨by kernel_rfl, rfl⟩) (by assumption) ?_
                    refine anyTill_take (i := 22) (v := undef) rfl rfl (by kernel_rfl) (by kernel_rfl) (by kernel_rfl) (by kernel_rfl) (fun _ _ _ h => h) (Or.inr ⟨by kernel_rfl, rfl⟩) (by assumption) ?_
                    refine anyTill_take (i := 23) (v := undef) rfl rfl (by kernel_rfl) (by kernel_rfl) (by kernel_rfl) (by kernel_rfl) (fun _ _ _ h => h) (Or.inr ⟨by kernel_rfl, rfl⟩) (by assumption) ?_
                    refine anyTill_take (i := 24) (v := undef) rfl rfl (by kernel_rfl) (by kernel_rfl) (by kernel_rfl) (by kernel_rfl) (fun _ _ _ h => h) (Or.inr ⟨by kernel_rfl, rfl⟩) (by assumption) ?_
                    refine anyTill_take (i := 25) (v := ?_) rfl rfl (by kernel_rfl) (by kernel_rfl) (by kernel_rfl) (by kernel_rfl) (fun _ _ _ h => h) (Or.inl ⟨by kernel_rfl, ?_⟩) (by assumption) ?_
                    rotate_left 1
                    · intro W hSw
                      obtain ⟨g0, g1, g2, g3, g4⟩ := hSw
                      go_simp
                      try with_reducible rfl
                    refine anyTill_one (i := 26) (by kernel_rfl) rfl (by kernel_rfl) (fun K hK => ?_)
                    go_simp
                    refine hK _ _ (fun _ => hHeld) ?_
                    clear hK K
                    refine anyTill_one (i := 27) (by kernel_rfl) rfl (by kernel_rfl) (fun K hK => ?_)
                    go_simp
                    refine hK _ _ (fun h => absurd rfl h) ?_
                    clear hK K
                    refine anyTill_done (by kernel_rfl) ?_
                    clear hHeld
                    go_wp2_with fail
                    exact ⟨⟨b + 1, by omega, by (first | rfl | go_num), HN, HC9⟩, by simp [intOf]; omega⟩
                · have hc0 : (decide (0 ≤ y0)) = false := by simp; omega
                  have HC9 := hide (((unhide HC2).trans (Chg.of_drew _)).trans (Chg.of_set (S := fun j => j = G) wr.drew G ix (.bool false) rfl))
                  have HN := hide (unhide HPUT wr.drew false ((unhide HC2).trans (Chg.of_drew _)) ((unhide HR2).below (Below.refl _ _).drew) (by rw [Bool.eq_false_iff]; intro e; exact c0 ((unhide HPT).1 e).1))
                  go_wp2_with fail
                  refine anyTill_region (fun W => W.cell? ⟨w.heap.size, 0, none⟩ = some (.int .i64 (u : Int)) ∧ W.cell? ⟨w.heap.size, 1, none⟩ = some (.slice (some ⟨gb, 0, none⟩) m m) ∧ W.cell? ⟨X, 1, none⟩ = some (.slice (some ⟨G, 0, none⟩) m m) ∧ W.cell? ⟨gc, a, none⟩ = some (.int .i64 y0) ∧ W.cell? ⟨gc, b, none⟩ = some (.int .i64 y1)) 27 (by kernel_rfl) ?_
                  refine anyTill_take (i := 0) (v := ?_) rfl rfl (by kernel_rfl) (by kernel_rfl) (by kernel_rfl) (by kernel_rfl) (fun _ _ _ h => h) (Or.inl ⟨by rfl, ?_⟩) (by assumption) ?_
                  rotate_left 1
                  · intro W hSw
                    obtain ⟨g0, g1, g2, g3, g4⟩ := hSw
                    go_simp
                    try with_reducible rfl
                  refine anyTill_take (i := 1) (v := ?_) rfl rfl (by kernel_rfl) (by kernel_rfl) (by kernel_rfl) (by kernel_rfl) (fun _ _ _ h => h) (Or.inl ⟨by rfl, ?_⟩) (by assumption) ?_
                  rotate_left 1
                  · intro W hSw
                    obtain ⟨g0, g1, g2, g3, g4⟩ := hSw
                    go_simp
                    try with_reducible rfl
                  refine anyTill_take (i := 2) (v := ?_) rfl rfl (by kernel_rfl) (by kernel_rfl) (by kernel_rfl) (by kernel_rfl) (fun _ _ _ h => h) (Or.inl ⟨by rfl, ?_⟩) (by assumption) ?_
                  rotate_left 1
                  · intro W hSw
                    obtain ⟨g0, g1, g2, g3, g4⟩ := hSw
                    go_simp
                    try with_reducible rfl
                  refine anyTill_take (i := 3) (v := ?_) rfl rfl (by kernel_rfl) (by kernel_rfl) (by kernel_rfl) (by kernel_rfl) (fun _ _ _ h => h) (Or.inl ⟨by rfl, ?_⟩) (by assumption) ?_
                  rotate_left 1
                  · intro W hSw
                    obtain ⟨g0, g1, g2, g3, g4⟩ := hSw
                    go_simp
                    try with_reducible rfl
                  refine anyTill_take (i := 4) (v := ?_) rfl rfl (by kernel_rfl) (by kernel_rfl) (by kernel_rfl) (by kernel_rfl) (fun _ _ _ h => h) (Or.inl ⟨by rfl, ?_⟩) (by assumption) ?_
                  rotate_left 1
                  · intro W hSw
                    obtain ⟨g0, g1, g2, g3, g4⟩ := hSw
                    go_simp
                    try with_reducible rfl
                  refine anyTill_take (i := 5) (v := .int .i64 ((a : Int) * (u : Int))) rfl rfl (by kernel_rfl) (by kernel_rfl) (by kernel_rfl) (by kernel_rfl) (fun _ _ _ h => h) (Or.inl ⟨by rfl, ?_⟩) (by assumption) ?_
                  · intro W hSw
                    go_simp
                    (try simp only [hwm, hwa, hwx])
                    (try with_reducible rfl)
                  refine anyTill_take (i := 6) (v := ?_) rfl rfl (by kernel_rfl) (by kernel_rfl) (by kernel_rfl) (by kernel_rfl) (fun _ _ _ h => h) (Or.inl ⟨by rfl, ?_⟩) (by assumption) ?_
                  rotate_left 1
                  · intro W hSw
                    obtain ⟨g0, g1, g2, g3, g4⟩ := hSw
                    go_simp
                    try with_reducible rfl
                  refine anyTill_take (i := 7) (v := .int .i64 (ix : Int)) rfl rfl (by kernel_rfl) (by kernel_rfl) (by kernel_rfl) (by kernel_rfl) (fun _ _ _ h => h) (Or.inl ⟨by rfl, ?_⟩) (by assumption) ?_
                  · intro W hSw
                    go_simp
                    (try simp only [hwm, hwa, hwx])
                    (try with_reducible rfl)
                  refine anyTill_take (i := 8) (v := ?_) rfl rfl (by kernel_rfl) (by kernel_rfl) (by kernel_rfl) (by kernel_rfl) (fun _ _ _ h => h) (Or.inl ⟨by rfl, ?_⟩) (by assumption) ?_
                  rotate_left 1
                  · intro W hSw
                    obtain ⟨g0, g1, g2, g3, g4⟩ := hSw
                    go_simp
                    try with_reducible rfl
                  refine anyTill_take (i := 9) (v := ?_) rfl rfl (by kernel_rfl) (by kernel_rfl) (by kernel_rfl) (by kernel_rfl) (fun _ _ _ h => h) (Or.inl ⟨by rfl, ?_⟩) (by assumption) ?_
                  rotate_left 1
                  · intro W hSw
                    obtain ⟨g0, g1, g2, g3, g4⟩ := hSw
                    go_simp
                    try with_reducible rfl
                  refine anyTill_take (i := 10) (v := ?_) rfl rfl (by kernel_rfl) (by kernel_rfl) (by kernel_rfl) (by kernel_rfl) (fun _ _ _ h => h) (Or.inl ⟨by rfl, ?_⟩) (by assumption) ?_
                  rotate_left 1
                  · intro W hSw
                    obtain ⟨g0, g1, g2, g3, g4⟩ := hSw
                    go_simp
                    try with_reducible rfl
                  refine anyTill_take (i := 11) (v := ?_) rfl rfl (by kernel_rfl) (by kernel_rfl) (by kernel_rfl) (by kernel_rfl) (fun _ _ _ h => h) (Or.inl ⟨by rfl, ?_⟩) (by assumption) ?_
                  rotate_left 1
                  · intro W hSw
                    obtain ⟨g0, g1, g2, g3, g4⟩ := hSw
                    go_simp
                    try with_reducible rfl
                  refine anyTill_take (i := 12) (v := ?_) rfl rfl (by kernel_rfl) (by kernel_rfl) (by kernel_rfl) (by kernel_rfl) (fun _ _ _ h => h) (Or.inl ⟨by rfl, ?_⟩) (by assumption) ?_
                  rotate_left 1
                  · intro W hSw
                    obtain ⟨g0, g1, g2, g3, g4⟩ := hSw
                    go_simp
                    try with_reducible rfl
                  refine anyTill_take (i := 13) (v := ?_) rfl rfl (by kernel_rfl) (by kernel_rfl) (by kernel_rfl) (by kernel_rfl) (fun _ _ _ h => h) (Or.inl ⟨by rfl, ?_⟩) (by assumption) ?_
                  rotate_left 1
                  · intro W hSw
                    obtain ⟨g0, g1, g2, g3, g4⟩ := hSw
                    go_simp
                    try with_reducible rfl
                  refine anyTill_take (i := 14) (v := undef) rfl rfl (by kernel_rfl) (by kernel_rfl) (by kernel_rfl) (by kernel_rfl) (fun _ _ _ h => h) (Or.inr ⟨by kernel_rfl, rfl⟩) (by assumption) ?_
                  refine anyTill_take (i := 15) (v := undef) rfl rfl (by kernel_rfl) (by kernel_rfl) (by kernel_rfl) (by kernel_rfl) (fun _ _ _ h => h) (Or.inr ⟨by kernel_rfl, rfl⟩) (by assumption) ?_
                  refine anyTill_take (i := 16) (v := undef) rfl rfl (by kernel_rfl) (by kernel_rfl) (by kernel_rfl) (by kernel_rfl) (fun _ _ _ h => h) (Or.inr ⟨by kernel_rfl, rfl⟩) (by assumption) ?_
                  refine anyTill_take (i := 17) (v := undef) rfl rfl (by kernel_rfl) (by kernel_rfl) (by kernel_rfl) (by kernel_rfl) (fun _ _ _ h => h) (Or.inr ⟨by kernel_rfl, rfl⟩) (by assumption) ?_
                  refine anyTill_take (i := 18) (v := undef) rfl rfl (by kernel_rfl) (by kernel_rfl) (by kernel_rfl) (by kernel_rfl) (fun _ _ _ h => h) (Or.inr ⟨by kernel_rfl, rfl⟩) (by assumption) ?_
                  refine anyTill_take (i := 19) (v := ?_) rfl rfl (by kernel_rfl) (by kernel_rfl) (by kernel_rfl) (by kernel_rfl) (fun _ _ _ h => h) (Or.inl ⟨by kernel_rfl, ?_⟩) (by assumption) ?_
                  rotate_left 1
                  · intro W hSw
                    obtain ⟨g0, g1, g2, g3, g4⟩ := hSw
                    go_simp
                    try with_reducible rfl
                  refine anyTill_take (i := 20) (v := ?_) rfl rfl (by kernel_rfl) (by kernel_rfl) (by kernel_rfl) (by kernel_rfl) (fun _ _ _ h => h) (Or.inl ⟨by kernel_rfl, ?_⟩) (by assumption) ?_
                  rotate_left 1
                  · intro W hSw
                    obtain ⟨g0, g1, g2, g3, g4⟩ := hSw
                    go_simp
                    try with_reducible rfl
                  refine anyTill_take (i := 21) (v := undef) rfl rfl (by kernel_rfl) (by kernel_rfl) (by kernel_rfl) (by kernel_rfl) (fun _ _ _ h => h) (Or.inr ⟨by kernel_rfl, rfl⟩) (by assumption) ?_
                  refine anyTill_take (i := 22) (v := undef) rfl rfl (by kernel_rfl) (by kernel_rfl) (by kernel_rfl) (by kernel_rfl) (fun _ _ _ h => h) (Or.inr ⟨by kernel_rfl, rfl⟩) (by assumption) ?_
                  refine anyTill_take (i := 23) (v := undef) rfl rfl (by kernel_rfl) (by kernel_rfl) (by kernel_rfl) (by kernel_rfl) (fun _ _ _ h => h) (Or.inr ⟨by kernel_rfl, rfl⟩) (by assumption) ?_
                  refine anyTill_take (i := 24) (v := undef) rfl rfl (by kernel_rfl) (by kernel_rfl) (by kernel_rfl) (by kernel_rfl) (fun _ _ _ h => h) (Or.inr ⟨by kernel_rfl, rfl⟩) (by assumption) ?_
                  refine anyTill_take (i := 25) (v := ?_) rfl rfl (by kernel_rfl) (by kernel_rfl) (by kernel_rfl) (by kernel_rfl) (fun _ _ _ h => h) (Or.inl ⟨by kernel_rfl, ?_⟩) (by assumption) ?_
                  rotate_left 1
                  · intro W hSw
                    obtain ⟨g0, g1, g2, g3, g4⟩ := hSw
                    go_simp
                    try with_reducible rfl
                  refine anyTill_one (i := 26) (by kernel_rfl) rfl (by kernel_rfl) (fun K hK => ?_)
                  go_simp
                  refine hK _ _ (fun _ => hHeld) ?_
                  clear hK K
                  refine anyTill_one (i := 27) (by kernel_rfl) rfl (by kernel_rfl) (fun K hK => ?_)
                  go_simp
                  refine hK _ _ (fun h => absurd rfl h) ?_
                  clear hK K
                  refine anyTill_done (by kernel_rfl) ?_
                  clear hHeld
                  go_wp2_with fail
                  exact ⟨⟨b + 1, by omega, by (first | rfl | go_num), HN, HC9⟩, by simp [intOf]; omega⟩
              · obtain rfl : b = u := by omega
                have hbl' : ¬ (b : Int) < (b : Int) := by omega
                have HR3 := hide (show RoV wr G m (fun x => .bool (decide (x < (a + 1) * b + 0) && ptQ Q b cs x)) from by
                  have h := unhide HR2
                  rw [show (a + 1) * b + 0 = a * b + b by rw [Nat.add_mul, Nat.one_mul]; omega]
                  exact h)
                clear h0
                go_wp2_with fail
                exact ⟨⟨a + 1, by omega, by (first | rfl | go_num), HR3, HC2⟩, by simp [intOf]; omega⟩
          · obtain rfl : a = u := by omega
            have hal' : ¬ (a : Int) < (a : Int) := by omega
            have HRP := hide (show RoV wr G m (fun x => .bool (ptQ Q a cs x)) from (unhide HR1).congr (fun x hx => by
              have : x < a * a := by rw [unhide HMM]; omega
              simp [this]))
            have r0 := (h0.2.1.all 0 _ rfl).1
            have r1 := (h0.2.1.all 1 _ rfl).1
            have HC3 := hide h0.2.2.1
            have HF := hide h0.2.2.2.2
            clear h0
            cases k4
            · cases k5
              · obtain ⟨hk4, hk5⟩ := unhide HK45
                have hok1 : ok = true := (unhide HOK).2 (unhide HRT)
                subst hok1
                go_wp2_with fail
                clear p0 r0 r1
                go_loopw [13] (fun uv wq => uv = .int .i64 0 ∧ Hid (Below w.heap.size w wq)) (fun uv _ => 0)
                case atStart => exact ⟨rfl, HF⟩
                case round =>
                  obtain ⟨rfl, HF2⟩ := hrel
                  go_wp2_with fail
                  try go_ret
                  exact ⟨rfl, unhide HF2⟩
              · obtain ⟨hk4, hk5⟩ := unhide HK45
                have HBX := hide (unhide HB wr (unhide HC1))
                have hm2' := hm2
                have HWM := hide (show ∀ W, Below wr.heap.size wr W → BoxP W w.heap.size [.int .i64 (a : Int), .slice (some ⟨gb, 0, none⟩) m m] ∧ BoxP W X [.int .i64 (a : Int), .slice (some ⟨G, 0, none⟩) m m] ∧ RoV W gc a (fun i => .int .i64 (cs i)) ∧ Below w.heap.size w W ∧ RoV W G m (fun x => .bool (ptQ Q a cs x)) from fun W k => ⟨(unhide HBX).1.below k, (unhide HBX).2.1.below k, (unhide HBX).2.2.1.below k, (unhide HF).trans (k.mono (unhide HF).size), (unhide HRP).below k⟩)
                have HSA := hide (show (∀ u', u' < a → ptQ Q a cs (u' * a + v) = true → FoP (adQ (ptQ Q a cs) a) (fun x => x < a ∧ twB cs (cs u') (cs v) x = true)) → ok = true from fun h => (unhide HOK).2 ⟨unhide HRT, h⟩)
                have HSB := hide (show ok = true → (∀ u', u' < a → ptQ Q a cs (u' * a + v) = true → FoP (adQ (ptQ Q a cs) a) (fun x => x < a ∧ twB cs (cs u') (cs v) x = true)) from fun h => ((unhide HOK).1 h).2)
                obtain ⟨w8, hw8⟩ : ∃ x, x = wr := ⟨_, rfl⟩
                subst hw8
                go_wp2_with fail
                clear p0 r0 r1
                go_loopw [13] (fun uv wq => ∃ z : Nat, z ≤ a ∧ uv = .int .i64 (z : Int) ∧ Hid (∀ u', u' < z → ptQ Q a cs (u' * a + v) = true → FoP (adQ (ptQ Q a cs) a) (fun x => x < a ∧ twB cs (cs u') (cs v) x = true)) ∧ Hid (Below w8.heap.size w8 wq)) (fun uv _ => a - (intOf uv).toNat)
                case atStart => exact ⟨0, Nat.zero_le _, rfl, hide (fun u' h => absurd h (Nat.not_lt_zero _)), hide (Below.refl _ _)⟩
                case round =>
                  obtain ⟨z, hz, rfl, HS5, HW5⟩ := hrel
                  have hx := unhide HWM wr (unhide HW5)
                  have p0 := (hx.1.all 0 _ rfl).1
                  by_cases hzl : z < a
                  · have hzl' : (z : Int) < (a : Int) := by omega
                    have r0 := (hx.2.1.all 0 _ rfl).1
                    have r1 := (hx.2.1.all 1 _ rfl).1
                    have s0 := (hx.2.2.1 z hzl).1
                    have s1 := (hx.2.2.1 v hv).1
                    obtain ⟨fo, hfo⟩ := truth (FoP (adQ (ptQ Q a cs) a) (fun x => x < a ∧ twB cs (cs z) (cs v) x = true))
                    have HFO := hide (show TruQ fo _ from hfo)
                    obtain ⟨q0, hq0⟩ : ∃ q, ptQ Q a cs (z * a + v) = q := ⟨_, rfl⟩
                    have HQ0 := hide hq0
                    have F0 := fun x' : Ext wr => x'.cell p0
                    have F1 := fun x' : Ext wr => x'.cell r0
                    have F2 := fun x' : Ext wr => x'.cell r1
                    have HK0 := hide (show ∀ x' : Ext wr, Calls Tryz.prog 36 #[.agg #[.int .i64 (a : Int), .slice (some ⟨G, 0, none⟩) m m], .int .i64 (z : Int), .int .i64 (v : Int)] x'.w fun e w' => e = .returned (.bool q0) ∧ Below x'.w.heap.size x'.w w' from fun x' => by
                      rw [← hq0]
                      exact wmeet_any a G m z v (ptQ Q a cs) x'.w hN (by omega) (by omega) (unhide HAT z v hzl hv) hm2 (hx.2.2.2.2.below x'.bel))
                    have HK1 := hide (show ∀ x' : Ext wr, Calls Tryz.prog 38 #[.agg #[.int .i64 (a : Int), .slice (some ⟨G, 0, none⟩) m m], .slice (some ⟨gc, 0, none⟩) a a, .int .i64 (cs z), .int .i64 (cs v)] x'.w fun e w' => e = .returned (.bool fo) ∧ Below x'.w.heap.size x'.w w' from fun x' => wforest_any a G m gc (ptQ Q a cs) cs (cs z) (cs v) x'.w hN (unhide HMM) (hx.2.2.2.2.below x'.bel) (hx.2.2.1.below x'.bel) fo (unhide HFO))
                    obtain ⟨y0, hy0⟩ : ∃ y, cs z = y := ⟨_, rfl⟩
                    obtain ⟨y1, hy1⟩ : ∃ y, cs v = y := ⟨_, rfl⟩
                    simp only [hy0] at s0
                    simp only [hy1] at s1
                    rw [hy0, hy1] at HK1
                    have F3 := fun x' : Ext wr => x'.cell s0
                    have F4 := fun x' : Ext wr => x'.cell s1
                    have hNE := Ext.ne wr
                    have HNX := hide (show (q0 = true → fo = true) → ∀ u', u' < z + 1 → ptQ Q a cs (u' * a + v) = true → FoP (adQ (ptQ Q a cs) a) (fun x => x < a ∧ twB cs (cs u') (cs v) x = true) from fun h u' hu' hq => by
                      by_cases e : u' = z
                      · subst e; exact hfo.1 (h (by rw [← hq0]; exact hq))
                      · exact unhide HS5 u' (by omega) hq)
                    have HNO := hide (show q0 = true → fo = false → ok = false from fun h1 h2 => by
                      rw [Bool.eq_false_iff]
                      intro e
                      have := hfo.2 (unhide HSB e z hzl (by rw [hq0]; exact h1))
                      rw [h2] at this
                      cases this)
                    clear hx hfo hq0 hy0 hy1
                    cases q0
                    · have HN := hide (unhide HNX (fun e => by cases e))
                      go_wp2_with fail
                      refine wp_region_ext (by kernel_rfl) (by kernel_rfl) ?_
                      repeat (go_big_quiet_step (first
                        | (go_at_call 36; rename_i x'; exact Ext.call (unhide HK0 x') (fun e w' h => h))
                        | (go_at_call 38; rename_i x'; exact Ext.call (unhide HK1 x') (fun e w' h => h))))
                      refine wpQuiet_nil ?_
                      rintro _ ⟨xE, rfl⟩
                      have HX1 := hide (show Below w8.heap.size w8 xE.w from (unhide HW5).trans (xE.bel.mono (unhide HW5).size))
                      clear F0 F1 F2 F3 F4 hNE HK0 HK1 s0 s1 p0 r0 r1
                      go_wp2_with fail
                      exact ⟨⟨z + 1, by omega, by (first | rfl | go_num), HN, HX1⟩, by simp [intOf]; omega⟩
                    · cases fo
                      · have hok0 := unhide HNO rfl rfl
                        subst hok0
                        go_wp2_with fail
                        refine wp_region_ext (by kernel_rfl) (by kernel_rfl) ?_
                        repeat (go_big_quiet_step (first
                          | (go_at_call 36; rename_i x'; exact Ext.call (unhide HK0 x') (fun e w' h => h))
                          | (go_at_call 38; rename_i x'; exact Ext.call (unhide HK1 x') (fun e w' h => h))))
                        refine wpQuiet_nil ?_
                        rintro _ ⟨xE, rfl⟩
                        have HX1 := hide (show Below w8.heap.size w8 xE.w from (unhide HW5).trans (xE.bel.mono (unhide HW5).size))
                        clear F0 F1 F2 F3 F4 hNE HK0 HK1 s0 s1 p0 r0 r1
                        have HF2 := hide (unhide HWM xE.w (unhide HX1)).2.2.2.1
                        go_wp2_with fail
                        try go_ret
                        exact ⟨rfl, unhide HF2⟩
                      · have HN := hide (unhide HNX (fun _ => rfl))
                        go_wp2_with fail
                        refine wp_region_ext (by kernel_rfl) (by kernel_rfl) ?_
                        repeat (go_big_quiet_step (first
                          | (go_at_call 36; rename_i x'; exact Ext.call (unhide HK0 x') (fun e w' h => h))
                          | (go_at_call 38; rename_i x'; exact Ext.call (unhide HK1 x') (fun e w' h => h))))
                        refine wpQuiet_nil ?_
                        rintro _ ⟨xE, rfl⟩
                        have HX1 := hide (show Below w8.heap.size w8 xE.w from (unhide HW5).trans (xE.bel.mono (unhide HW5).size))
                        clear F0 F1 F2 F3 F4 hNE HK0 HK1 s0 s1 p0 r0 r1
                        go_wp2_with fail
                        exact ⟨⟨z + 1, by omega, by (first | rfl | go_num), HN, HX1⟩, by simp [intOf]; omega⟩
                  · obtain rfl : z = a := by omega
                    have hzl' : ¬ (z : Int) < (z : Int) := by omega
                    have hok1 := unhide HSA (unhide HS5)
                    subst hok1
                    have HF2 := hide hx.2.2.2.1
                    clear hx
                    go_wp2_with fail
                    try go_ret
                    exact ⟨rfl, unhide HF2⟩
            · obtain ⟨hk4, hk5⟩ := unhide HK45
              have KS := hide (fun W (k : Below wr.heap.size wr W) => wstruck_any a G m gc (ptQ Q a cs) cs v W hN (unhide HMM) hv ((unhide HRP).below k) ((unhide HC3).below k) (!ok) (by
                have h := unhide HOK
                have hr := unhide HRT
                unfold TruQ RtK RtS at h
                unfold TruQ
                cases ok
                · simp only [Bool.not_false, true_iff]
                  exact Classical.byContradiction (fun hn => by have := h.2 ⟨hr, hn⟩; cases this)
                · simp only [Bool.not_true, Bool.false_eq_true, false_iff]
                  exact (h.1 rfl).2))
              unfold grV at KS
              clear hk5
              go_wp2_with fail
              first
              | (refine (unhide KS _ (Below.refl _ _)).mono ?_)
              | (refine (unhide KS _ (Below.refl _ _).drew).mono ?_)
              rintro _ w7 ⟨rfl, b7⟩
              have HF7 := hide (show Below w.heap.size w w7 from (unhide HF).trans (by first | exact b7.mono (unhide HF).size | exact ((Below.refl _ _).drew.trans b7).mono (unhide HF).size))
              clear KS b7
              go_wp2_with fail
              try go_ret
              exact ⟨by simp, unhide HF7⟩
end Go.Proofs.YtohamaiobhikiaaGreat
