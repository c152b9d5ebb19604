/-
  COLOURS: sloperef12.struck: contract.
-/
import Derived.Test.YtohamaiobhikiaaGreatCv8
import Derived.Test.YtohamaiobhikiaaGreatCi1
namespace Go.Proofs.YtohamaiobhikiaaGreat
open Go.RowKit Go.Deep
set_option linter.unusedVariables false

/-- None ahead of these. -/
def SkN (Q : Nat → Bool) (N : Nat) (cs : Nat → Int) (v b c d : Nat) : Prop := ∀ b' c' d', b' < N → c' < N → d' < N → (b' < b ∨ (b' = b ∧ (c' < c ∨ (c' = c ∧ d' < d)))) → ¬ Sk1 Q N cs v b' c' d'
theorem SkN.first (Q : Nat → Bool) (N : Nat) (cs : Nat → Int) (v : Nat) : SkN Q N cs v 0 0 0 := fun b' c' d' _ _ _ h => by omega
theorem SkN.nextD {Q : Nat → Bool} {N : Nat} {cs : Nat → Int} {v b c d : Nat} (h : SkN Q N cs v b c d) (k : ¬ Sk1 Q N cs v b c d) : SkN Q N cs v b c (d + 1) := fun b' c' d' h1 h2 h3 h4 => by
  by_cases e : b' = b ∧ c' = c ∧ d' = d
  · obtain ⟨rfl, rfl, rfl⟩ := e; exact k
  · exact h b' c' d' h1 h2 h3 (by omega)
theorem SkN.nextC {Q : Nat → Bool} {N : Nat} {cs : Nat → Int} {v b c d : Nat} (h : SkN Q N cs v b c d) (k : ∀ d', d' < N → d ≤ d' → ¬ Sk1 Q N cs v b c d') : SkN Q N cs v b (c + 1) 0 := fun b' c' d' h1 h2 h3 h4 => by
  by_cases e : b' = b ∧ c' = c ∧ d ≤ d'
  · obtain ⟨rfl, rfl, e⟩ := e; exact k d' h3 e
  · exact h b' c' d' h1 h2 h3 (by omega)
theorem SkN.nextB {Q : Nat → Bool} {N : Nat} {cs : Nat → Int} {v b c d : Nat} (h : SkN Q N cs v b c d) (k : ∀ c' d', c' < N → d' < N → (c < c' ∨ (c = c' ∧ d ≤ d')) → ¬ Sk1 Q N cs v b c' d') : SkN Q N cs v (b + 1) 0 0 := fun b' c' d' h1 h2 h3 h4 => by
  by_cases e : b' = b ∧ (c < c' ∨ (c = c' ∧ d ≤ d'))
  · obtain ⟨rfl, e⟩ := e; exact k c' d' h2 h3 e
  · exact h b' c' d' h1 h2 h3 (by omega)
set_option maxRecDepth 100000 in
set_option maxHeartbeats 16000000 in
/-- sloperef12.struck. -/
theorem wstruck_any (N gb m gc : Nat) (Q : Nat → Bool) (cs : Nat → Int) (v : Nat) (w : World) (hN : N ≤ 128) (hmm : N * N = m) (hv : v < N) (hQ : RoV w gb m (fun i => .bool (Q i))) (hc : RoV w gc N (fun i => .int .i64 (cs i))) (ok : Bool) (hok : TruQ ok (SkP Q N cs v)) :
    Calls Tryz.prog 37 #[grV N gb m, .slice (some ⟨gc, 0, none⟩) N N, .int .i64 (v : Int)] w fun e w' => e = .returned (.bool ok) ∧ Below w.heap.size w w' := by
  obtain ⟨wb, hwb⟩ : ∃ x, w.alloc (.cells #[.int .i64 (N : Int), .slice (some ⟨gb, 0, none⟩) m m] 66) = x := ⟨_, rfl⟩
  have bb : Below w.heap.size w wb := by rw [← hwb]; exact (Below.refl _ _).alloc (Nat.le_refl _) _
  have hT := BoxP.made w #[.int .i64 (N : Int), .slice (some ⟨gb, 0, none⟩) m m] 66
  rw [hwb] at hT
  have hm2 : m ≤ 16384 := by rw [← hmm]; exact Nat.mul_le_mul hN hN
  have p0 := (hT.all 0 _ rfl).1
  have HA := hide (show ∀ W, Below wb.heap.size wb W → BoxP W w.heap.size [.int .i64 (N : Int), .slice (some ⟨gb, 0, none⟩) m m] ∧ RoV W gc N (fun i => .int .i64 (cs i)) ∧ Below w.heap.size w W from fun W b => ⟨hT.below b, (hc.below bb).below b, bb.trans (b.mono bb.size)⟩)
  have HM := hide (show ∀ W, Below wb.heap.size wb W → ∀ u z q, u < N → z < N → Q (u * N + z) = q → Calls Tryz.prog 36 #[.agg #[.int .i64 (N : Int), .slice (some ⟨gb, 0, none⟩) m m], .int .i64 (u : Int), .int .i64 (z : Int)] W fun e w' => e = .returned (.bool q) ∧ Below W.heap.size W w' from fun W b u z q hu hz hq => by
    subst hq
    exact wmeet_any N gb m u z Q W hN (by omega) (by omega) (by rw [← hmm]; have := Nat.mul_le_mul_right N (show u + 1 ≤ N by omega); rw [Nat.add_mul, Nat.one_mul] at this; omega) hm2 ((hQ.below bb).below b))
  have HOK := hide hok
  clear hT bb hQ hc hok hmm
  unfold grV
  go_enter Tryz.func37, Tryz.ntmps37
  go_wp2_with fail
  clear p0
  go_loopw [7] (fun bv wr => ∃ b : Nat, b ≤ N ∧ bv = .int .i64 (b : Int) ∧ Hid (SkN Q N cs v b 0 0) ∧ Hid (Below wb.heap.size wb wr)) (fun bv _ => N - (intOf bv).toNat)
  case atStart => exact ⟨0, Nat.zero_le _, rfl, hide (SkN.first _ _ _ _), hide (Below.refl _ _)⟩
  case round =>
    obtain ⟨b, hb, rfl, HS, HW⟩ := hrel
    have hx := unhide HA wr (unhide HW)
    have p0 := (hx.1.all 0 _ rfl).1
    by_cases hlt : b < N
    · have hlt' : (b : Int) < (N : Int) := by omega
      clear hx
      go_wp2_with fail
      clear p0
      go_loopw [8] (fun cv wq => ∃ c : Nat, c ≤ N ∧ cv = .int .i64 (c : Int) ∧ Hid (SkN Q N cs v b c 0) ∧ Hid (Below wb.heap.size wb wq)) (fun cv _ => N - (intOf cv).toNat)
      case atStart => exact ⟨0, Nat.zero_le _, rfl, HS, HW⟩
      case round =>
        obtain ⟨wo, hwo⟩ : ∃ x, x = wr := ⟨_, rfl⟩
        subst hwo
        obtain ⟨c, hc, rfl, HS2, HW2⟩ := hrel
        have hx := unhide HA wo (unhide HW2)
        have p0 := (hx.1.all 0 _ rfl).1
        have p1 := (hx.1.all 1 _ rfl).1
        obtain ⟨q1, hq1⟩ : ∃ q, Q (v * N + b) = q := ⟨_, rfl⟩
        have KM := hide (unhide HM wo (unhide HW2) v b q1 hv hlt hq1)
        have HQ1 := hide hq1
        clear hx hq1
        cases q1
        · have HS3 := hide ((unhide HS2).nextB (fun c' d' _ _ _ k => by have := k.1; rw [unhide HQ1] at this; cases this))
          go_wp2_with fail
          refine (unhide KM).mono ?_
          rintro _ w5 ⟨rfl, b5⟩
          have HW5 := hide ((unhide HW2).trans (b5.mono (unhide HW2).size))
          clear KM b5 p0 p1
          go_wp2_with fail
          exact ⟨⟨b + 1, by omega, by (first | rfl | go_num), HS3, HW5⟩, by simp [intOf]; omega⟩
        · go_wp2_with fail
          refine (unhide KM).mono ?_
          rintro _ w5 ⟨rfl, b5⟩
          have HW5 := hide ((unhide HW2).trans (b5.mono (unhide HW2).size))
          clear KM b5 p0 p1
          have hx := unhide HA w5 (unhide HW5)
          have p0 := (hx.1.all 0 _ rfl).1
          have p1 := (hx.1.all 1 _ rfl).1
          by_cases hcl : c < N
          · have hcl' : (c : Int) < (N : Int) := by omega
            have s0 := (hx.2.1 c hcl).1
            have s1 := (hx.2.1 v hv).1
            obtain ⟨y0, hy0⟩ : ∃ y, cs c = y := ⟨_, rfl⟩
            obtain ⟨y1, hy1⟩ : ∃ y, cs v = y := ⟨_, rfl⟩
            simp only [hy0] at s0
            simp only [hy1] at s1
            obtain ⟨q2, hq2⟩ : ∃ q, Q (b * N + c) = q := ⟨_, rfl⟩
            have F0 := fun x' : Ext w5 => x'.cell s0
            have F1 := fun x' : Ext w5 => x'.cell s1
            have F2 := fun x' : Ext w5 => x'.cell p0
            have F3 := fun x' : Ext w5 => x'.cell p1
            have hNE := Ext.ne w5
            have HK2 := hide (show ∀ x' : Ext w5, Calls Tryz.prog 36 #[.agg #[.int .i64 (N : Int), .slice (some ⟨gb, 0, none⟩) m m], .int .i64 (b : Int), .int .i64 (c : Int)] x'.w fun e w' => e = .returned (.bool q2) ∧ Below x'.w.heap.size x'.w w' from fun x' => unhide HM x'.w ((unhide HW5).trans (x'.bel.mono (unhide HW5).size)) b c q2 hlt hcl hq2)
            have HQ2 := hide hq2
            have HY := hide (And.intro hy0 hy1)
            clear hq2 hy0 hy1 hx
            cases q2
            · have HN2 := hide ((unhide HS2).nextC (fun d' _ _ k => by have := k.2.1; rw [unhide HQ2] at this; cases this))
              go_wp2_with fail
              refine wp_region_ext (by kernel_rfl) (by kernel_rfl) ?_
              repeat (go_big_quiet_step ((go_at_call 36; rename_i x'; first
                | (with_reducible exact Ext.call (unhide HK2 x') (fun e w' h => h)))))
              refine wpQuiet_nil ?_
              clear s0 s1 p0 p1
              rintro _ ⟨xE, rfl⟩
              have HX1 := hide (show Below wb.heap.size wb xE.w from (unhide HW5).trans (xE.bel.mono (unhide HW5).size))
              clear F0 F1 F2 F3 hNE HK2
              go_wp2_with fail
              exact ⟨⟨c + 1, by omega, by (first | rfl | go_num), HN2, HX1⟩, by simp [intOf]; omega⟩
            · by_cases hcv : c = v
              · have hcv' : ((c : Int) == (v : Int)) = true := by simp; omega
                have HN2 := hide ((unhide HS2).nextC (fun d' _ _ k => k.2.2.1 hcv))
                clear hcv
                go_wp2_with fail
                refine wp_region_ext (by kernel_rfl) (by kernel_rfl) ?_
                repeat (go_big_quiet_step ((go_at_call 36; rename_i x'; first
                  | (with_reducible exact Ext.call (unhide HK2 x') (fun e w' h => h)))))
                refine wpQuiet_nil ?_
                clear s0 s1 p0 p1
                rintro _ ⟨xE, rfl⟩
                have HX1 := hide (show Below wb.heap.size wb xE.w from (unhide HW5).trans (xE.bel.mono (unhide HW5).size))
                clear F0 F1 F2 F3 hNE HK2
                go_wp2_with fail
                exact ⟨⟨c + 1, by omega, by (first | rfl | go_num), HN2, HX1⟩, by simp [intOf]; omega⟩
              · have hcv' : ((c : Int) == (v : Int)) = false := by simp; omega
                by_cases hyy : y0 = y1
                · have hyy' : (y0 != y1) = false := by simp [hyy]
                  have HYY := hide hyy
                  have HCV := hide hcv
                  clear hyy hcv
                  go_wp2_with fail
                  refine wp_region_ext (by kernel_rfl) (by kernel_rfl) ?_
                  repeat (go_big_quiet_step ((go_at_call 36; rename_i x'; first
                    | (with_reducible exact Ext.call (unhide HK2 x') (fun e w' h => h)))))
                  refine wpQuiet_nil ?_
                  clear s0 s1 p0 p1
                  rintro _ ⟨xE, rfl⟩
                  have HX1 := hide (show Below wb.heap.size wb xE.w from (unhide HW5).trans (xE.bel.mono (unhide HW5).size))
                  clear F0 F1 F2 F3 hNE HK2
                  go_wp2_with fail
                  go_loopw [9] (fun dv wz => ∃ d : Nat, d ≤ N ∧ dv = .int .i64 (d : Int) ∧ Hid (SkN Q N cs v b c d) ∧ Hid (Below wb.heap.size wb wz)) (fun dv _ => N - (intOf dv).toNat)
                  case atStart => exact ⟨0, Nat.zero_le _, rfl, HS2, HX1⟩
                  case round =>
                    obtain ⟨d, hd, rfl, HS4, HW6⟩ := hrel
                    have hx := unhide HA wr (unhide HW6)
                    have p0 := (hx.1.all 0 _ rfl).1
                    have p1 := (hx.1.all 1 _ rfl).1
                    by_cases hdl : d < N
                    · have hdl' : (d : Int) < (N : Int) := by omega
                      have s0 := (hx.2.1 d hdl).1
                      have s1 := (hx.2.1 b hlt).1
                      obtain ⟨y3, hy3⟩ : ∃ y, cs d = y := ⟨_, rfl⟩
                      obtain ⟨y4, hy4⟩ : ∃ y, cs b = y := ⟨_, rfl⟩
                      simp only [hy3] at s0
                      simp only [hy4] at s1
                      obtain ⟨q3, hq3⟩ : ∃ q, Q (c * N + d) = q := ⟨_, rfl⟩
                      obtain ⟨q4, hq4⟩ : ∃ q, Q (v * N + d) = q := ⟨_, rfl⟩
                      have F0 := fun x' : Ext wr => x'.cell s0
                      have F1 := fun x' : Ext wr => x'.cell s1
                      have F2 := fun x' : Ext wr => x'.cell p0
                      have F3 := fun x' : Ext wr => x'.cell p1
                      have hNE := Ext.ne wr
                      have HK3 := hide (show ∀ x' : Ext wr, Calls Tryz.prog 36 #[.agg #[.int .i64 (N : Int), .slice (some ⟨gb, 0, none⟩) m m], .int .i64 (c : Int), .int .i64 (d : Int)] x'.w fun e w' => e = .returned (.bool q3) ∧ Below x'.w.heap.size x'.w w' from fun x' => unhide HM x'.w ((unhide HW6).trans (x'.bel.mono (unhide HW6).size)) c d q3 hcl hdl hq3)
                      have HK4 := hide (show ∀ x' : Ext wr, Calls Tryz.prog 36 #[.agg #[.int .i64 (N : Int), .slice (some ⟨gb, 0, none⟩) m m], .int .i64 (v : Int), .int .i64 (d : Int)] x'.w fun e w' => e = .returned (.bool q4) ∧ Below x'.w.heap.size x'.w w' from fun x' => unhide HM x'.w ((unhide HW6).trans (x'.bel.mono (unhide HW6).size)) v d q4 hv hdl hq4)
                      have HQ3 := hide (And.intro hq3 hq4)
                      have HY3 := hide (And.intro hy3 hy4)
                      clear hq3 hq4 hy3 hy4 hx
                      by_cases hdb : d = b
                      · have hdb' : ((d : Int) != (b : Int)) = false := by simp; omega
                        have HN4 := hide ((unhide HS4).nextD (fun k => k.2.2.2.2.1 hdb))
                        clear hdb
                        go_wp2_with fail
                        refine wp_region_ext (by kernel_rfl) (by kernel_rfl) ?_
                        repeat (go_big_quiet_step ((go_at_call 36; rename_i x'; first
                          | (with_reducible exact Ext.call (unhide HK3 x') (fun e w' h => h))
                          | (with_reducible exact Ext.call (unhide HK4 x') (fun e w' h => h)))))
                        refine wpQuiet_nil ?_
                        clear s0 s1 p0 p1
                        rintro _ ⟨xE, rfl⟩
                        have HX2 := hide (show Below wb.heap.size wb xE.w from (unhide HW6).trans (xE.bel.mono (unhide HW6).size))
                        clear F0 F1 F2 F3 hNE HK3 HK4
                        go_wp2_with fail
                        exact ⟨⟨d + 1, by omega, by (first | rfl | go_num), HN4, HX2⟩, by simp [intOf]; omega⟩
                      · have hdb' : ((d : Int) != (b : Int)) = true := by simp; omega
                        have HDB := hide hdb
                        clear hdb
                        have HEND := hide (show (q3 = true ∨ q4 = true) → y3 = y4 → ok = true from fun h1 h2 => (unhide HOK).2 ⟨b, c, d, hlt, hcl, hdl, unhide HQ1, unhide HQ2, unhide HCV, by rw [(unhide HY).1, (unhide HY).2]; exact unhide HYY, unhide HDB, by rw [(unhide HQ3).1, (unhide HQ3).2]; exact h1, by rw [(unhide HY3).1, (unhide HY3).2]; exact h2⟩)
                        cases q3
                        · cases q4
                          · have HN4 := hide ((unhide HS4).nextD (fun k => by have := k.2.2.2.2.2.1; rw [(unhide HQ3).1, (unhide HQ3).2] at this; simp at this))
                            go_wp2_with fail
                            refine wp_region_ext (by kernel_rfl) (by kernel_rfl) ?_
                            repeat (go_big_quiet_step ((go_at_call 36; rename_i x'; first
                              | (with_reducible exact Ext.call (unhide HK3 x') (fun e w' h => h))
                              | (with_reducible exact Ext.call (unhide HK4 x') (fun e w' h => h)))))
                            refine wpQuiet_nil ?_
                            clear s0 s1 p0 p1
                            rintro _ ⟨xE, rfl⟩
                            have HX2 := hide (show Below wb.heap.size wb xE.w from (unhide HW6).trans (xE.bel.mono (unhide HW6).size))
                            clear F0 F1 F2 F3 hNE HK3 HK4
                            go_wp2_with fail
                            exact ⟨⟨d + 1, by omega, by (first | rfl | go_num), HN4, HX2⟩, by simp [intOf]; omega⟩
                          · skip
                            by_cases hy34 : y3 = y4
                            · have hy34' : (y3 == y4) = true := by simp [hy34]
                              have hok1 := unhide HEND (by simp) hy34
                              subst hok1
                              clear hy34
                              go_wp2_with fail
                              refine wp_region_ext (by kernel_rfl) (by kernel_rfl) ?_
                              repeat (go_big_quiet_step ((go_at_call 36; rename_i x'; first
                                | (with_reducible exact Ext.call (unhide HK3 x') (fun e w' h => h))
                                | (with_reducible exact Ext.call (unhide HK4 x') (fun e w' h => h)))))
                              refine wpQuiet_nil ?_
                              clear s0 s1 p0 p1
                              rintro _ ⟨xE, rfl⟩
                              have HX2 := hide (show Below wb.heap.size wb xE.w from (unhide HW6).trans (xE.bel.mono (unhide HW6).size))
                              have HF := hide ((unhide HA xE.w (unhide HX2)).2.2)
                              clear F0 F1 F2 F3 hNE HK3 HK4 HEND
                              go_wp2_with fail
                              try go_ret
                              exact ⟨rfl, unhide HF⟩
                            · have hy34' : (y3 == y4) = false := by simp [hy34]
                              have HN4 := hide ((unhide HS4).nextD (fun k => by have := k.2.2.2.2.2.2; rw [(unhide HY3).1, (unhide HY3).2] at this; exact hy34 this))
                              clear hy34
                              go_wp2_with fail
                              refine wp_region_ext (by kernel_rfl) (by kernel_rfl) ?_
                              repeat (go_big_quiet_step ((go_at_call 36; rename_i x'; first
                                | (with_reducible exact Ext.call (unhide HK3 x') (fun e w' h => h))
                                | (with_reducible exact Ext.call (unhide HK4 x') (fun e w' h => h)))))
                              refine wpQuiet_nil ?_
                              clear s0 s1 p0 p1
                              rintro _ ⟨xE, rfl⟩
                              have HX2 := hide (show Below wb.heap.size wb xE.w from (unhide HW6).trans (xE.bel.mono (unhide HW6).size))
                              clear F0 F1 F2 F3 hNE HK3 HK4
                              go_wp2_with fail
                              exact ⟨⟨d + 1, by omega, by (first | rfl | go_num), HN4, HX2⟩, by simp [intOf]; omega⟩
                        · skip
                          by_cases hy34 : y3 = y4
                          · have hy34' : (y3 == y4) = true := by simp [hy34]
                            have hok1 := unhide HEND (by simp) hy34
                            subst hok1
                            clear hy34
                            go_wp2_with fail
                            refine wp_region_ext (by kernel_rfl) (by kernel_rfl) ?_
                            repeat (go_big_quiet_step ((go_at_call 36; rename_i x'; first
                              | (with_reducible exact Ext.call (unhide HK3 x') (fun e w' h => h))
                              | (with_reducible exact Ext.call (unhide HK4 x') (fun e w' h => h)))))
                            refine wpQuiet_nil ?_
                            clear s0 s1 p0 p1
                            rintro _ ⟨xE, rfl⟩
                            have HX2 := hide (show Below wb.heap.size wb xE.w from (unhide HW6).trans (xE.bel.mono (unhide HW6).size))
                            have HF := hide ((unhide HA xE.w (unhide HX2)).2.2)
                            clear F0 F1 F2 F3 hNE HK3 HK4 HEND
                            go_wp2_with fail
                            try go_ret
                            exact ⟨rfl, unhide HF⟩
                          · have hy34' : (y3 == y4) = false := by simp [hy34]
                            have HN4 := hide ((unhide HS4).nextD (fun k => by have := k.2.2.2.2.2.2; rw [(unhide HY3).1, (unhide HY3).2] at this; exact hy34 this))
                            clear hy34
                            go_wp2_with fail
                            refine wp_region_ext (by kernel_rfl) (by kernel_rfl) ?_
                            repeat (go_big_quiet_step ((go_at_call 36; rename_i x'; first
                              | (with_reducible exact Ext.call (unhide HK3 x') (fun e w' h => h))
                              | (with_reducible exact Ext.call (unhide HK4 x') (fun e w' h => h)))))
                            refine wpQuiet_nil ?_
                            clear s0 s1 p0 p1
                            rintro _ ⟨xE, rfl⟩
                            have HX2 := hide (show Below wb.heap.size wb xE.w from (unhide HW6).trans (xE.bel.mono (unhide HW6).size))
                            clear F0 F1 F2 F3 hNE HK3 HK4
                            go_wp2_with fail
                            exact ⟨⟨d + 1, by omega, by (first | rfl | go_num), HN4, HX2⟩, by simp [intOf]; omega⟩
                    · obtain rfl : d = N := by omega
                      have hdl' : ¬ (d : Int) < (d : Int) := by omega
                      have HN5 := hide ((unhide HS4).nextC (fun d' h1 h2 _ => by omega))
                      clear hx
                      go_wp2_with fail
                      exact ⟨⟨c + 1, by omega, by (first | rfl | go_num), HN5, HW6⟩, by simp [intOf]; omega⟩
                · have hyy' : (y0 != y1) = true := by simp [hyy]
                  have HN2 := hide ((unhide HS2).nextC (fun d' _ _ k => by have := k.2.2.2.1; rw [(unhide HY).1, (unhide HY).2] at this; exact hyy this))
                  clear hyy hcv
                  go_wp2_with fail
                  refine wp_region_ext (by kernel_rfl) (by kernel_rfl) ?_
                  repeat (go_big_quiet_step ((go_at_call 36; rename_i x'; first
                    | (with_reducible exact Ext.call (unhide HK2 x') (fun e w' h => h)))))
                  refine wpQuiet_nil ?_
                  clear s0 s1 p0 p1
                  rintro _ ⟨xE, rfl⟩
                  have HX1 := hide (show Below wb.heap.size wb xE.w from (unhide HW5).trans (xE.bel.mono (unhide HW5).size))
                  clear F0 F1 F2 F3 hNE HK2
                  go_wp2_with fail
                  exact ⟨⟨c + 1, by omega, by (first | rfl | go_num), HN2, HX1⟩, by simp [intOf]; omega⟩
          · obtain rfl : c = N := by omega
            have hcl' : ¬ (c : Int) < (c : Int) := by omega
            have HN5 := hide ((unhide HS2).nextB (fun c' d' h1 h2 h3 _ => by omega))
            clear hx
            go_wp2_with fail
            exact ⟨⟨b + 1, by omega, by (first | rfl | go_num), HN5, HW5⟩, by simp [intOf]; omega⟩
    · obtain rfl : b = N := by omega
      have hlt' : ¬ (b : Int) < (b : Int) := by omega
      have hok0 : ok = false := by
        rw [Bool.eq_false_iff]
        intro e
        obtain ⟨b', c', d', h1, h2, h3, k⟩ := (unhide HOK).1 e
        exact unhide HS b' c' d' h1 h2 h3 (.inl h1) k
      subst hok0
      have HF := hide hx.2.2
      clear hx
      go_wp2_with fail
      try go_ret
      exact ⟨rfl, unhide HF⟩
end Go.Proofs.YtohamaiobhikiaaGreat
