/- Wki -/
import Derived.Test.YtmmeiebbnjjijaaGreatDoorWkc
import Derived.Test.YtmmeiebbnjjijaaGreatDoorWip
import Derived.Test.YtmmeiebbnjjijaaGreatDoorWkb
namespace Go.Proofs.YtmmeiebbnjjijaaGreatDoor
open Go.RowKit Go.Deep
set_option linter.unusedVariables false
set_option maxRecDepth 100000 in
set_option maxHeartbeats 16000000 in
theorem ratDivide_no (g1 g2 : Bool) (a1 b1 a2 b2 : Option Addr) (n1 c1 m1 d1 n2 c2 m2 d2 : Nat) (x1 y1 x2 y2 : List Nat) (w : World) (hx1 : Sl w a1 n1 c1 x1) (hy1 : Sl w b1 m1 d1 y1) (hx2 : Sl w a2 n2 c2 x2) (hy2 : Sl w b2 m2 d2 y2) (ox1 : Ok x1) (oy1 : Ok y1) (ox2 : Ok x2) (oy2 : Ok y2) (hTb : Tab64 w) (hno : (MayR g1 x1 y1 && MayR g2 x2 y2) = false ∨ x2 = []) :
    Calls Tryz.prog 21 #[ratV g1 a1 n1 c1 b1 m1 d1, ratV g2 a2 n2 c2 b2 m2 d2] w fun e w' => ResD w w' (DivdF g1 x1 y1 g2 x2 y2) e := by
  obtain ⟨⟨⟨⟨SG, LN, LD⟩, ⟨SH, MN, MD⟩⟩, ER⟩, hFF⟩ : ∃ r, DivdF g1 x1 y1 g2 x2 y2 = r := ⟨_, rfl⟩
  rw [hFF]
  unfold ResD
  dsimp only
  have bx := Box.made w g1 a1 n1 c1 b1 m1 d1
  obtain ⟨wa, hwa⟩ : ∃ wa, ratBox w g1 a1 n1 c1 b1 m1 d1 = wa := ⟨_, rfl⟩
  rw [hwa] at bx
  have by_ := Box.made wa g2 a2 n2 c2 b2 m2 d2
  obtain ⟨wb, hwb⟩ : ∃ wb, ratBox wa g2 a2 n2 c2 b2 m2 d2 = wb := ⟨_, rfl⟩
  rw [hwb] at by_
  have hba : Below w.heap.size w wa := by rw [← hwa]; exact (Below.refl _ _).alloc (Nat.le_refl _) _
  have hbb : Below wa.heap.size wa wb := by rw [← hwb]; exact (Below.refl _ _).alloc (Nat.le_refl _) _
  unfold ratBox at hwa hwb
  obtain ⟨wo, hwo⟩ : ∃ x, wb.alloc (.cells #[.bool false, .slice none 0 0, .slice none 0 0] 25) = x := ⟨_, rfl⟩
  have hbo : Below wb.heap.size wb wo := by rw [← hwo]; exact (Below.refl _ _).alloc (Nat.le_refl _) _
  obtain ⟨wp, hwp⟩ : ∃ x, wo.alloc (.cells #[.bool false, .slice none 0 0, .slice none 0 0] 25) = x := ⟨_, rfl⟩
  have hbp : Below wo.heap.size wo wp := by rw [← hwp]; exact (Below.refl _ _).alloc (Nat.le_refl _) _
  have hO1 : Out wp wb.heap.size := by have h : Out wo wb.heap.size := by { rw [← hwo]; exact Out.made wb }; exact h.keep hbp
  have hO2 : Out wp wo.heap.size := by rw [← hwp]; exact Out.made wo
  have bx2 := ((bx.keep hbb).keep hbo).keep hbp
  have by2 := (by_.keep hbo).keep hbp
  have hB := ((hba.trans (hbb.mono hba.size)).trans (hbo.mono (Nat.le_trans hba.size hbb.size))).trans (hbp.mono (Nat.le_trans (Nat.le_trans hba.size hbb.size) hbo.size))
  have hzo : wo.heap.size = wb.heap.size + 1 := by rw [← hwo]; simp
  have hlab : w.heap.size < wa.heap.size := bx.lt
  have hlab3 : wa.heap.size < wb.heap.size := by_.lt
  have p0 := bx2.d0
  have p1 := bx2.d1
  have p2 := bx2.d2
  have p3 := by2.d0
  have p4 := by2.d1
  have p5 := by2.d2
  have HRw := hide (show w.heap.size ≤ wb.heap.size from Nat.le_trans hba.size hbb.size)
  have HRT := hide (show wb.heap.size < wo.heap.size by omega)
  have hne1 : wb.heap.size ≠ wo.heap.size := by omega
  have hne2 : wo.heap.size ≠ wb.heap.size := by omega
  have hne3 : w.heap.size ≠ wa.heap.size := by omega
  have hne4 : w.heap.size ≠ wb.heap.size := by omega
  have hne5 : w.heap.size ≠ wo.heap.size := by omega
  have hne6 : wa.heap.size ≠ wb.heap.size := by omega
  have hne7 : wa.heap.size ≠ wo.heap.size := by omega
  have HO := hide (And.intro hO1 hO2)
  have HB := hide hB
  have HS := hide (And.intro (hx1.below hB) (And.intro (hy1.below hB) (And.intro (hx2.below hB) (hy2.below hB))))
  have HT := hide (hTb.below hB)
  have HKM1 := hide (fun (W : World) (hb : Below wp.heap.size wp W) => ratMay_any g1 a1 b1 n1 c1 m1 d1 x1 y1 W ((unhide HS).1.below hb) ((unhide HS).2.1.below hb) ox1 oy1 ((unhide HT).below hb))
  have HKM2 := hide (fun (W : World) (hb : Below wp.heap.size wp W) => ratMay_any g2 a2 b2 n2 c2 m2 d2 x2 y2 W ((unhide HS).2.2.1.below hb) ((unhide HS).2.2.2.below hb) ox2 oy2 ((unhide HT).below hb))
  have HKZ := hide (fun (W : World) => isZero_any g2 a2 b2 n2 c2 m2 d2 W)
  have hl2 := hx2.len
  clear hx1 hy1 hx2 hy2 bx by_ bx2 by2 hba hbb hbo hbp hB hO1 hO2 hzo hlab hlab3
  clear hTb
  cases k1 : MayR g1 x1 y1
  · rw [k1] at HKM1
    have h40 := hFF.symm.trans (show DivdF g1 x1 y1 g2 x2 y2 = (((false, [], []), (false, [], [])), 40) from by unfold DivdF; rw [k1]; rfl)
    cases h40
    clear hFF hno k1
    unfold ratV at HKM1 HKM2 HKZ ⊢
    go_enter Tryz.func21, Tryz.ntmps21
    go_wp2_with fail
    refine (unhide HKM1 _ (Below.refl _ _)).mono ?_
    rintro _ w1 ⟨rfl, bl1⟩
    have e0 := (bl1.cell (p := ⟨w.heap.size, 0, none⟩) (World.block_lt_of_cell? _ _ p0)).trans p0
    have e1 := (bl1.cell (p := ⟨w.heap.size, 1, none⟩) (World.block_lt_of_cell? _ _ p1)).trans p1
    have e2 := (bl1.cell (p := ⟨w.heap.size, 2, none⟩) (World.block_lt_of_cell? _ _ p2)).trans p2
    have e3 := (bl1.cell (p := ⟨wa.heap.size, 0, none⟩) (World.block_lt_of_cell? _ _ p3)).trans p3
    have e4 := (bl1.cell (p := ⟨wa.heap.size, 1, none⟩) (World.block_lt_of_cell? _ _ p4)).trans p4
    have e5 := (bl1.cell (p := ⟨wa.heap.size, 2, none⟩) (World.block_lt_of_cell? _ _ p5)).trans p5
    have HB1 := hide bl1
    clear bl1 HKM1 p0 p1 p2 p3 p4 p5
    have HOa := hide (And.intro ((unhide HO).1.keep (unhide HB1)) ((unhide HO).2.keep (unhide HB1)))
    have HBa := hide ((unhide HB).trans ((unhide HB1).mono (unhide HB).size))
    have HO1 := hide (unhide HOa).1
    have HO2 := hide (unhide HOa).2
    obtain ⟨x0, q0⟩ := (unhide HO1).cells 0 (by decide)
    obtain ⟨x1', q1⟩ := (unhide HO1).cells 1 (by decide)
    obtain ⟨x2', q2⟩ := (unhide HO1).cells 2 (by decide)
    obtain ⟨x3', q3⟩ := (unhide HO2).cells 0 (by decide)
    obtain ⟨x4', q4⟩ := (unhide HO2).cells 1 (by decide)
    obtain ⟨x5', q5⟩ := (unhide HO2).cells 2 (by decide)
    have r0 := (unhide HO1).fz 0 (by decide)
    have r1 := (unhide HO1).fz 1 (by decide)
    have r2 := (unhide HO1).fz 2 (by decide)
    have r3 := (unhide HO2).fz 0 (by decide)
    have r4 := (unhide HO2).fz 1 (by decide)
    have r5 := (unhide HO2).fz 2 (by decide)
    have H6 := hide (six_set w1 wb.heap.size wo.heap.size hne1 (.bool false) (.slice none 0 0) (.slice none 0 0) (.bool false) (.slice none 0 0) (.slice none 0 0) (unhide HO1) (unhide HO2))
    go_wp2_with fail
    obtain ⟨wf, hwf, ⟨t0, t1, t2⟩, ⟨t3, t4, t5⟩, c6⟩ := unhide H6
    rw [hwf]
    refine bodyPost_ret (by simp [results, Tryz.results21, go_sem, t0, t1, t2, t3, t4, t5]; try rfl) rfl ?_
    exact ⟨_, _, rfl, newR_two (unhide HRw) (unhide HRT) (unhide HBa) (sl_nil _) (newAt_nil _) (sl_nil _) (newAt_nil _) c6 false, newR_two (unhide HRw) (unhide HRT) (unhide HBa) (sl_nil _) (newAt_nil _) (sl_nil _) (newAt_nil _) c6 false⟩
  · rw [k1] at HKM1
    cases k2 : MayR g2 x2 y2
    · rw [k2] at HKM2
      have h40 := hFF.symm.trans (show DivdF g1 x1 y1 g2 x2 y2 = (((false, [], []), (false, [], [])), 40) from by unfold DivdF; rw [k1, k2]; rfl)
      cases h40
      clear hFF hno k1 k2
      unfold ratV at HKM1 HKM2 HKZ ⊢
      go_enter Tryz.func21, Tryz.ntmps21
      go_wp2_with fail
      refine (unhide HKM1 _ (Below.refl _ _)).mono ?_
      rintro _ w1 ⟨rfl, bl1⟩
      have e0 := (bl1.cell (p := ⟨w.heap.size, 0, none⟩) (World.block_lt_of_cell? _ _ p0)).trans p0
      have e1 := (bl1.cell (p := ⟨w.heap.size, 1, none⟩) (World.block_lt_of_cell? _ _ p1)).trans p1
      have e2 := (bl1.cell (p := ⟨w.heap.size, 2, none⟩) (World.block_lt_of_cell? _ _ p2)).trans p2
      have e3 := (bl1.cell (p := ⟨wa.heap.size, 0, none⟩) (World.block_lt_of_cell? _ _ p3)).trans p3
      have e4 := (bl1.cell (p := ⟨wa.heap.size, 1, none⟩) (World.block_lt_of_cell? _ _ p4)).trans p4
      have e5 := (bl1.cell (p := ⟨wa.heap.size, 2, none⟩) (World.block_lt_of_cell? _ _ p5)).trans p5
      have HB1 := hide bl1
      clear bl1 HKM1 p0 p1 p2 p3 p4 p5
      go_wp2_with fail
      refine (unhide HKM2 _ (unhide HB1)).mono ?_
      rintro _ w2 ⟨rfl, bl2⟩
      have f0 := (bl2.cell (p := ⟨w.heap.size, 0, none⟩) (World.block_lt_of_cell? _ _ e0)).trans e0
      have f1 := (bl2.cell (p := ⟨w.heap.size, 1, none⟩) (World.block_lt_of_cell? _ _ e1)).trans e1
      have f2 := (bl2.cell (p := ⟨w.heap.size, 2, none⟩) (World.block_lt_of_cell? _ _ e2)).trans e2
      have f3 := (bl2.cell (p := ⟨wa.heap.size, 0, none⟩) (World.block_lt_of_cell? _ _ e3)).trans e3
      have f4 := (bl2.cell (p := ⟨wa.heap.size, 1, none⟩) (World.block_lt_of_cell? _ _ e4)).trans e4
      have f5 := (bl2.cell (p := ⟨wa.heap.size, 2, none⟩) (World.block_lt_of_cell? _ _ e5)).trans e5
      have HB2 := hide ((unhide HB1).trans (bl2.mono (unhide HB1).size))
      clear bl2 HKM2 HB1 e0 e1 e2 e3 e4 e5
      have HOa := hide (And.intro ((unhide HO).1.keep (unhide HB2)) ((unhide HO).2.keep (unhide HB2)))
      have HBa := hide ((unhide HB).trans ((unhide HB2).mono (unhide HB).size))
      have HO1 := hide (unhide HOa).1
      have HO2 := hide (unhide HOa).2
      obtain ⟨x0, q0⟩ := (unhide HO1).cells 0 (by decide)
      obtain ⟨x1', q1⟩ := (unhide HO1).cells 1 (by decide)
      obtain ⟨x2', q2⟩ := (unhide HO1).cells 2 (by decide)
      obtain ⟨x3', q3⟩ := (unhide HO2).cells 0 (by decide)
      obtain ⟨x4', q4⟩ := (unhide HO2).cells 1 (by decide)
      obtain ⟨x5', q5⟩ := (unhide HO2).cells 2 (by decide)
      have r0 := (unhide HO1).fz 0 (by decide)
      have r1 := (unhide HO1).fz 1 (by decide)
      have r2 := (unhide HO1).fz 2 (by decide)
      have r3 := (unhide HO2).fz 0 (by decide)
      have r4 := (unhide HO2).fz 1 (by decide)
      have r5 := (unhide HO2).fz 2 (by decide)
      have H6 := hide (six_set w2 wb.heap.size wo.heap.size hne1 (.bool false) (.slice none 0 0) (.slice none 0 0) (.bool false) (.slice none 0 0) (.slice none 0 0) (unhide HO1) (unhide HO2))
      go_wp2_with fail
      obtain ⟨wf, hwf, ⟨t0, t1, t2⟩, ⟨t3, t4, t5⟩, c6⟩ := unhide H6
      rw [hwf]
      refine bodyPost_ret (by simp [results, Tryz.results21, go_sem, t0, t1, t2, t3, t4, t5]; try rfl) rfl ?_
      exact ⟨_, _, rfl, newR_two (unhide HRw) (unhide HRT) (unhide HBa) (sl_nil _) (newAt_nil _) (sl_nil _) (newAt_nil _) c6 false, newR_two (unhide HRw) (unhide HRT) (unhide HBa) (sl_nil _) (newAt_nil _) (sl_nil _) (newAt_nil _) c6 false⟩
    · rw [k2] at HKM2
      have hx : x2 = [] := by rcases hno with h | h; · rw [k1, k2] at h; cases h
                              · exact h
      have hn2 : n2 = 0 := by rw [← hl2, hx]; rfl
      rw [decide_eq_true hn2] at HKZ
      have h40 := hFF.symm.trans (show DivdF g1 x1 y1 g2 x2 y2 = (((false, [], []), (false, [], [])), 3) from by unfold DivdF; rw [k1, k2]; simp [hx])
      cases h40
      clear hFF hno k1 k2 hx hn2 hl2
      unfold ratV at HKM1 HKM2 HKZ ⊢
      go_enter Tryz.func21, Tryz.ntmps21
      go_wp2_with fail
      refine (unhide HKM1 _ (Below.refl _ _)).mono ?_
      rintro _ w1 ⟨rfl, bl1⟩
      have e0 := (bl1.cell (p := ⟨w.heap.size, 0, none⟩) (World.block_lt_of_cell? _ _ p0)).trans p0
      have e1 := (bl1.cell (p := ⟨w.heap.size, 1, none⟩) (World.block_lt_of_cell? _ _ p1)).trans p1
      have e2 := (bl1.cell (p := ⟨w.heap.size, 2, none⟩) (World.block_lt_of_cell? _ _ p2)).trans p2
      have e3 := (bl1.cell (p := ⟨wa.heap.size, 0, none⟩) (World.block_lt_of_cell? _ _ p3)).trans p3
      have e4 := (bl1.cell (p := ⟨wa.heap.size, 1, none⟩) (World.block_lt_of_cell? _ _ p4)).trans p4
      have e5 := (bl1.cell (p := ⟨wa.heap.size, 2, none⟩) (World.block_lt_of_cell? _ _ p5)).trans p5
      have HB1 := hide bl1
      clear bl1 HKM1 p0 p1 p2 p3 p4 p5
      go_wp2_with fail
      refine (unhide HKM2 _ (unhide HB1)).mono ?_
      rintro _ w2 ⟨rfl, bl2⟩
      have f0 := (bl2.cell (p := ⟨w.heap.size, 0, none⟩) (World.block_lt_of_cell? _ _ e0)).trans e0
      have f1 := (bl2.cell (p := ⟨w.heap.size, 1, none⟩) (World.block_lt_of_cell? _ _ e1)).trans e1
      have f2 := (bl2.cell (p := ⟨w.heap.size, 2, none⟩) (World.block_lt_of_cell? _ _ e2)).trans e2
      have f3 := (bl2.cell (p := ⟨wa.heap.size, 0, none⟩) (World.block_lt_of_cell? _ _ e3)).trans e3
      have f4 := (bl2.cell (p := ⟨wa.heap.size, 1, none⟩) (World.block_lt_of_cell? _ _ e4)).trans e4
      have f5 := (bl2.cell (p := ⟨wa.heap.size, 2, none⟩) (World.block_lt_of_cell? _ _ e5)).trans e5
      have HB2 := hide ((unhide HB1).trans (bl2.mono (unhide HB1).size))
      clear bl2 HKM2 HB1 e0 e1 e2 e3 e4 e5
      go_wp2_with fail
      refine (unhide HKZ _).mono ?_
      rintro _ w3 ⟨rfl, bl3⟩
      have h0 := (bl3.cell (p := ⟨w.heap.size, 0, none⟩) (World.block_lt_of_cell? _ _ f0)).trans f0
      have h1 := (bl3.cell (p := ⟨w.heap.size, 1, none⟩) (World.block_lt_of_cell? _ _ f1)).trans f1
      have h2 := (bl3.cell (p := ⟨w.heap.size, 2, none⟩) (World.block_lt_of_cell? _ _ f2)).trans f2
      have h3 := (bl3.cell (p := ⟨wa.heap.size, 0, none⟩) (World.block_lt_of_cell? _ _ f3)).trans f3
      have h4 := (bl3.cell (p := ⟨wa.heap.size, 1, none⟩) (World.block_lt_of_cell? _ _ f4)).trans f4
      have h5 := (bl3.cell (p := ⟨wa.heap.size, 2, none⟩) (World.block_lt_of_cell? _ _ f5)).trans f5
      have HB3 := hide ((unhide HB2).trans (bl3.mono (unhide HB2).size))
      clear bl3 HKZ HB2 f0 f1 f2 f3 f4 f5
      have HOa := hide (And.intro ((unhide HO).1.keep (unhide HB3)) ((unhide HO).2.keep (unhide HB3)))
      have HBa := hide ((unhide HB).trans ((unhide HB3).mono (unhide HB).size))
      have HO1 := hide (unhide HOa).1
      have HO2 := hide (unhide HOa).2
      obtain ⟨x0, q0⟩ := (unhide HO1).cells 0 (by decide)
      obtain ⟨x1', q1⟩ := (unhide HO1).cells 1 (by decide)
      obtain ⟨x2', q2⟩ := (unhide HO1).cells 2 (by decide)
      obtain ⟨x3', q3⟩ := (unhide HO2).cells 0 (by decide)
      obtain ⟨x4', q4⟩ := (unhide HO2).cells 1 (by decide)
      obtain ⟨x5', q5⟩ := (unhide HO2).cells 2 (by decide)
      have r0 := (unhide HO1).fz 0 (by decide)
      have r1 := (unhide HO1).fz 1 (by decide)
      have r2 := (unhide HO1).fz 2 (by decide)
      have r3 := (unhide HO2).fz 0 (by decide)
      have r4 := (unhide HO2).fz 1 (by decide)
      have r5 := (unhide HO2).fz 2 (by decide)
      have H6 := hide (six_set w3 wb.heap.size wo.heap.size hne1 (.bool false) (.slice none 0 0) (.slice none 0 0) (.bool false) (.slice none 0 0) (.slice none 0 0) (unhide HO1) (unhide HO2))
      go_wp2_with fail
      obtain ⟨wf, hwf, ⟨t0, t1, t2⟩, ⟨t3, t4, t5⟩, c6⟩ := unhide H6
      rw [hwf]
      refine bodyPost_ret (by simp [results, Tryz.results21, go_sem, t0, t1, t2, t3, t4, t5]; try rfl) rfl ?_
      exact ⟨_, _, rfl, newR_two (unhide HRw) (unhide HRT) (unhide HBa) (sl_nil _) (newAt_nil _) (sl_nil _) (newAt_nil _) c6 false, newR_two (unhide HRw) (unhide HRT) (unhide HBa) (sl_nil _) (newAt_nil _) (sl_nil _) (newAt_nil _) c6 false⟩
theorem run_max3 (P:Program) (w:World) (ts:Array TypeId) (t:TypeId) (k k1 k2:IntKind) (x y z:Int) :
  (Builtin.max_ ts t #[.int k x,.int k1 y,.int k2 z]).run P w = .ok (.int k (if z > (if y > x then y else x) then z else (if y > x then y else x))) w:=by
 simp [Builtin.max_,Builtin.max2]
theorem ok_is1':Ok [1]:=by rw [← limbs_1]; exact (limbs_rep 1).ok
theorem fitL_er (v:Nat):(bigN v = false ∧ (fitL v).2 = 0) ∨ (bigN v = true ∧ (fitL v).2 = 2):=by
 unfold bigN fitL
 by_cases h:2048 < (limbs v).length
 ·right; simp [h]
 ·left; simp [h]
theorem fitN2 {v:Nat} (h:bigN v = false):fitL v = (limbs v,0):=by
 unfold bigN at h
 exact fitL_ok (by simpa using h)
end Go.Proofs.YtmmeiebbnjjijaaGreatDoor
