/- Ws6 -/
import Derived.Test.YtmmeiebbnjjijaaGreatDoorRgt
import Derived.Test.YtmmeiebbnjjijaaGreatDoorWrf
namespace Go.Proofs.YtmmeiebbnjjijaaGreatDoor
open Go.RowKit Go.Deep
set_option linter.unusedVariables false
set_option maxRecDepth 100000 in
set_option maxHeartbeats 16000000 in
theorem wDivide_no (g1 g2 : Bool) (a1 b1 a2 b2 : Option Addr) (n1 c1 m1 d1 n2 c2 m2 d2 : Nat) (x1 y1 x2 y2 : List Nat) (w : World) (hx1 : Sl w a1 n1 c1 x1) (hy1 : Sl w b1 m1 d1 y1) (hx2 : Sl w a2 n2 c2 x2) (hy2 : Sl w b2 m2 d2 y2) (ox1 : Ok x1) (oy1 : Ok y1) (ox2 : Ok x2) (oy2 : Ok y2) (hno : (MayR g1 x1 y1 && MayR g2 x2 y2) = false ∨ x2 = []) :
    Calls Tryz.prog 92 #[ratV g1 a1 n1 c1 b1 m1 d1, ratV g2 a2 n2 c2 b2 m2 d2] w fun e w' => ResD w w' (DivdF g1 x1 y1 g2 x2 y2) e := by
  obtain ⟨⟨⟨⟨SG, LN, LD⟩, ⟨SH, MN, MD⟩⟩, ER⟩, hFF⟩ : ∃ r, DivdF g1 x1 y1 g2 x2 y2 = r := ⟨_, rfl⟩
  rw [hFF]
  unfold ResD
  dsimp only
  have bx := Box.made w g1 a1 n1 c1 b1 m1 d1
  obtain ⟨wa, hwa⟩ : ∃ wa, ratBox w g1 a1 n1 c1 b1 m1 d1 = wa := ⟨_, rfl⟩
  rw [hwa] at bx
  have by_ := Box.made wa g2 a2 n2 c2 b2 m2 d2
  obtain ⟨wb, hwb⟩ : ∃ wb, ratBox wa g2 a2 n2 c2 b2 m2 d2 = wb := ⟨_, rfl⟩
  rw [hwb] at by_
  have hba : Below w.heap.size w wa := by rw [← hwa]; exact (Below.refl _ _).alloc (Nat.le_refl _) _
  have hbb : Below wa.heap.size wa wb := by rw [← hwb]; exact (Below.refl _ _).alloc (Nat.le_refl _) _
  unfold ratBox at hwa hwb
  obtain ⟨wo, hwo⟩ : ∃ x, wb.alloc (.cells #[.bool false, .slice none 0 0, .slice none 0 0] 25) = x := ⟨_, rfl⟩
  have hbo : Below wb.heap.size wb wo := by rw [← hwo]; exact (Below.refl _ _).alloc (Nat.le_refl _) _
  obtain ⟨wp, hwp⟩ : ∃ x, wo.alloc (.cells #[.bool false, .slice none 0 0, .slice none 0 0] 25) = x := ⟨_, rfl⟩
  have hbp : Below wo.heap.size wo wp := by rw [← hwp]; exact (Below.refl _ _).alloc (Nat.le_refl _) _
  have hO1 : Out wp wb.heap.size := by have h : Out wo wb.heap.size := by { rw [← hwo]; exact Out.made wb }; exact h.keep hbp
  have hO2 : Out wp wo.heap.size := by rw [← hwp]; exact Out.made wo
  have bx2 := ((bx.keep hbb).keep hbo).keep hbp
  have by2 := (by_.keep hbo).keep hbp
  have hB := ((hba.trans (hbb.mono hba.size)).trans (hbo.mono (Nat.le_trans hba.size hbb.size))).trans (hbp.mono (Nat.le_trans (Nat.le_trans hba.size hbb.size) hbo.size))
  have hzo : wo.heap.size = wb.heap.size + 1 := by rw [← hwo]; simp
  have hlab : w.heap.size < wa.heap.size := bx.lt
  have hlab3 : wa.heap.size < wb.heap.size := by_.lt
  have p0 := bx2.d0
  have p1 := bx2.d1
  have p2 := bx2.d2
  have p3 := by2.d0
  have p4 := by2.d1
  have p5 := by2.d2
  have HRw := hide (show w.heap.size ≤ wb.heap.size from Nat.le_trans hba.size hbb.size)
  have HRT := hide (show wb.heap.size < wo.heap.size by omega)
  have hne1 : wb.heap.size ≠ wo.heap.size := by omega
  have hne2 : wo.heap.size ≠ wb.heap.size := by omega
  have hne3 : w.heap.size ≠ wa.heap.size := by omega
  have hne4 : w.heap.size ≠ wb.heap.size := by omega
  have hne5 : w.heap.size ≠ wo.heap.size := by omega
  have hne6 : wa.heap.size ≠ wb.heap.size := by omega
  have hne7 : wa.heap.size ≠ wo.heap.size := by omega
  have HO := hide (And.intro hO1 hO2)
  have HB := hide hB
  have HS := hide (And.intro (hx1.below hB) (And.intro (hy1.below hB) (And.intro (hx2.below hB) (hy2.below hB))))
  have HKM1 := hide (fun (W : World) (hb : Below wp.heap.size wp W) => wmay_any g1 a1 b1 n1 c1 m1 d1 x1 y1 W ((unhide HS).1.below hb) ((unhide HS).2.1.below hb) ox1 oy1)
  have HKM2 := hide (fun (W : World) (hb : Below wp.heap.size wp W) => wmay_any g2 a2 b2 n2 c2 m2 d2 x2 y2 W ((unhide HS).2.2.1.below hb) ((unhide HS).2.2.2.below hb) ox2 oy2)
  have hl2 := hx2.len
  clear hx1 hy1 hx2 hy2 bx by_ bx2 by2 hba hbb hbo hbp hB hO1 hO2 hzo hlab hlab3
  cases k1 : MayR g1 x1 y1
  · rw [k1] at HKM1
    have h40 := hFF.symm.trans (show DivdF g1 x1 y1 g2 x2 y2 = (((false, [], []), (false, [], [])), 40) from by unfold DivdF; rw [k1]; rfl)
    cases h40
    clear hFF hno k1
    unfold ratV at HKM1 HKM2 ⊢
    go_enter Tryz.func92, Tryz.ntmps92
    go_wp2_with fail
    refine (unhide HKM1 _ (Below.refl _ _)).mono ?_
    rintro _ w1 ⟨rfl, bl1⟩
    have e0 := (bl1.cell (p := ⟨w.heap.size, 0, none⟩) (World.block_lt_of_cell? _ _ p0)).trans p0
    have e1 := (bl1.cell (p := ⟨w.heap.size, 1, none⟩) (World.block_lt_of_cell? _ _ p1)).trans p1
    have e2 := (bl1.cell (p := ⟨w.heap.size, 2, none⟩) (World.block_lt_of_cell? _ _ p2)).trans p2
    have e3 := (bl1.cell (p := ⟨wa.heap.size, 0, none⟩) (World.block_lt_of_cell? _ _ p3)).trans p3
    have e4 := (bl1.cell (p := ⟨wa.heap.size, 1, none⟩) (World.block_lt_of_cell? _ _ p4)).trans p4
    have e5 := (bl1.cell (p := ⟨wa.heap.size, 2, none⟩) (World.block_lt_of_cell? _ _ p5)).trans p5
    have HB1 := hide bl1
    clear bl1 HKM1 p0 p1 p2 p3 p4 p5
    have HOa := hide (And.intro ((unhide HO).1.keep (unhide HB1)) ((unhide HO).2.keep (unhide HB1)))
    have HBa := hide ((unhide HB).trans ((unhide HB1).mono (unhide HB).size))
    have HO1 := hide (unhide HOa).1
    have HO2 := hide (unhide HOa).2
    obtain ⟨x0, q0⟩ := (unhide HO1).cells 0 (by decide)
    obtain ⟨x1', q1⟩ := (unhide HO1).cells 1 (by decide)
    obtain ⟨x2', q2⟩ := (unhide HO1).cells 2 (by decide)
    obtain ⟨x3', q3⟩ := (unhide HO2).cells 0 (by decide)
    obtain ⟨x4', q4⟩ := (unhide HO2).cells 1 (by decide)
    obtain ⟨x5', q5⟩ := (unhide HO2).cells 2 (by decide)
    have r0 := (unhide HO1).fz 0 (by decide)
    have r1 := (unhide HO1).fz 1 (by decide)
    have r2 := (unhide HO1).fz 2 (by decide)
    have r3 := (unhide HO2).fz 0 (by decide)
    have r4 := (unhide HO2).fz 1 (by decide)
    have r5 := (unhide HO2).fz 2 (by decide)
    have H6 := hide (six_set w1 wb.heap.size wo.heap.size hne1 (.bool false) (.slice none 0 0) (.slice none 0 0) (.bool false) (.slice none 0 0) (.slice none 0 0) (unhide HO1) (unhide HO2))
    go_wp2_with fail
    obtain ⟨wf, hwf, ⟨t0, t1, t2⟩, ⟨t3, t4, t5⟩, c6⟩ := unhide H6
    rw [hwf]
    refine bodyPost_ret (by simp [results, Tryz.results92, go_sem, t0, t1, t2, t3, t4, t5]; try rfl) rfl ?_
    exact ⟨_, _, rfl, newR_two (unhide HRw) (unhide HRT) (unhide HBa) (sl_nil _) (newAt_nil _) (sl_nil _) (newAt_nil _) c6 false, newR_two (unhide HRw) (unhide HRT) (unhide HBa) (sl_nil _) (newAt_nil _) (sl_nil _) (newAt_nil _) c6 false⟩
  · rw [k1] at HKM1
    cases k2 : MayR g2 x2 y2
    · rw [k2] at HKM2
      have h40 := hFF.symm.trans (show DivdF g1 x1 y1 g2 x2 y2 = (((false, [], []), (false, [], [])), 40) from by unfold DivdF; rw [k1, k2]; rfl)
      cases h40
      clear hFF hno k1 k2
      unfold ratV at HKM1 HKM2 ⊢
      go_enter Tryz.func92, Tryz.ntmps92
      go_wp2_with fail
      refine (unhide HKM1 _ (Below.refl _ _)).mono ?_
      rintro _ w1 ⟨rfl, bl1⟩
      have e0 := (bl1.cell (p := ⟨w.heap.size, 0, none⟩) (World.block_lt_of_cell? _ _ p0)).trans p0
      have e1 := (bl1.cell (p := ⟨w.heap.size, 1, none⟩) (World.block_lt_of_cell? _ _ p1)).trans p1
      have e2 := (bl1.cell (p := ⟨w.heap.size, 2, none⟩) (World.block_lt_of_cell? _ _ p2)).trans p2
      have e3 := (bl1.cell (p := ⟨wa.heap.size, 0, none⟩) (World.block_lt_of_cell? _ _ p3)).trans p3
      have e4 := (bl1.cell (p := ⟨wa.heap.size, 1, none⟩) (World.block_lt_of_cell? _ _ p4)).trans p4
      have e5 := (bl1.cell (p := ⟨wa.heap.size, 2, none⟩) (World.block_lt_of_cell? _ _ p5)).trans p5
      have HB1 := hide bl1
      clear bl1 HKM1 p0 p1 p2 p3 p4 p5
      go_wp2_with fail
      refine (unhide HKM2 _ (unhide HB1)).mono ?_
      rintro _ w2 ⟨rfl, bl2⟩
      have f0 := (bl2.cell (p := ⟨w.heap.size, 0, none⟩) (World.block_lt_of_cell? _ _ e0)).trans e0
      have f1 := (bl2.cell (p := ⟨w.heap.size, 1, none⟩) (World.block_lt_of_cell? _ _ e1)).trans e1
      have f2 := (bl2.cell (p := ⟨w.heap.size, 2, none⟩) (World.block_lt_of_cell? _ _ e2)).trans e2
      have f3 := (bl2.cell (p := ⟨wa.heap.size, 0, none⟩) (World.block_lt_of_cell? _ _ e3)).trans e3
      have f4 := (bl2.cell (p := ⟨wa.heap.size, 1, none⟩) (World.block_lt_of_cell? _ _ e4)).trans e4
      have f5 := (bl2.cell (p := ⟨wa.heap.size, 2, none⟩) (World.block_lt_of_cell? _ _ e5)).trans e5
      have HB2 := hide ((unhide HB1).trans (bl2.mono (unhide HB1).size))
      clear bl2 HKM2 HB1 e0 e1 e2 e3 e4 e5
      have HOa := hide (And.intro ((unhide HO).1.keep (unhide HB2)) ((unhide HO).2.keep (unhide HB2)))
      have HBa := hide ((unhide HB).trans ((unhide HB2).mono (unhide HB).size))
      have HO1 := hide (unhide HOa).1
      have HO2 := hide (unhide HOa).2
      obtain ⟨x0, q0⟩ := (unhide HO1).cells 0 (by decide)
      obtain ⟨x1', q1⟩ := (unhide HO1).cells 1 (by decide)
      obtain ⟨x2', q2⟩ := (unhide HO1).cells 2 (by decide)
      obtain ⟨x3', q3⟩ := (unhide HO2).cells 0 (by decide)
      obtain ⟨x4', q4⟩ := (unhide HO2).cells 1 (by decide)
      obtain ⟨x5', q5⟩ := (unhide HO2).cells 2 (by decide)
      have r0 := (unhide HO1).fz 0 (by decide)
      have r1 := (unhide HO1).fz 1 (by decide)
      have r2 := (unhide HO1).fz 2 (by decide)
      have r3 := (unhide HO2).fz 0 (by decide)
      have r4 := (unhide HO2).fz 1 (by decide)
      have r5 := (unhide HO2).fz 2 (by decide)
      have H6 := hide (six_set w2 wb.heap.size wo.heap.size hne1 (.bool false) (.slice none 0 0) (.slice none 0 0) (.bool false) (.slice none 0 0) (.slice none 0 0) (unhide HO1) (unhide HO2))
      go_wp2_with fail
      obtain ⟨wf, hwf, ⟨t0, t1, t2⟩, ⟨t3, t4, t5⟩, c6⟩ := unhide H6
      rw [hwf]
      refine bodyPost_ret (by simp [results, Tryz.results92, go_sem, t0, t1, t2, t3, t4, t5]; try rfl) rfl ?_
      exact ⟨_, _, rfl, newR_two (unhide HRw) (unhide HRT) (unhide HBa) (sl_nil _) (newAt_nil _) (sl_nil _) (newAt_nil _) c6 false, newR_two (unhide HRw) (unhide HRT) (unhide HBa) (sl_nil _) (newAt_nil _) (sl_nil _) (newAt_nil _) c6 false⟩
    · rw [k2] at HKM2
      have hx : x2 = [] := by rcases hno with h | h; · rw [k1, k2] at h; cases h
                              · exact h
      have hn2 : n2 = 0 := by rw [← hl2, hx]; rfl
      have h40 := hFF.symm.trans (show DivdF g1 x1 y1 g2 x2 y2 = (((false, [], []), (false, [], [])), 3) from by unfold DivdF; rw [k1, k2]; simp [hx])
      cases h40
      clear hFF hno k1 k2 hx hl2
      subst hn2
      unfold ratV at HKM1 HKM2 ⊢
      go_enter Tryz.func92, Tryz.ntmps92
      go_wp2_with fail
      refine (unhide HKM1 _ (Below.refl _ _)).mono ?_
      rintro _ w1 ⟨rfl, bl1⟩
      have e0 := (bl1.cell (p := ⟨w.heap.size, 0, none⟩) (World.block_lt_of_cell? _ _ p0)).trans p0
      have e1 := (bl1.cell (p := ⟨w.heap.size, 1, none⟩) (World.block_lt_of_cell? _ _ p1)).trans p1
      have e2 := (bl1.cell (p := ⟨w.heap.size, 2, none⟩) (World.block_lt_of_cell? _ _ p2)).trans p2
      have e3 := (bl1.cell (p := ⟨wa.heap.size, 0, none⟩) (World.block_lt_of_cell? _ _ p3)).trans p3
      have e4 := (bl1.cell (p := ⟨wa.heap.size, 1, none⟩) (World.block_lt_of_cell? _ _ p4)).trans p4
      have e5 := (bl1.cell (p := ⟨wa.heap.size, 2, none⟩) (World.block_lt_of_cell? _ _ p5)).trans p5
      have HB1 := hide bl1
      clear bl1 HKM1 p0 p1 p2 p3 p4 p5
      go_wp2_with fail
      refine (unhide HKM2 _ (unhide HB1)).mono ?_
      rintro _ w2 ⟨rfl, bl2⟩
      have f0 := (bl2.cell (p := ⟨w.heap.size, 0, none⟩) (World.block_lt_of_cell? _ _ e0)).trans e0
      have f1 := (bl2.cell (p := ⟨w.heap.size, 1, none⟩) (World.block_lt_of_cell? _ _ e1)).trans e1
      have f2 := (bl2.cell (p := ⟨w.heap.size, 2, none⟩) (World.block_lt_of_cell? _ _ e2)).trans e2
      have f3 := (bl2.cell (p := ⟨wa.heap.size, 0, none⟩) (World.block_lt_of_cell? _ _ e3)).trans e3
      have f4 := (bl2.cell (p := ⟨wa.heap.size, 1, none⟩) (World.block_lt_of_cell? _ _ e4)).trans e4
      have f5 := (bl2.cell (p := ⟨wa.heap.size, 2, none⟩) (World.block_lt_of_cell? _ _ e5)).trans e5
      have HB2 := hide ((unhide HB1).trans (bl2.mono (unhide HB1).size))
      clear bl2 HKM2 HB1 e0 e1 e2 e3 e4 e5
      have HOa := hide (And.intro ((unhide HO).1.keep (unhide HB2)) ((unhide HO).2.keep (unhide HB2)))
      have HBa := hide ((unhide HB).trans ((unhide HB2).mono (unhide HB).size))
      have HO1 := hide (unhide HOa).1
      have HO2 := hide (unhide HOa).2
      obtain ⟨x0, q0⟩ := (unhide HO1).cells 0 (by decide)
      obtain ⟨x1', q1⟩ := (unhide HO1).cells 1 (by decide)
      obtain ⟨x2', q2⟩ := (unhide HO1).cells 2 (by decide)
      obtain ⟨x3', q3⟩ := (unhide HO2).cells 0 (by decide)
      obtain ⟨x4', q4⟩ := (unhide HO2).cells 1 (by decide)
      obtain ⟨x5', q5⟩ := (unhide HO2).cells 2 (by decide)
      have r0 := (unhide HO1).fz 0 (by decide)
      have r1 := (unhide HO1).fz 1 (by decide)
      have r2 := (unhide HO1).fz 2 (by decide)
      have r3 := (unhide HO2).fz 0 (by decide)
      have r4 := (unhide HO2).fz 1 (by decide)
      have r5 := (unhide HO2).fz 2 (by decide)
      have H6 := hide (six_set w2 wb.heap.size wo.heap.size hne1 (.bool false) (.slice none 0 0) (.slice none 0 0) (.bool false) (.slice none 0 0) (.slice none 0 0) (unhide HO1) (unhide HO2))
      go_wp2_with fail
      obtain ⟨wf, hwf, ⟨t0, t1, t2⟩, ⟨t3, t4, t5⟩, c6⟩ := unhide H6
      rw [hwf]
      refine bodyPost_ret (by simp [results, Tryz.results92, go_sem, t0, t1, t2, t3, t4, t5]; try rfl) rfl ?_
      exact ⟨_, _, rfl, newR_two (unhide HRw) (unhide HRT) (unhide HBa) (sl_nil _) (newAt_nil _) (sl_nil _) (newAt_nil _) c6 false, newR_two (unhide HRw) (unhide HRT) (unhide HBa) (sl_nil _) (newAt_nil _) (sl_nil _) (newAt_nil _) c6 false⟩
theorem flQ_scale {g:Bool} {X Y G:Nat} (hG:0 < G):flQ g (X * G) (Y * G) = flQ g X Y:=by
 unfold flQ
 rw [Nat.mul_div_mul_right X Y hG,Nat.mul_mod_mul_right]
 have e:decide (X % Y * G ≠ 0) = decide (X % Y ≠ 0):=by
  by_cases h:X % Y = 0
  ·rw [h,Nat.zero_mul]
  ·have h2:X % Y * G ≠ 0:=Nat.mul_ne_zero h (by omega)
   rw [decide_eq_true h,decide_eq_true h2]
 rw [e]
theorem flL_val {g1 g2:Bool} {X Y:Nat} (hY:0 < Y):nI g1 X + nI (!g1) (flQ (g1 != g2) X Y * Y) = nI g2 (flL (g1 != g2) X Y):=by
 have h:=Nat.div_add_mod X Y
 have hl:=Nat.mod_lt X hY
 rw [Nat.mul_comm] at h
 unfold flQ flL
 by_cases hz:X % Y = 0
 ·simp only [hz,ne_eq,not_true_eq_false,decide_false,Bool.and_false,Bool.false_eq_true,if_false]
  rw [hz] at h
  have e:X / Y * Y = X:=by omega
  rw [e]
  cases g1 <;> cases g2 <;> simp [nI] <;> omega
 ·have e2:(X / Y + 1) * Y = X / Y * Y + Y:=by rw [Nat.add_mul,Nat.one_mul]
  have k1:decide (X % Y ≠ 0) = true:=decide_eq_true hz
  rw [k1,Bool.and_true]
  by_cases hg:g1 = g2
  ·subst hg
   rw [show (g1 != g1) = false from by simp,if_neg (by decide),if_neg (by decide)]
   generalize X / Y * Y = M at *
   cases g1 <;> simp [nI] <;> omega
  ·obtain rfl:g2 = !g1:=by cases g1 <;> cases g2 <;> simp at hg ⊢
   rw [show (g1 != !g1) = true from by cases g1 <;> rfl,if_pos rfl,if_pos rfl]
   generalize (X / Y + 1) * Y = N2 at *
   generalize X / Y * Y = M at *
   cases g1 <;> simp [nI] <;> omega
theorem flL_cop {g:Bool} {X Y A:Nat} (hY:0 < Y) (hA:A ∣ Y) (h:Nat.gcd X A = 1):Nat.gcd (flL g X Y) A = 1:=by
 have hX:=Nat.div_add_mod X Y
 have hl:=Nat.mod_lt X hY
 have h1:Nat.gcd (flL g X Y) A ∣ flL g X Y:=Nat.gcd_dvd_left _ _
 have h2:Nat.gcd (flL g X Y) A ∣ A:=Nat.gcd_dvd_right _ _
 have h3:Nat.gcd (flL g X Y) A ∣ Y:=Nat.dvd_trans h2 hA
 have h4:Nat.gcd (flL g X Y) A ∣ X % Y:=by
  generalize Nat.gcd (flL g X Y) A = d at *
  unfold flL at h1
  split at h1
  ·have:=Nat.dvd_sub h3 h1
   rwa [show Y - (Y - X % Y) = X % Y by omega] at this
  ·exact h1
 have h5:Nat.gcd (flL g X Y) A ∣ X:=by
  have h7:=(Nat.dvd_add_right (Nat.dvd_mul_right_of_dvd h3 (X / Y))).2 h4
  rw [hX] at h7
  exact h7
 have h6:=Nat.dvd_gcd h5 h2
 rw [h] at h6
 exact Nat.dvd_one.1 h6
theorem cop_left {a b c:Nat} (h:c ∣ a) (h1:Nat.gcd a b = 1):Nat.gcd c b = 1:=by
 have:=Nat.dvd_gcd (Nat.dvd_trans (Nat.gcd_dvd_left c b) h) (Nat.gcd_dvd_right c b)
 rw [h1] at this
 exact Nat.dvd_one.1 this
theorem cop_right {a b c:Nat} (h:c ∣ b) (h1:Nat.gcd a b = 1):Nat.gcd a c = 1:=by
 rw [Nat.gcd_comm] at h1 ⊢
 exact cop_left h h1
theorem cop_both {a b c:Nat} (h1:Nat.gcd a b = 1) (h2:Nat.gcd a c = 1):Nat.gcd a (b * c) = 1:=Nat.Coprime.mul_right h1 h2

theorem dvQ_is {g:Bool} {X1 Y1 X2 Y2:Nat} (h1:0 < Y1):flQ g (X1 * Y2) (Y1 * X2) = dvQ g X1 Y1 X2 Y2:=by
 have hG:0 < Nat.gcd Y1 Y2:=Nat.gcd_pos_of_pos_left _ h1
 unfold dvQ dvX dvY
 have e1:X1 * (Y2 / Nat.gcd Y1 Y2) * Nat.gcd Y1 Y2 = X1 * Y2:=by rw [Nat.mul_assoc,← div_of (Nat.gcd_dvd_right Y1 Y2)]
 have e2:Y1 / Nat.gcd Y1 Y2 * X2 * Nat.gcd Y1 Y2 = Y1 * X2:=by rw [Nat.mul_right_comm,← div_of (Nat.gcd_dvd_left Y1 Y2)]
 rw [← e1,← e2,flQ_scale hG]
theorem dvN_is {g1 g2:Bool} {X1 Y1 X2 Y2:Nat} (p1:0 < Y1) (p2:0 < Y2) (px:0 < X2) (l1:Nat.gcd X1 Y1 = 1) :
  lowF (cmbV g1 (X1 * Y2) (!g1) (dvQ (g1 != g2) X1 Y1 X2 Y2 * X2 * Y1)).2 (cmbV g1 (X1 * Y2) (!g1) (dvQ (g1 != g2) X1 Y1 X2 Y2 * X2 * Y1)).1 (Y1 * Y2) =
   if bigN (dvN (g1 != g2) X1 Y1 X2 Y2) || bigN (dvD (g1 != g2) X1 Y1 X2 Y2) then ((false,[],[]),2) else ((g2 && decide (dvN (g1 != g2) X1 Y1 X2 Y2 ≠ 0),limbs (dvN (g1 != g2) X1 Y1 X2 Y2),limbs (dvD (g1 != g2) X1 Y1 X2 Y2)),0):=by
 have hG:0 < Nat.gcd Y1 Y2:=Nat.gcd_pos_of_pos_left _ p1
 have eA:=div_of (Nat.gcd_dvd_left Y1 Y2)
 have eB:=div_of (Nat.gcd_dvd_right Y1 Y2)
 have cAB:=cop_quot (a:=Y1) p2
 have pA:0 < Y1 / Nat.gcd Y1 Y2:=div_pos_of_dvd (Nat.gcd_dvd_left _ _) p1
 have dA:Y1 / Nat.gcd Y1 Y2 ∣ Y1:=Nat.div_dvd_of_dvd (Nat.gcd_dvd_left _ _)
 have hY:0 < dvY Y1 X2 Y2:=Nat.mul_pos pA px
 have cX:Nat.gcd (dvX X1 Y1 Y2) (Y1 / Nat.gcd Y1 Y2) = 1:=by
  unfold dvX
  have c1:=cop_right dA l1
  rw [Nat.gcd_comm] at cAB
  rw [Nat.gcd_comm] at c1 cAB ⊢
  exact cop_both c1 cAB
 have cL:Nat.gcd (dvL (g1 != g2) X1 Y1 X2 Y2) (Y1 / Nat.gcd Y1 Y2) = 1:=flL_cop hY (Nat.dvd_mul_right _ _) cX
 have hK:0 < Nat.gcd (dvL (g1 != g2) X1 Y1 X2 Y2) Y2:=Nat.gcd_pos_of_pos_right _ p2
 have eL:=div_of (Nat.gcd_dvd_left (dvL (g1 != g2) X1 Y1 X2 Y2) Y2)
 have eE:=div_of (Nat.gcd_dvd_right (dvL (g1 != g2) X1 Y1 X2 Y2) Y2)
 have pE:0 < Y2 / Nat.gcd (dvL (g1 != g2) X1 Y1 X2 Y2) Y2:=div_pos_of_dvd (Nat.gcd_dvd_right _ _) p2
 refine lowF_is (g:=(cmbV g1 (X1 * Y2) (!g1) (dvQ (g1 != g2) X1 Y1 X2 Y2 * X2 * Y1)).2) (sg:=g2) (N:=dvN (g1 != g2) X1 Y1 X2 Y2) (M:=dvD (g1 != g2) X1 Y1 X2 Y2) ?_ (Nat.mul_pos pA pE) (Nat.mul_pos p1 p2) ?_
 ·unfold dvN dvD
  exact cop_both (cop_left (Nat.div_dvd_of_dvd (Nat.gcd_dvd_left _ _)) cL) (cop_quot p2)
 ·rw [cmbV_val]
  have hv:=flL_val (g1:=g1) (g2:=g2) (X:=dvX X1 Y1 Y2) hY
  have e1:X1 * Y2 = dvX X1 Y1 Y2 * Nat.gcd Y1 Y2:=by unfold dvX; rw [Nat.mul_assoc,← eB]
  have e2:dvQ (g1 != g2) X1 Y1 X2 Y2 * X2 * Y1 = flQ (g1 != g2) (dvX X1 Y1 Y2) (dvY Y1 X2 Y2) * dvY Y1 X2 Y2 * Nat.gcd Y1 Y2:=by
   unfold dvQ
   generalize flQ (g1 != g2) (dvX X1 Y1 Y2) (dvY Y1 X2 Y2) = q
   unfold dvY
   calc q * X2 * Y1 = q * X2 * (Y1 / Nat.gcd Y1 Y2 * Nat.gcd Y1 Y2):=by rw [← eA]
    _ = q * (Y1 / Nat.gcd Y1 Y2 * X2) * Nat.gcd Y1 Y2:=by
     generalize Y1 / Nat.gcd Y1 Y2 = a
     generalize Nat.gcd Y1 Y2 = b
     rw [Nat.mul_assoc q X2,← Nat.mul_assoc X2,Nat.mul_comm X2 a,Nat.mul_assoc q]
  rw [e1,e2,nI_mul,nI_mul (!g1),← Int.add_mul,hv,← nI_mul,← nI_mul,← nI_mul]
  refine congrArg (nI g2) ?_
  unfold dvN dvD
  have eLd:flL (g1 != g2) (dvX X1 Y1 Y2) (dvY Y1 X2 Y2) = dvL (g1 != g2) X1 Y1 X2 Y2:=rfl
  rw [eLd]
  generalize dvL (g1 != g2) X1 Y1 X2 Y2 = L at *
  generalize Nat.gcd L Y2 = K at *
  generalize hGG:Nat.gcd Y1 Y2 = G at *
  generalize Y1 / G = A at *
  generalize hl:L / K = l at *
  generalize hE:Y2 / K = E at *
  rw [eL]
  calc l * (Y1 * Y2) = l * (A * G * (E * K)):=by rw [← eA,← eE]
   _ = l * K * G * (A * E):=by
    rw [Nat.mul_mul_mul_comm A G E K,Nat.mul_comm G K,← Nat.mul_assoc l,Nat.mul_right_comm l (A * E),← Nat.mul_assoc l K G]
end Go.Proofs.YtmmeiebbnjjijaaGreatDoor
