/- Cgd -/
import Derived.Test.YtgjokididdffhaaGreatCgc
import Derived.Test.YtgjokididdffhaaGreatSa0
namespace Go.Proofs.YtgjokididdffhaaGreat
open Go.RowKit Go.Deep
set_option linter.unusedVariables false
set_option maxRecDepth 100000 in
set_option maxHeartbeats 16000000 in
theorem citself_no (rows width : Int) (a1 a2 : Option Addr) (n1 c1 n2 c2 : Nat) (st cols : List Int) (w : World) (h1 : SlI w a1 n1 c1 st) (h2 : SlI w a2 n2 c2 cols) (hb1 : n1 ≤ 17592186044000) (hb2 : n2 ≤ 17592186044000) (hm : ¬ MayP rows width st cols) :
    Calls Tryz.prog 49 #[patV rows width a1 n1 c1 a2 n2 c2] w fun e w' => e = .returned (.tuple #[.agg #[.int .i64 0, .int .i64 0, .slice none 0 0, .slice none 0 0], .int .i64 180]) ∧ Below w.heap.size w w' := by
  obtain ⟨wb, hwb⟩ : ∃ x, w.alloc (.cells #[.int .i64 rows, .int .i64 width, .slice a1 n1 c1, .slice a2 n2 c2] 25) = x := ⟨_, rfl⟩
  have bb : Below w.heap.size w wb := by rw [← hwb]; exact (Below.refl _ _).alloc (Nat.le_refl _) _
  have hT := BoxP.made w #[.int .i64 rows, .int .i64 width, .slice a1 n1 c1, .slice a2 n2 c2] 25
  rw [hwb] at hT
  have hO0 := BoxP.made wb #[.int .i64 0, .int .i64 0, .slice none 0 0, .slice none 0 0] 25
  obtain ⟨wo, hwo⟩ : ∃ x, wb.alloc (.cells #[.int .i64 0, .int .i64 0, .slice none 0 0, .slice none 0 0] 25) = x := ⟨_, rfl⟩
  have bo : Below wb.heap.size wb wo := by rw [← hwo]; exact (Below.refl _ _).alloc (Nat.le_refl _) _
  rw [hwo] at hO0
  have hT1 := hT.below bo
  have p0 := (hT1.all 0 _ rfl).1
  have p1 := (hT1.all 1 _ rfl).1
  have p2 := (hT1.all 2 _ rfl).1
  have p3 := (hT1.all 3 _ rfl).1
  have bw := bb.trans (bo.mono bb.size)
  have HT := hide hT1
  have HO := hide hO0
  have HB := hide bw
  have HWB := hide bb.size
  have HS := hide (And.intro h1 h2)
  have KM := hide (smay_any rows width a1 a2 n1 c1 n2 c2 st cols wo (h1.below bw) (h2.below bw) (by omega) (by omega))
  unfold patV at KM
  have HTQ := hide (show TruQ false (MayP rows width st cols) from ⟨fun e => absurd e (by decide), fun h => absurd h hm⟩)
  clear hT hT1 hO0 bb bo bw h1 h2 hm
  unfold patV
  go_enter Tryz.func49, Tryz.ntmps49
  go_wp2_with fail
  refine (unhide KM).mono ?_
  intro e w2 hq
  obtain ⟨rfl, b2⟩ := hq.known (unhide HTQ)
  have hT2 := (unhide HT).below b2
  have q0 := (hT2.all 0 _ rfl).1
  have q1 := (hT2.all 1 _ rfl).1
  have q2 := (hT2.all 2 _ rfl).1
  have q3 := (hT2.all 3 _ rfl).1
  have bw2 := (unhide HB).trans (b2.mono (unhide HB).size)
  have hO2 := (unhide HO).below b2
  have o0 := (hO2.all 0 _ rfl).1
  have o1 := (hO2.all 1 _ rfl).1
  have o2 := (hO2.all 2 _ rfl).1
  have o3 := (hO2.all 3 _ rfl).1
  have r0 := (hO2.all 0 _ rfl).2
  have r1 := (hO2.all 1 _ rfl).2
  have r2 := (hO2.all 2 _ rfl).2
  have r3 := (hO2.all 3 _ rfl).2
  have HO2 := hide hO2
  have HB2 := hide bw2
  clear hq KM b2 hT2 hO2 bw2 p0 p1 p2 p3
  go_wp2_with fail
  have hf := ((((unhide HO2).put 0 (.int .i64 0)).put 1 (.int .i64 0)).put 2 (.slice none 0 0)).put 3 (.slice none 0 0)
  have t0 := (hf.all 0 _ rfl).1
  have t1 := (hf.all 1 _ rfl).1
  have t2 := (hf.all 2 _ rfl).1
  have t3 := (hf.all 3 _ rfl).1
  have cc : Chg (fun j => j = wb.heap.size) w2 ((((w2.setCell ⟨wb.heap.size, 0, none⟩ (.int .i64 0)).setCell ⟨wb.heap.size, 1, none⟩ (.int .i64 0)).setCell ⟨wb.heap.size, 2, none⟩ (.slice none 0 0)).setCell ⟨wb.heap.size, 3, none⟩ (.slice none 0 0)) := (((Chg.of_set (S := fun j => j = wb.heap.size) _ _ _ _ rfl).trans (Chg.of_set (S := fun j => j = wb.heap.size) _ _ _ _ rfl)).trans (Chg.of_set (S := fun j => j = wb.heap.size) _ _ _ _ rfl)).trans (Chg.of_set (S := fun j => j = wb.heap.size) _ _ _ _ rfl)
  generalize (((w2.setCell ⟨wb.heap.size, 0, none⟩ (.int .i64 0)).setCell ⟨wb.heap.size, 1, none⟩ (.int .i64 0)).setCell ⟨wb.heap.size, 2, none⟩ (.slice none 0 0)).setCell ⟨wb.heap.size, 3, none⟩ (.slice none 0 0) = wf at *
  refine bodyPost_ret (by simp [results, Tryz.results49, go_sem, t0, t1, t2, t3]; try rfl) rfl ?_
  exact ⟨rfl, (unhide HB2).trans (cc.below (unhide HB2).size (fun j hj e => by have := unhide HWB; omega))⟩
set_option maxRecDepth 100000 in
set_option maxHeartbeats 16000000 in
theorem citself_asym (R width : Nat) (a1 a2 : Option Addr) (n1 c1 n2 c2 : Nat) (st cols : List Int) (w : World) (h1 : SlI w a1 n1 c1 st) (h2 : SlI w a2 n2 c2 cols) (hb1 : n1 ≤ 17592186044000) (hb2 : n2 ≤ 17592186044000) (hm : MayP (R : Int) (width : Int) st cols) (hsy : ¬ (R = width ∧ SyP st cols R)) :
    Calls Tryz.prog 49 #[patV (R : Int) (width : Int) a1 n1 c1 a2 n2 c2] w fun e w' => e = .returned (.tuple #[.agg #[.int .i64 0, .int .i64 0, .slice none 0 0, .slice none 0 0], .int .i64 220]) ∧ Below w.heap.size w w' := by
  obtain ⟨wb, hwb⟩ : ∃ x, w.alloc (.cells #[.int .i64 (R : Int), .int .i64 (width : Int), .slice a1 n1 c1, .slice a2 n2 c2] 25) = x := ⟨_, rfl⟩
  have bb : Below w.heap.size w wb := by rw [← hwb]; exact (Below.refl _ _).alloc (Nat.le_refl _) _
  have hT := BoxP.made w #[.int .i64 (R : Int), .int .i64 (width : Int), .slice a1 n1 c1, .slice a2 n2 c2] 25
  rw [hwb] at hT
  have hO0 := BoxP.made wb #[.int .i64 0, .int .i64 0, .slice none 0 0, .slice none 0 0] 25
  obtain ⟨wo, hwo⟩ : ∃ x, wb.alloc (.cells #[.int .i64 0, .int .i64 0, .slice none 0 0, .slice none 0 0] 25) = x := ⟨_, rfl⟩
  have bo : Below wb.heap.size wb wo := by rw [← hwo]; exact (Below.refl _ _).alloc (Nat.le_refl _) _
  rw [hwo] at hO0
  have hT1 := hT.below bo
  have p0 := (hT1.all 0 _ rfl).1
  have p1 := (hT1.all 1 _ rfl).1
  have p2 := (hT1.all 2 _ rfl).1
  have p3 := (hT1.all 3 _ rfl).1
  have bw := bb.trans (bo.mono bb.size)
  have HT := hide hT1
  have HO := hide hO0
  have HB := hide bw
  have HWB := hide bb.size
  have HS := hide (And.intro h1 h2)
  have KM := hide (smay_any (R : Int) (width : Int) a1 a2 n1 c1 n2 c2 st cols wo (h1.below bw) (h2.below bw) (by omega) (by omega))
  unfold patV at KM
  have HTQ := hide (show TruQ true (MayP (R : Int) (width : Int) st cols) from ⟨fun _ => hm, fun _ => rfl⟩)
  have HM := hide hm
  have HSY := hide hsy
  clear hT hT1 hO0 bb bo bw h1 h2 hm hsy
  unfold patV
  go_enter Tryz.func49, Tryz.ntmps49
  go_wp2_with fail
  refine (unhide KM).mono ?_
  intro e w2 hq
  obtain ⟨rfl, b2⟩ := hq.known (unhide HTQ)
  have hT2 := (unhide HT).below b2
  have q0 := (hT2.all 0 _ rfl).1
  have q1 := (hT2.all 1 _ rfl).1
  have q2 := (hT2.all 2 _ rfl).1
  have q3 := (hT2.all 3 _ rfl).1
  have bw2 := (unhide HB).trans (b2.mono (unhide HB).size)
  have hO2 := (unhide HO).below b2
  have KS := hide (show Calls Tryz.prog 80 #[patV (R : Int) (width : Int) a1 n1 c1 a2 n2 c2] w2 fun e w' => e = .returned (.bool false) ∧ Below w2.heap.size w2 w' from by
    by_cases hRw : R = width
    · subst hRw
      exact ssym_any R a1 a2 n1 c1 n2 c2 st cols w2 ((unhide HS).1.below bw2) ((unhide HS).2.below bw2) hb1 hb2 (unhide HM) false ⟨fun e => absurd e (by decide), fun h => absurd ⟨rfl, h⟩ (unhide HSY)⟩
    · exact ssym_no R width a1 a2 n1 c1 n2 c2 st cols w2 ((unhide HS).1.below bw2) ((unhide HS).2.below bw2) hb1 hb2 (unhide HM) hRw)
  unfold patV at KS
  have HT2 := hide hT2
  have HO2 := hide hO2
  have HB2 := hide bw2
  clear hq KM b2 hT2 hO2 bw2 p0 p1 p2 p3
  go_wp2_with fail
  refine (unhide KS).mono ?_
  rintro _ w3 ⟨rfl, b3⟩
  have bw3 := (unhide HB2).trans (b3.mono (unhide HB2).size)
  have hO3 := (unhide HO2).below b3
  have o0 := (hO3.all 0 _ rfl).1
  have o1 := (hO3.all 1 _ rfl).1
  have o2 := (hO3.all 2 _ rfl).1
  have o3 := (hO3.all 3 _ rfl).1
  have r0 := (hO3.all 0 _ rfl).2
  have r1 := (hO3.all 1 _ rfl).2
  have r2 := (hO3.all 2 _ rfl).2
  have r3 := (hO3.all 3 _ rfl).2
  have HO3 := hide hO3
  have HB3 := hide bw3
  clear KS b3 hO3 bw3 q0 q1 q2 q3
  go_wp2_with fail
  have hf := ((((unhide HO3).put 0 (.int .i64 0)).put 1 (.int .i64 0)).put 2 (.slice none 0 0)).put 3 (.slice none 0 0)
  have t0 := (hf.all 0 _ rfl).1
  have t1 := (hf.all 1 _ rfl).1
  have t2 := (hf.all 2 _ rfl).1
  have t3 := (hf.all 3 _ rfl).1
  have cc : Chg (fun j => j = wb.heap.size) w3 ((((w3.setCell ⟨wb.heap.size, 0, none⟩ (.int .i64 0)).setCell ⟨wb.heap.size, 1, none⟩ (.int .i64 0)).setCell ⟨wb.heap.size, 2, none⟩ (.slice none 0 0)).setCell ⟨wb.heap.size, 3, none⟩ (.slice none 0 0)) := (((Chg.of_set (S := fun j => j = wb.heap.size) _ _ _ _ rfl).trans (Chg.of_set (S := fun j => j = wb.heap.size) _ _ _ _ rfl)).trans (Chg.of_set (S := fun j => j = wb.heap.size) _ _ _ _ rfl)).trans (Chg.of_set (S := fun j => j = wb.heap.size) _ _ _ _ rfl)
  generalize (((w3.setCell ⟨wb.heap.size, 0, none⟩ (.int .i64 0)).setCell ⟨wb.heap.size, 1, none⟩ (.int .i64 0)).setCell ⟨wb.heap.size, 2, none⟩ (.slice none 0 0)).setCell ⟨wb.heap.size, 3, none⟩ (.slice none 0 0) = wf at *
  refine bodyPost_ret (by simp [results, Tryz.results49, go_sem, t0, t1, t2, t3]; try rfl) rfl ?_
  exact ⟨rfl, (unhide HB3).trans (cc.below (unhide HB3).size (fun j hj e => by have := unhide HWB; omega))⟩
set_option maxRecDepth 100000 in
set_option maxHeartbeats 16000000 in
theorem citself_diag (R : Nat) (a1 a2 : Option Addr) (n1 c1 n2 c2 : Nat) (st cols : List Int) (w : World) (h1 : SlI w a1 n1 c1 st) (h2 : SlI w a2 n2 c2 cols) (hb1 : n1 ≤ 17592186044000) (hb2 : n2 ≤ 17592186044000) (hm : MayP (R : Int) (R : Int) st cols) (hsy : SyP st cols R) (hdi : DiP st cols R) :
    Calls Tryz.prog 49 #[patV (R : Int) (R : Int) a1 n1 c1 a2 n2 c2] w fun e w' => e = .returned (.tuple #[.agg #[.int .i64 0, .int .i64 0, .slice none 0 0, .slice none 0 0], .int .i64 220]) ∧ Below w.heap.size w w' := by
  obtain ⟨wb, hwb⟩ : ∃ x, w.alloc (.cells #[.int .i64 (R : Int), .int .i64 (R : Int), .slice a1 n1 c1, .slice a2 n2 c2] 25) = x := ⟨_, rfl⟩
  have bb : Below w.heap.size w wb := by rw [← hwb]; exact (Below.refl _ _).alloc (Nat.le_refl _) _
  have hT := BoxP.made w #[.int .i64 (R : Int), .int .i64 (R : Int), .slice a1 n1 c1, .slice a2 n2 c2] 25
  rw [hwb] at hT
  have hO0 := BoxP.made wb #[.int .i64 0, .int .i64 0, .slice none 0 0, .slice none 0 0] 25
  obtain ⟨wo, hwo⟩ : ∃ x, wb.alloc (.cells #[.int .i64 0, .int .i64 0, .slice none 0 0, .slice none 0 0] 25) = x := ⟨_, rfl⟩
  have bo : Below wb.heap.size wb wo := by rw [← hwo]; exact (Below.refl _ _).alloc (Nat.le_refl _) _
  rw [hwo] at hO0
  have hT1 := hT.below bo
  have p0 := (hT1.all 0 _ rfl).1
  have p1 := (hT1.all 1 _ rfl).1
  have p2 := (hT1.all 2 _ rfl).1
  have p3 := (hT1.all 3 _ rfl).1
  have bw := bb.trans (bo.mono bb.size)
  have HT := hide hT1
  have HO := hide hO0
  have HB := hide bw
  have HWB := hide bb.size
  have HS := hide (And.intro h1 h2)
  have KM := hide (smay_any (R : Int) (R : Int) a1 a2 n1 c1 n2 c2 st cols wo (h1.below bw) (h2.below bw) (by omega) (by omega))
  unfold patV at KM
  have HTQ := hide (show TruQ true (MayP (R : Int) (R : Int) st cols) from ⟨fun _ => hm, fun _ => rfl⟩)
  have HM := hide hm
  have HSY := hide (And.intro hsy hdi)
  clear hT hT1 hO0 bb bo bw h1 h2 hm hsy hdi
  unfold patV
  go_enter Tryz.func49, Tryz.ntmps49
  go_wp2_with fail
  refine (unhide KM).mono ?_
  intro e w2 hq
  obtain ⟨rfl, b2⟩ := hq.known (unhide HTQ)
  have hT2 := (unhide HT).below b2
  have q0 := (hT2.all 0 _ rfl).1
  have q1 := (hT2.all 1 _ rfl).1
  have q2 := (hT2.all 2 _ rfl).1
  have q3 := (hT2.all 3 _ rfl).1
  have bw2 := (unhide HB).trans (b2.mono (unhide HB).size)
  have hO2 := (unhide HO).below b2
  have KS := hide (ssym_any R a1 a2 n1 c1 n2 c2 st cols w2 ((unhide HS).1.below bw2) ((unhide HS).2.below bw2) hb1 hb2 (unhide HM) true ⟨fun _ => (unhide HSY).1, fun _ => rfl⟩)
  unfold patV at KS
  have HT2 := hide hT2
  have HO2 := hide hO2
  have HB2 := hide bw2
  clear hq KM b2 hT2 hO2 bw2 p0 p1 p2 p3
  go_wp2_with fail
  refine (unhide KS).mono ?_
  rintro _ w3 ⟨rfl, b3⟩
  have bw3 := (unhide HB2).trans (b3.mono (unhide HB2).size)
  have hT3 := (unhide HT2).below b3
  clear q0 q1 q2 q3
  have q0 := (hT3.all 0 _ rfl).1
  have q1 := (hT3.all 1 _ rfl).1
  have q2 := (hT3.all 2 _ rfl).1
  have q3 := (hT3.all 3 _ rfl).1
  have KD := hide (chasdiag_any R R a1 a2 n1 c1 n2 c2 st cols w3 ((unhide HS).1.below bw3) ((unhide HS).2.below bw3) (by omega) (by omega) (unhide HM) true ⟨fun _ => (unhide HSY).2, fun _ => rfl⟩)
  unfold patV at KD
  have HO3 := hide ((unhide HO2).below b3)
  have HB3 := hide bw3
  clear KS b3 hT3 bw3
  go_wp2_with fail
  refine (unhide KD).mono ?_
  rintro _ w4 ⟨rfl, b4⟩
  have hO4 := (unhide HO3).below b4
  have o0 := (hO4.all 0 _ rfl).1
  have o1 := (hO4.all 1 _ rfl).1
  have o2 := (hO4.all 2 _ rfl).1
  have o3 := (hO4.all 3 _ rfl).1
  have r0 := (hO4.all 0 _ rfl).2
  have r1 := (hO4.all 1 _ rfl).2
  have r2 := (hO4.all 2 _ rfl).2
  have r3 := (hO4.all 3 _ rfl).2
  have HO4 := hide hO4
  have HB4 := hide ((unhide HB3).trans (b4.mono (unhide HB3).size))
  clear KD b4 hO4 q0 q1 q2 q3
  go_wp2_with fail
  have hf := ((((unhide HO4).put 0 (.int .i64 0)).put 1 (.int .i64 0)).put 2 (.slice none 0 0)).put 3 (.slice none 0 0)
  have t0 := (hf.all 0 _ rfl).1
  have t1 := (hf.all 1 _ rfl).1
  have t2 := (hf.all 2 _ rfl).1
  have t3 := (hf.all 3 _ rfl).1
  have cc : Chg (fun j => j = wb.heap.size) w4 ((((w4.setCell ⟨wb.heap.size, 0, none⟩ (.int .i64 0)).setCell ⟨wb.heap.size, 1, none⟩ (.int .i64 0)).setCell ⟨wb.heap.size, 2, none⟩ (.slice none 0 0)).setCell ⟨wb.heap.size, 3, none⟩ (.slice none 0 0)) := (((Chg.of_set (S := fun j => j = wb.heap.size) _ _ _ _ rfl).trans (Chg.of_set (S := fun j => j = wb.heap.size) _ _ _ _ rfl)).trans (Chg.of_set (S := fun j => j = wb.heap.size) _ _ _ _ rfl)).trans (Chg.of_set (S := fun j => j = wb.heap.size) _ _ _ _ rfl)
  generalize (((w4.setCell ⟨wb.heap.size, 0, none⟩ (.int .i64 0)).setCell ⟨wb.heap.size, 1, none⟩ (.int .i64 0)).setCell ⟨wb.heap.size, 2, none⟩ (.slice none 0 0)).setCell ⟨wb.heap.size, 3, none⟩ (.slice none 0 0) = wf at *
  refine bodyPost_ret (by simp [results, Tryz.results49, go_sem, t0, t1, t2, t3]; try rfl) rfl ?_
  exact ⟨rfl, (unhide HB4).trans (cc.below (unhide HB4).size (fun j hj e => by have := unhide HWB; omega))⟩
set_option maxRecDepth 100000 in
set_option maxHeartbeats 16000000 in
theorem cnearf_no (rows width : Int) (a1 a2 : Option Addr) (n1 c1 n2 c2 : Nat) (st cols : List Int) (w : World) (h1 : SlI w a1 n1 c1 st) (h2 : SlI w a2 n2 c2 cols) (hb1 : n1 ≤ 17592186044000) (hb2 : n2 ≤ 17592186044000) (er : Int) (her : er ≠ 0) (hK : ∀ W, Below w.heap.size w W → Calls Tryz.prog 49 #[patV rows width a1 n1 c1 a2 n2 c2] W fun e w' => e = .returned (.tuple #[.agg #[.int .i64 0, .int .i64 0, .slice none 0 0, .slice none 0 0], .int .i64 er]) ∧ Below W.heap.size W w') :
    Calls Tryz.prog 25 #[patV rows width a1 n1 c1 a2 n2 c2] w fun e w' => GqP w w' e 0 [] [] er := by
  obtain ⟨wb, hwb⟩ : ∃ x, w.alloc (.cells #[.int .i64 rows, .int .i64 width, .slice a1 n1 c1, .slice a2 n2 c2] 25) = x := ⟨_, rfl⟩
  have bb : Below w.heap.size w wb := by rw [← hwb]; exact (Below.refl _ _).alloc (Nat.le_refl _) _
  have hT := BoxP.made w #[.int .i64 rows, .int .i64 width, .slice a1 n1 c1, .slice a2 n2 c2] 25
  rw [hwb] at hT
  have hO0 := BoxP.made wb #[.int .i64 0, .int .i64 0, .slice none 0 0, .slice none 0 0] 25
  obtain ⟨wo, hwo⟩ : ∃ x, wb.alloc (.cells #[.int .i64 0, .int .i64 0, .slice none 0 0, .slice none 0 0] 25) = x := ⟨_, rfl⟩
  have bo : Below wb.heap.size wb wo := by rw [← hwo]; exact (Below.refl _ _).alloc (Nat.le_refl _) _
  rw [hwo] at hO0
  have hT1 := hT.below bo
  have p0 := (hT1.all 0 _ rfl).1
  have p1 := (hT1.all 1 _ rfl).1
  have p2 := (hT1.all 2 _ rfl).1
  have p3 := (hT1.all 3 _ rfl).1
  have bw := bb.trans (bo.mono bb.size)
  have HT := hide hT1
  have HO := hide hO0
  have HB := hide bw
  have HWB := hide bb.size
  have HS := hide (And.intro h1 h2)
  have KI := hide (hK wo bw)
  unfold patV at KI
  have her2 : (er == 0) = false := by simp [her]
  clear hT hT1 hO0 bb bo bw h1 h2 hK
  unfold patV
  go_enter Tryz.func25, Tryz.ntmps25
  go_wp2_with fail
  refine (unhide KI).mono ?_
  rintro _ w2 ⟨rfl, b2⟩
  have hO2 := (unhide HO).below b2
  have bz : Below w2.heap.size w2 (w2.alloc (.cells #[.int .i64 0, .int .i64 0, .slice none 0 0, .slice none 0 0] 25)) := (Below.refl _ _).alloc (Nat.le_refl _) _
  have hOz := hO2.below bz
  have o0 := (hOz.all 0 _ rfl).1
  have o1 := (hOz.all 1 _ rfl).1
  have o2 := (hOz.all 2 _ rfl).1
  have o3 := (hOz.all 3 _ rfl).1
  have r0 := (hOz.all 0 _ rfl).2
  have r1 := (hOz.all 1 _ rfl).2
  have r2 := (hOz.all 2 _ rfl).2
  have r3 := (hOz.all 3 _ rfl).2
  have HOz := hide hOz
  have bw2 := (unhide HB).trans (b2.mono (unhide HB).size)
  have HB2 := hide (bw2.trans (bz.mono bw2.size))
  clear b2 hO2 hOz bz bw2 KI p0 p1 p2 p3
  go_wp2_with fail
  have hf := ((((unhide HOz).put 0 (.int .i64 0)).put 1 (.int .i64 0)).put 2 (.slice none 0 0)).put 3 (.slice none 0 0)
  have t0 := (hf.all 0 _ rfl).1
  have t1 := (hf.all 1 _ rfl).1
  have t2 := (hf.all 2 _ rfl).1
  have t3 := (hf.all 3 _ rfl).1
  have cc : Chg (fun j => j = wb.heap.size) (w2.alloc (.cells #[.int .i64 0, .int .i64 0, .slice none 0 0, .slice none 0 0] 25)) (((((w2.alloc (.cells #[.int .i64 0, .int .i64 0, .slice none 0 0, .slice none 0 0] 25)).setCell ⟨wb.heap.size, 0, none⟩ (.int .i64 0)).setCell ⟨wb.heap.size, 1, none⟩ (.int .i64 0)).setCell ⟨wb.heap.size, 2, none⟩ (.slice none 0 0)).setCell ⟨wb.heap.size, 3, none⟩ (.slice none 0 0)) := (((Chg.of_set (S := fun j => j = wb.heap.size) _ _ _ _ rfl).trans (Chg.of_set (S := fun j => j = wb.heap.size) _ _ _ _ rfl)).trans (Chg.of_set (S := fun j => j = wb.heap.size) _ _ _ _ rfl)).trans (Chg.of_set (S := fun j => j = wb.heap.size) _ _ _ _ rfl)
  generalize ((((w2.alloc (.cells #[.int .i64 0, .int .i64 0, .slice none 0 0, .slice none 0 0] 25)).setCell ⟨wb.heap.size, 0, none⟩ (.int .i64 0)).setCell ⟨wb.heap.size, 1, none⟩ (.int .i64 0)).setCell ⟨wb.heap.size, 2, none⟩ (.slice none 0 0)).setCell ⟨wb.heap.size, 3, none⟩ (.slice none 0 0) = wf at *
  refine bodyPost_ret (by simp [results, Tryz.results25, go_sem, t0, t1, t2, t3]; try rfl) rfl ?_
  have h9 := unhide HWB
  refine ⟨none, 0, none, 0, rfl, SlI.nil _, SlI.nil _, (unhide HB2).trans (cc.below (unhide HB2).size (fun j hj e => by omega)), fun z hz => ?_, fun z hz => ?_⟩ <;> cases hz
set_option maxRecDepth 100000 in
set_option maxHeartbeats 16000000 in
theorem cnearf_yes (R : Nat) (a1 a2 : Option Addr) (n1 c1 n2 c2 : Nat) (st cols : List Int) (w : World) (h1 : SlI w a1 n1 c1 st) (h2 : SlI w a2 n2 c2 cols) (hb1 : n1 ≤ 17592186044000) (hb2 : n2 ≤ 17592186044000) (hm : MayP (R : Int) (R : Int) st cols) (hg : GraP st cols R R) (P : Nat → Nat → Prop) (hP : ∀ u v, u < R → v < R → ((NrP st cols R (u * 128 + v) ∧ u ≠ v) ↔ P u v)) :
    Calls Tryz.prog 25 #[patV (R : Int) (R : Int) a1 n1 c1 a2 n2 c2] w fun e w' => GqP w w' e R (grS P R R) (grC P R R) 0 := by
  obtain ⟨wb, hwb⟩ : ∃ x, w.alloc (.cells #[.int .i64 (R : Int), .int .i64 (R : Int), .slice a1 n1 c1, .slice a2 n2 c2] 25) = x := ⟨_, rfl⟩
  have bb : Below w.heap.size w wb := by rw [← hwb]; exact (Below.refl _ _).alloc (Nat.le_refl _) _
  have hT := BoxP.made w #[.int .i64 (R : Int), .int .i64 (R : Int), .slice a1 n1 c1, .slice a2 n2 c2] 25
  rw [hwb] at hT
  have hO0 := BoxP.made wb #[.int .i64 0, .int .i64 0, .slice none 0 0, .slice none 0 0] 25
  obtain ⟨wo, hwo⟩ : ∃ x, wb.alloc (.cells #[.int .i64 0, .int .i64 0, .slice none 0 0, .slice none 0 0] 25) = x := ⟨_, rfl⟩
  have bo : Below wb.heap.size wb wo := by rw [← hwo]; exact (Below.refl _ _).alloc (Nat.le_refl _) _
  rw [hwo] at hO0
  have hT1 := hT.below bo
  have p0 := (hT1.all 0 _ rfl).1
  have p1 := (hT1.all 1 _ rfl).1
  have p2 := (hT1.all 2 _ rfl).1
  have p3 := (hT1.all 3 _ rfl).1
  have bw := bb.trans (bo.mono bb.size)
  have HT := hide hT1
  have HO := hide hO0
  have HB := hide bw
  have HWB := hide bb.size
  have HS := hide (And.intro h1 h2)
  have KI := hide (citself_yes R R a1 a2 n1 c1 n2 c2 st cols wo (h1.below bw) (h2.below bw) hb1 hb2 hm hg)
  unfold patV at KI
  have HM := hide hm
  have HP := hide hP
  obtain ⟨S, hS⟩ : ∃ S, grS P R R = S := ⟨_, rfl⟩
  obtain ⟨C, hC⟩ : ∃ C, grC P R R = C := ⟨_, rfl⟩
  have HSC := hide (And.intro hS hC)
  rw [hS, hC]
  clear hT hT1 hO0 bb bo bw h1 h2 hm hg hP hS hC
  unfold patV
  go_enter Tryz.func25, Tryz.ntmps25
  go_wp2_with fail
  refine (unhide KI).mono ?_
  rintro _ w2 ⟨rfl, b2⟩
  obtain ⟨wz, hwz⟩ : ∃ x, w2.alloc (.cells #[.int .i64 (R : Int), .int .i64 (R : Int), .slice a1 n1 c1, .slice a2 n2 c2] 25) = x := ⟨_, rfl⟩
  have bz : Below w2.heap.size w2 wz := by rw [← hwz]; exact (Below.refl _ _).alloc (Nat.le_refl _) _
  have bo2 := b2.trans (bz.mono b2.size)
  have hTz := (unhide HT).below bo2
  have q0 := (hTz.all 0 _ rfl).1
  have q1 := (hTz.all 1 _ rfl).1
  have q2 := (hTz.all 2 _ rfl).1
  have q3 := (hTz.all 3 _ rfl).1
  have HOz := hide ((unhide HO).below bo2)
  have bw2 := (unhide HB).trans (bo2.mono (unhide HB).size)
  have KN := hide (cnear_any R R a1 a2 n1 c1 n2 c2 st cols P wz ((unhide HS).1.below bw2) ((unhide HS).2.below bw2) (by omega) (by omega) (unhide HM) (unhide HP))
  unfold patV at KN
  have HB2 := hide bw2
  clear b2 bo2 hTz bz bw2 KI p0 p1 p2 p3
  go_wp2_with fail
  refine (unhide KN).mono ?_
  rintro _ wk ⟨x1, d1, x2, d2, rfl, g1, g2, bk, f1, f2⟩
  rw [(unhide HSC).1] at g1
  rw [(unhide HSC).2] at g2
  rw [(unhide HSC).1, (unhide HSC).2]
  have hOk := (unhide HOz).below bk
  have o0 := (hOk.all 0 _ rfl).1
  have o1 := (hOk.all 1 _ rfl).1
  have o2 := (hOk.all 2 _ rfl).1
  have o3 := (hOk.all 3 _ rfl).1
  have r0 := (hOk.all 0 _ rfl).2
  have r1 := (hOk.all 1 _ rfl).2
  have r2 := (hOk.all 2 _ rfl).2
  have r3 := (hOk.all 3 _ rfl).2
  have HOk := hide hOk
  have HG := hide (And.intro g1 g2)
  have HFr := hide (And.intro f1 f2)
  have HBK := hide bk
  clear hOk g1 g2 f1 f2 bk KN q0 q1 q2 q3
  go_wp2_with fail
  have hf := ((((unhide HOk).put 0 (.int .i64 (R : Int))).put 1 (.int .i64 (R : Int))).put 2 (.slice x1 S.length d1)).put 3 (.slice x2 C.length d2)
  have t0 := (hf.all 0 _ rfl).1
  have t1 := (hf.all 1 _ rfl).1
  have t2 := (hf.all 2 _ rfl).1
  have t3 := (hf.all 3 _ rfl).1
  have cc : Chg (fun j => j = wb.heap.size) wk ((((wk.setCell ⟨wb.heap.size, 0, none⟩ (.int .i64 (R : Int))).setCell ⟨wb.heap.size, 1, none⟩ (.int .i64 (R : Int))).setCell ⟨wb.heap.size, 2, none⟩ (.slice x1 S.length d1)).setCell ⟨wb.heap.size, 3, none⟩ (.slice x2 C.length d2)) := (((Chg.of_set (S := fun j => j = wb.heap.size) _ _ _ _ rfl).trans (Chg.of_set (S := fun j => j = wb.heap.size) _ _ _ _ rfl)).trans (Chg.of_set (S := fun j => j = wb.heap.size) _ _ _ _ rfl)).trans (Chg.of_set (S := fun j => j = wb.heap.size) _ _ _ _ rfl)
  generalize (((wk.setCell ⟨wb.heap.size, 0, none⟩ (.int .i64 (R : Int))).setCell ⟨wb.heap.size, 1, none⟩ (.int .i64 (R : Int))).setCell ⟨wb.heap.size, 2, none⟩ (.slice x1 S.length d1)).setCell ⟨wb.heap.size, 3, none⟩ (.slice x2 C.length d2) = wf at *
  refine bodyPost_ret (by simp [results, Tryz.results25, go_sem, t0, t1, t2, t3]; try rfl) rfl ?_
  have h9 := unhide HWB
  have h8 := (unhide HOz).lt
  have h6 := (unhide HB2).size
  refine ⟨x1, d1, x2, d2, rfl, (unhide HG).1.chg cc (fun z hz _ e => ?_), (unhide HG).2.chg cc (fun z hz _ e => ?_), ?_, fun z hz => ?_, fun z hz => ?_⟩
  · have := (unhide HFr).1 z hz; omega
  · have := (unhide HFr).2 z hz; omega
  · exact ((unhide HB2).trans ((unhide HBK).mono h6)).trans (cc.below (Nat.le_trans h6 (unhide HBK).size) (fun j hj e => by omega))
  · have := (unhide HFr).1 z hz; omega
  · have := (unhide HFr).2 z hz; omega
def LnQ (M : Nat → Nat → Nat → Prop) (n m u v k x : Nat) : Prop := ∃ a b j : Nat, a < n ∧ b < n ∧ j < m ∧ x = a * n + b ∧ a ≠ b ∧ M j a b ∧ (a < u ∨ a = u ∧ (b < v ∨ b = v ∧ j < k))
theorem idx_one {n a b u v : Nat} (hb : b < n) (hv : v < n) (h : a * n + b = u * n + v) : a = u ∧ b = v := by
  have h1 : (a * n + b) / n = a := by rw [Nat.mul_comm, Nat.mul_add_div (by omega), Nat.div_eq_of_lt hb]; rfl
  have h2 : (u * n + v) / n = u := by rw [Nat.mul_comm, Nat.mul_add_div (by omega), Nat.div_eq_of_lt hv]; rfl
  have h3 : a = u := by rw [← h1, ← h2, h]
  subst h3
  exact ⟨rfl, by omega⟩
theorem LnQ.yes {M : Nat → Nat → Nat → Prop} {n m u v k : Nat} (hu : u < n) (hv : v < n) (hk : k < m) (hne : u ≠ v) (hM : M k u v) (x : Nat) : LnQ M n m u v (k + 1) x ↔ (LnQ M n m u v k x ∨ x = u * n + v) := by
  constructor
  · rintro ⟨a, b, j, h1, h2, h3, h4, h5, h6, h7⟩
    rcases h7 with h7 | ⟨h7, h8 | ⟨h8, h9⟩⟩
    · exact .inl ⟨a, b, j, h1, h2, h3, h4, h5, h6, .inl h7⟩
    · exact .inl ⟨a, b, j, h1, h2, h3, h4, h5, h6, .inr ⟨h7, .inl h8⟩⟩
    · subst h7 h8
      exact .inr h4
  · rintro (⟨a, b, j, h1, h2, h3, h4, h5, h6, h7⟩ | h)
    · exact ⟨a, b, j, h1, h2, h3, h4, h5, h6, h7.imp_right (fun h => ⟨h.1, h.2.imp_right (fun h => ⟨h.1, by omega⟩)⟩)⟩
    · exact ⟨u, v, k, hu, hv, hk, h, hne, hM, .inr ⟨rfl, .inr ⟨rfl, by omega⟩⟩⟩
theorem LnQ.no {M : Nat → Nat → Nat → Prop} {n m u v k : Nat} (hM : ¬ M k u v) (x : Nat) : LnQ M n m u v (k + 1) x ↔ LnQ M n m u v k x := by
  constructor
  · rintro ⟨a, b, j, h1, h2, h3, h4, h5, h6, h7⟩
    refine ⟨a, b, j, h1, h2, h3, h4, h5, h6, h7.imp_right (fun h => ⟨h.1, h.2.imp_right (fun h8 => ⟨h8.1, ?_⟩)⟩)⟩
    by_cases e : j = k
    · obtain ⟨e1, _⟩ := h
      obtain ⟨e2, _⟩ := h8
      subst e e1 e2
      exact absurd h6 hM
    · omega
  · rintro ⟨a, b, j, h1, h2, h3, h4, h5, h6, h7⟩
    exact ⟨a, b, j, h1, h2, h3, h4, h5, h6, h7.imp_right (fun h => ⟨h.1, h.2.imp_right (fun h => ⟨h.1, by omega⟩)⟩)⟩
theorem LnQ.nextU {M : Nat → Nat → Nat → Prop} {n m u : Nat} (x : Nat) : LnQ M n m (u + 1) 0 0 x ↔ LnQ M n m u n 0 x := by
  constructor
  · rintro ⟨a, b, j, h1, h2, h3, h4, h5, h6, h7⟩
    exact ⟨a, b, j, h1, h2, h3, h4, h5, h6, by omega⟩
  · rintro ⟨a, b, j, h1, h2, h3, h4, h5, h6, h7⟩
    exact ⟨a, b, j, h1, h2, h3, h4, h5, h6, by omega⟩
theorem LnQ.first {M : Nat → Nat → Nat → Prop} {n m : Nat} (x : Nat) : ¬ LnQ M n m 0 0 0 x := by
  rintro ⟨a, b, j, h1, h2, h3, h4, h5, h6, h7⟩
  omega
theorem LnQ.last {M : Nat → Nat → Nat → Prop} {n m u v : Nat} (hu : u < n) (hv : v < n) : LnQ M n m n 0 0 (u * n + v) ↔ (u ≠ v ∧ ∃ j, j < m ∧ M j u v) := by
  constructor
  · rintro ⟨a, b, j, h1, h2, h3, h4, h5, h6, h7⟩
    obtain ⟨rfl, rfl⟩ := idx_one hv h2 h4
    exact ⟨h5, j, h3, h6⟩
  · rintro ⟨h1, j, h2, h3⟩
    exact ⟨u, v, j, hu, hv, h2, rfl, h1, h3, .inl hu⟩
theorem OpI.below {w2 W W' : World} {b m : Nat} {P : Nat → Prop} (h : OpI w2 W b m P) (k : Below W.heap.size W W') : OpI w2 W' b m P := ⟨h.row.below k, h.chg.trans (Chg.of_below k)⟩
theorem OpI.congr {w2 W : World} {b m : Nat} {P Q : Nat → Prop} (h : OpI w2 W b m P) (e : ∀ x, P x ↔ Q x) : OpI w2 W b m Q := ⟨h.row.congr (fun x _ => by rw [tb_congr (e x)]), h.chg⟩
theorem vis_in {R width : Nat} {st cols : List Int} (hm : MayP (R : Int) (width : Int) st cols) {r c : Nat} (hr : r < R) (hc : c < width) : TruQ (tb (Vis R width st cols cols.length (r * width + c))) (InC st cols c r) :=
  tb_iff.trans ((Vis.has hm hr hc).trans (InC.of hm hr))
theorem idx_lt {r c R width : Nat} (hr : r < R) (hc : c < width) : r * width + c < R * width := by
  have h1 : (r + 1) * width ≤ R * width := Nat.mul_le_mul_right _ hr
  rw [Nat.add_mul] at h1
  omega

structure Ext (w0 : World) where
  w : World
  bel : Below w0.heap.size w0 w
theorem Ext.ne (w : World) : Nonempty (Ext w) := ⟨⟨w, Below.refl _ _⟩⟩
section
variable {P : Program}
theorem wp_region_ext {id : Nat} {Q : Exit → Act → World → Prop} {a : Act} {w : World} {l : List Oper} (hm : P.follows .mixedOrders = true) (hB : Region.lexB .any l.toArray = true)
    (h : wpQuiet P l.toArray (fun w' => ∃ x : Ext w, w' = x.w) (fun a' => ∀ w', (∃ x : Ext w, w' = x.w) → Q .normal a' w') l a) : (Code.region id l.toArray true).wp P Q a w :=
  wp_region_quiet (C := fun w' => ∃ x : Ext w, w' = x.w) hm hB ⟨⟨w.drew, (Below.refl _ _).drew⟩, rfl⟩ (by simpa using h)
end
theorem Ext.call {P : Program} {f : FuncId} {args : Array Value} {w : World} {x : Ext w} {v : Value} {R : Ending → World → Prop} (h : Calls P f args x.w R) (hR : ∀ e w', R e w' → e = .returned v ∧ Below x.w.heap.size x.w w') :
    Calls P f args x.w fun e w'' => e = .returned v ∧ ∃ y : Ext w, w'' = y.w :=
  h.mono fun e w' hr => ⟨(hR e w' hr).1, ⟨⟨w', x.bel.trans ((hR e w' hr).2.mono x.bel.size)⟩, rfl⟩⟩
theorem Ext.cell {w : World} (x : Ext w) {p : Addr} {v : Value} (h : w.cell? p = some v) : x.w.cell? p = some v := (x.bel.cell (p := p) (World.block_lt_of_cell? _ _ h)).trans h
end Go.Proofs.YtgjokididdffhaaGreat
