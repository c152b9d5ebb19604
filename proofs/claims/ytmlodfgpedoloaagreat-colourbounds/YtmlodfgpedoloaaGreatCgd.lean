/-
  GRAPHS: colour.itself refused, colour.Near: contracts.
-/
import Derived.Test.YtmlodfgpedoloaaGreatCgc
namespace Go.Proofs.YtmlodfgpedoloaaGreat
open Go.RowKit Go.Deep
set_option linter.unusedVariables false

set_option maxRecDepth 100000 in
set_option maxHeartbeats 16000000 in
/-- colour.itself, of a pattern that may not be. -/
theorem citself_no (rows width : Int) (a1 a2 : Option Addr) (n1 c1 n2 c2 : Nat) (st cols : List Int) (w : World) (h1 : SlI w a1 n1 c1 st) (h2 : SlI w a2 n2 c2 cols) (hb1 : n1 ≤ 17592186044000) (hb2 : n2 ≤ 17592186044000) (hm : ¬ MayP rows width st cols) :
    Calls Tryz.prog 52 #[patV rows width a1 n1 c1 a2 n2 c2] w fun e w' => e = .returned (.tuple #[.agg #[.int .i64 0, .int .i64 0, .slice none 0 0, .slice none 0 0], .int .i64 180]) ∧ Below w.heap.size w w' := by
  obtain ⟨wb, hwb⟩ : ∃ x, w.alloc (.cells #[.int .i64 rows, .int .i64 width, .slice a1 n1 c1, .slice a2 n2 c2] 25) = x := ⟨_, rfl⟩
  have bb : Below w.heap.size w wb := by rw [← hwb]; exact (Below.refl _ _).alloc (Nat.le_refl _) _
  have hT := BoxP.made w #[.int .i64 rows, .int .i64 width, .slice a1 n1 c1, .slice a2 n2 c2] 25
  rw [hwb] at hT
  have hO0 := BoxP.made wb #[.int .i64 0, .int .i64 0, .slice none 0 0, .slice none 0 0] 25
  obtain ⟨wo, hwo⟩ : ∃ x, wb.alloc (.cells #[.int .i64 0, .int .i64 0, .slice none 0 0, .slice none 0 0] 25) = x := ⟨_, rfl⟩
  have bo : Below wb.heap.size wb wo := by rw [← hwo]; exact (Below.refl _ _).alloc (Nat.le_refl _) _
  rw [hwo] at hO0
  have hT1 := hT.below bo
  have p0 := (hT1.all 0 _ rfl).1
  have p1 := (hT1.all 1 _ rfl).1
  have p2 := (hT1.all 2 _ rfl).1
  have p3 := (hT1.all 3 _ rfl).1
  have bw := bb.trans (bo.mono bb.size)
  have HT := hide hT1
  have HO := hide hO0
  have HB := hide bw
  have HWB := hide bb.size
  have HS := hide (And.intro h1 h2)
  have KM := hide (smay_any rows width a1 a2 n1 c1 n2 c2 st cols wo (h1.below bw) (h2.below bw) (by omega) (by omega))
  unfold patV at KM
  have HTQ := hide (show TruQ false (MayP rows width st cols) from ⟨fun e => absurd e (by decide), fun h => absurd h hm⟩)
  clear hT hT1 hO0 bb bo bw h1 h2 hm
  unfold patV
  go_enter Tryz.func52, Tryz.ntmps52
  go_wp2_with fail
  refine (unhide KM).mono ?_
  intro e w2 hq
  obtain ⟨rfl, b2⟩ := hq.known (unhide HTQ)
  have hT2 := (unhide HT).below b2
  have q0 := (hT2.all 0 _ rfl).1
  have q1 := (hT2.all 1 _ rfl).1
  have q2 := (hT2.all 2 _ rfl).1
  have q3 := (hT2.all 3 _ rfl).1
  have bw2 := (unhide HB).trans (b2.mono (unhide HB).size)
  have hO2 := (unhide HO).below b2
  have o0 := (hO2.all 0 _ rfl).1
  have o1 := (hO2.all 1 _ rfl).1
  have o2 := (hO2.all 2 _ rfl).1
  have o3 := (hO2.all 3 _ rfl).1
  have r0 := (hO2.all 0 _ rfl).2
  have r1 := (hO2.all 1 _ rfl).2
  have r2 := (hO2.all 2 _ rfl).2
  have r3 := (hO2.all 3 _ rfl).2
  have HO2 := hide hO2
  have HB2 := hide bw2
  clear hq KM b2 hT2 hO2 bw2 p0 p1 p2 p3
  go_wp2_with fail
  have hf := ((((unhide HO2).put 0 (.int .i64 0)).put 1 (.int .i64 0)).put 2 (.slice none 0 0)).put 3 (.slice none 0 0)
  have t0 := (hf.all 0 _ rfl).1
  have t1 := (hf.all 1 _ rfl).1
  have t2 := (hf.all 2 _ rfl).1
  have t3 := (hf.all 3 _ rfl).1
  have cc : Chg (fun j => j = wb.heap.size) w2 ((((w2.setCell ⟨wb.heap.size, 0, none⟩ (.int .i64 0)).setCell ⟨wb.heap.size, 1, none⟩ (.int .i64 0)).setCell ⟨wb.heap.size, 2, none⟩ (.slice none 0 0)).setCell ⟨wb.heap.size, 3, none⟩ (.slice none 0 0)) := (((Chg.of_set (S := fun j => j = wb.heap.size) _ _ _ _ rfl).trans (Chg.of_set (S := fun j => j = wb.heap.size) _ _ _ _ rfl)).trans (Chg.of_set (S := fun j => j = wb.heap.size) _ _ _ _ rfl)).trans (Chg.of_set (S := fun j => j = wb.heap.size) _ _ _ _ rfl)
  generalize (((w2.setCell ⟨wb.heap.size, 0, none⟩ (.int .i64 0)).setCell ⟨wb.heap.size, 1, none⟩ (.int .i64 0)).setCell ⟨wb.heap.size, 2, none⟩ (.slice none 0 0)).setCell ⟨wb.heap.size, 3, none⟩ (.slice none 0 0) = wf at *
  refine bodyPost_ret (by simp [results, Tryz.results52, go_sem, t0, t1, t2, t3]; try rfl) rfl ?_
  exact ⟨rfl, (unhide HB2).trans (cc.below (unhide HB2).size (fun j hj e => by have := unhide HWB; omega))⟩
set_option maxRecDepth 100000 in
set_option maxHeartbeats 16000000 in
/-- colour.itself, of a pattern that is no graph. -/
theorem citself_asym (R width : Nat) (a1 a2 : Option Addr) (n1 c1 n2 c2 : Nat) (st cols : List Int) (w : World) (h1 : SlI w a1 n1 c1 st) (h2 : SlI w a2 n2 c2 cols) (hb1 : n1 ≤ 17592186044000) (hb2 : n2 ≤ 17592186044000) (hm : MayP (R : Int) (width : Int) st cols) (hsy : ¬ (R = width ∧ SyP st cols R)) :
    Calls Tryz.prog 52 #[patV (R : Int) (width : Int) a1 n1 c1 a2 n2 c2] w fun e w' => e = .returned (.tuple #[.agg #[.int .i64 0, .int .i64 0, .slice none 0 0, .slice none 0 0], .int .i64 220]) ∧ Below w.heap.size w w' := by
  obtain ⟨wb, hwb⟩ : ∃ x, w.alloc (.cells #[.int .i64 (R : Int), .int .i64 (width : Int), .slice a1 n1 c1, .slice a2 n2 c2] 25) = x := ⟨_, rfl⟩
  have bb : Below w.heap.size w wb := by rw [← hwb]; exact (Below.refl _ _).alloc (Nat.le_refl _) _
  have hT := BoxP.made w #[.int .i64 (R : Int), .int .i64 (width : Int), .slice a1 n1 c1, .slice a2 n2 c2] 25
  rw [hwb] at hT
  have hO0 := BoxP.made wb #[.int .i64 0, .int .i64 0, .slice none 0 0, .slice none 0 0] 25
  obtain ⟨wo, hwo⟩ : ∃ x, wb.alloc (.cells #[.int .i64 0, .int .i64 0, .slice none 0 0, .slice none 0 0] 25) = x := ⟨_, rfl⟩
  have bo : Below wb.heap.size wb wo := by rw [← hwo]; exact (Below.refl _ _).alloc (Nat.le_refl _) _
  rw [hwo] at hO0
  have hT1 := hT.below bo
  have p0 := (hT1.all 0 _ rfl).1
  have p1 := (hT1.all 1 _ rfl).1
  have p2 := (hT1.all 2 _ rfl).1
  have p3 := (hT1.all 3 _ rfl).1
  have bw := bb.trans (bo.mono bb.size)
  have HT := hide hT1
  have HO := hide hO0
  have HB := hide bw
  have HWB := hide bb.size
  have HS := hide (And.intro h1 h2)
  have KM := hide (smay_any (R : Int) (width : Int) a1 a2 n1 c1 n2 c2 st cols wo (h1.below bw) (h2.below bw) (by omega) (by omega))
  unfold patV at KM
  have HTQ := hide (show TruQ true (MayP (R : Int) (width : Int) st cols) from ⟨fun _ => hm, fun _ => rfl⟩)
  have HM := hide hm
  have HSY := hide hsy
  clear hT hT1 hO0 bb bo bw h1 h2 hm hsy
  unfold patV
  go_enter Tryz.func52, Tryz.ntmps52
  go_wp2_with fail
  refine (unhide KM).mono ?_
  intro e w2 hq
  obtain ⟨rfl, b2⟩ := hq.known (unhide HTQ)
  have hT2 := (unhide HT).below b2
  have q0 := (hT2.all 0 _ rfl).1
  have q1 := (hT2.all 1 _ rfl).1
  have q2 := (hT2.all 2 _ rfl).1
  have q3 := (hT2.all 3 _ rfl).1
  have bw2 := (unhide HB).trans (b2.mono (unhide HB).size)
  have hO2 := (unhide HO).below b2
  have KS := hide (show Calls Tryz.prog 81 #[patV (R : Int) (width : Int) a1 n1 c1 a2 n2 c2] w2 fun e w' => e = .returned (.bool false) ∧ Below w2.heap.size w2 w' from by
    by_cases hRw : R = width
    · subst hRw
      exact ssym_any R a1 a2 n1 c1 n2 c2 st cols w2 ((unhide HS).1.below bw2) ((unhide HS).2.below bw2) hb1 hb2 (unhide HM) false ⟨fun e => absurd e (by decide), fun h => absurd ⟨rfl, h⟩ (unhide HSY)⟩
    · exact ssym_no R width a1 a2 n1 c1 n2 c2 st cols w2 ((unhide HS).1.below bw2) ((unhide HS).2.below bw2) hb1 hb2 (unhide HM) hRw)
  unfold patV at KS
  have HT2 := hide hT2
  have HO2 := hide hO2
  have HB2 := hide bw2
  clear hq KM b2 hT2 hO2 bw2 p0 p1 p2 p3
  go_wp2_with fail
  refine (unhide KS).mono ?_
  rintro _ w3 ⟨rfl, b3⟩
  have bw3 := (unhide HB2).trans (b3.mono (unhide HB2).size)
  have hO3 := (unhide HO2).below b3
  have o0 := (hO3.all 0 _ rfl).1
  have o1 := (hO3.all 1 _ rfl).1
  have o2 := (hO3.all 2 _ rfl).1
  have o3 := (hO3.all 3 _ rfl).1
  have r0 := (hO3.all 0 _ rfl).2
  have r1 := (hO3.all 1 _ rfl).2
  have r2 := (hO3.all 2 _ rfl).2
  have r3 := (hO3.all 3 _ rfl).2
  have HO3 := hide hO3
  have HB3 := hide bw3
  clear KS b3 hO3 bw3 q0 q1 q2 q3
  go_wp2_with fail
  have hf := ((((unhide HO3).put 0 (.int .i64 0)).put 1 (.int .i64 0)).put 2 (.slice none 0 0)).put 3 (.slice none 0 0)
  have t0 := (hf.all 0 _ rfl).1
  have t1 := (hf.all 1 _ rfl).1
  have t2 := (hf.all 2 _ rfl).1
  have t3 := (hf.all 3 _ rfl).1
  have cc : Chg (fun j => j = wb.heap.size) w3 ((((w3.setCell ⟨wb.heap.size, 0, none⟩ (.int .i64 0)).setCell ⟨wb.heap.size, 1, none⟩ (.int .i64 0)).setCell ⟨wb.heap.size, 2, none⟩ (.slice none 0 0)).setCell ⟨wb.heap.size, 3, none⟩ (.slice none 0 0)) := (((Chg.of_set (S := fun j => j = wb.heap.size) _ _ _ _ rfl).trans (Chg.of_set (S := fun j => j = wb.heap.size) _ _ _ _ rfl)).trans (Chg.of_set (S := fun j => j = wb.heap.size) _ _ _ _ rfl)).trans (Chg.of_set (S := fun j => j = wb.heap.size) _ _ _ _ rfl)
  generalize (((w3.setCell ⟨wb.heap.size, 0, none⟩ (.int .i64 0)).setCell ⟨wb.heap.size, 1, none⟩ (.int .i64 0)).setCell ⟨wb.heap.size, 2, none⟩ (.slice none 0 0)).setCell ⟨wb.heap.size, 3, none⟩ (.slice none 0 0) = wf at *
  refine bodyPost_ret (by simp [results, Tryz.results52, go_sem, t0, t1, t2, t3]; try rfl) rfl ?_
  exact ⟨rfl, (unhide HB3).trans (cc.below (unhide HB3).size (fun j hj e => by have := unhide HWB; omega))⟩
set_option maxRecDepth 100000 in
set_option maxHeartbeats 16000000 in
/-- colour.itself, of a pattern that is no graph. -/
theorem citself_diag (R : Nat) (a1 a2 : Option Addr) (n1 c1 n2 c2 : Nat) (st cols : List Int) (w : World) (h1 : SlI w a1 n1 c1 st) (h2 : SlI w a2 n2 c2 cols) (hb1 : n1 ≤ 17592186044000) (hb2 : n2 ≤ 17592186044000) (hm : MayP (R : Int) (R : Int) st cols) (hsy : SyP st cols R) (hdi : DiP st cols R) :
    Calls Tryz.prog 52 #[patV (R : Int) (R : Int) a1 n1 c1 a2 n2 c2] w fun e w' => e = .returned (.tuple #[.agg #[.int .i64 0, .int .i64 0, .slice none 0 0, .slice none 0 0], .int .i64 220]) ∧ Below w.heap.size w w' := by
  obtain ⟨wb, hwb⟩ : ∃ x, w.alloc (.cells #[.int .i64 (R : Int), .int .i64 (R : Int), .slice a1 n1 c1, .slice a2 n2 c2] 25) = x := ⟨_, rfl⟩
  have bb : Below w.heap.size w wb := by rw [← hwb]; exact (Below.refl _ _).alloc (Nat.le_refl _) _
  have hT := BoxP.made w #[.int .i64 (R : Int), .int .i64 (R : Int), .slice a1 n1 c1, .slice a2 n2 c2] 25
  rw [hwb] at hT
  have hO0 := BoxP.made wb #[.int .i64 0, .int .i64 0, .slice none 0 0, .slice none 0 0] 25
  obtain ⟨wo, hwo⟩ : ∃ x, wb.alloc (.cells #[.int .i64 0, .int .i64 0, .slice none 0 0, .slice none 0 0] 25) = x := ⟨_, rfl⟩
  have bo : Below wb.heap.size wb wo := by rw [← hwo]; exact (Below.refl _ _).alloc (Nat.le_refl _) _
  rw [hwo] at hO0
  have hT1 := hT.below bo
  have p0 := (hT1.all 0 _ rfl).1
  have p1 := (hT1.all 1 _ rfl).1
  have p2 := (hT1.all 2 _ rfl).1
  have p3 := (hT1.all 3 _ rfl).1
  have bw := bb.trans (bo.mono bb.size)
  have HT := hide hT1
  have HO := hide hO0
  have HB := hide bw
  have HWB := hide bb.size
  have HS := hide (And.intro h1 h2)
  have KM := hide (smay_any (R : Int) (R : Int) a1 a2 n1 c1 n2 c2 st cols wo (h1.below bw) (h2.below bw) (by omega) (by omega))
  unfold patV at KM
  have HTQ := hide (show TruQ true (MayP (R : Int) (R : Int) st cols) from ⟨fun _ => hm, fun _ => rfl⟩)
  have HM := hide hm
  have HSY := hide (And.intro hsy hdi)
  clear hT hT1 hO0 bb bo bw h1 h2 hm hsy hdi
  unfold patV
  go_enter Tryz.func52, Tryz.ntmps52
  go_wp2_with fail
  refine (unhide KM).mono ?_
  intro e w2 hq
  obtain ⟨rfl, b2⟩ := hq.known (unhide HTQ)
  have hT2 := (unhide HT).below b2
  have q0 := (hT2.all 0 _ rfl).1
  have q1 := (hT2.all 1 _ rfl).1
  have q2 := (hT2.all 2 _ rfl).1
  have q3 := (hT2.all 3 _ rfl).1
  have bw2 := (unhide HB).trans (b2.mono (unhide HB).size)
  have hO2 := (unhide HO).below b2
  have KS := hide (ssym_any R a1 a2 n1 c1 n2 c2 st cols w2 ((unhide HS).1.below bw2) ((unhide HS).2.below bw2) hb1 hb2 (unhide HM) true ⟨fun _ => (unhide HSY).1, fun _ => rfl⟩)
  unfold patV at KS
  have HT2 := hide hT2
  have HO2 := hide hO2
  have HB2 := hide bw2
  clear hq KM b2 hT2 hO2 bw2 p0 p1 p2 p3
  go_wp2_with fail
  refine (unhide KS).mono ?_
  rintro _ w3 ⟨rfl, b3⟩
  have bw3 := (unhide HB2).trans (b3.mono (unhide HB2).size)
  have hT3 := (unhide HT2).below b3
  clear q0 q1 q2 q3
  have q0 := (hT3.all 0 _ rfl).1
  have q1 := (hT3.all 1 _ rfl).1
  have q2 := (hT3.all 2 _ rfl).1
  have q3 := (hT3.all 3 _ rfl).1
  have KD := hide (chasdiag_any R R a1 a2 n1 c1 n2 c2 st cols w3 ((unhide HS).1.below bw3) ((unhide HS).2.below bw3) (by omega) (by omega) (unhide HM) true ⟨fun _ => (unhide HSY).2, fun _ => rfl⟩)
  unfold patV at KD
  have HO3 := hide ((unhide HO2).below b3)
  have HB3 := hide bw3
  clear KS b3 hT3 bw3
  go_wp2_with fail
  refine (unhide KD).mono ?_
  rintro _ w4 ⟨rfl, b4⟩
  have hO4 := (unhide HO3).below b4
  have o0 := (hO4.all 0 _ rfl).1
  have o1 := (hO4.all 1 _ rfl).1
  have o2 := (hO4.all 2 _ rfl).1
  have o3 := (hO4.all 3 _ rfl).1
  have r0 := (hO4.all 0 _ rfl).2
  have r1 := (hO4.all 1 _ rfl).2
  have r2 := (hO4.all 2 _ rfl).2
  have r3 := (hO4.all 3 _ rfl).2
  have HO4 := hide hO4
  have HB4 := hide ((unhide HB3).trans (b4.mono (unhide HB3).size))
  clear KD b4 hO4 q0 q1 q2 q3
  go_wp2_with fail
  have hf := ((((unhide HO4).put 0 (.int .i64 0)).put 1 (.int .i64 0)).put 2 (.slice none 0 0)).put 3 (.slice none 0 0)
  have t0 := (hf.all 0 _ rfl).1
  have t1 := (hf.all 1 _ rfl).1
  have t2 := (hf.all 2 _ rfl).1
  have t3 := (hf.all 3 _ rfl).1
  have cc : Chg (fun j => j = wb.heap.size) w4 ((((w4.setCell ⟨wb.heap.size, 0, none⟩ (.int .i64 0)).setCell ⟨wb.heap.size, 1, none⟩ (.int .i64 0)).setCell ⟨wb.heap.size, 2, none⟩ (.slice none 0 0)).setCell ⟨wb.heap.size, 3, none⟩ (.slice none 0 0)) := (((Chg.of_set (S := fun j => j = wb.heap.size) _ _ _ _ rfl).trans (Chg.of_set (S := fun j => j = wb.heap.size) _ _ _ _ rfl)).trans (Chg.of_set (S := fun j => j = wb.heap.size) _ _ _ _ rfl)).trans (Chg.of_set (S := fun j => j = wb.heap.size) _ _ _ _ rfl)
  generalize (((w4.setCell ⟨wb.heap.size, 0, none⟩ (.int .i64 0)).setCell ⟨wb.heap.size, 1, none⟩ (.int .i64 0)).setCell ⟨wb.heap.size, 2, none⟩ (.slice none 0 0)).setCell ⟨wb.heap.size, 3, none⟩ (.slice none 0 0) = wf at *
  refine bodyPost_ret (by simp [results, Tryz.results52, go_sem, t0, t1, t2, t3]; try rfl) rfl ?_
  exact ⟨rfl, (unhide HB4).trans (cc.below (unhide HB4).size (fun j hj e => by have := unhide HWB; omega))⟩
end Go.Proofs.YtmlodfgpedoloaaGreat
