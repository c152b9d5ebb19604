/-
  COLOURS: colour.taskOf: contracts.
-/
import Derived.Test.YtkbcmnjgkmkeaaaGreatCha
import Derived.Test.YtkbcmnjgkmkeaaaGreatCgd
namespace Go.Proofs.YtkbcmnjgkmkeaaaGreat
open Go.RowKit Go.Deep
set_option linter.unusedVariables false

set_option maxRecDepth 100000 in
set_option maxHeartbeats 16000000 in
/-- colour.taskOf, of star colourings of a graph. -/
theorem ctask_star (R : Nat) (a1 a2 : Option Addr) (n1 c1 n2 c2 : Nat) (st cols : List Int) (w : World) (h1 : SlI w a1 n1 c1 st) (h2 : SlI w a2 n2 c2 cols) (hb1 : n1 ≤ 17592186044000) (hb2 : n2 ≤ 17592186044000) (hm : MayP (R : Int) (R : Int) st cols) (hg : GraP st cols R R) :
    Calls Tryz.prog 29 #[.int .i64 4, patV (R : Int) (R : Int) a1 n1 c1 a2 n2 c2] w fun e w' => e = .returned (.tuple #[.agg #[(.func (.func 44) #[] #[]), (.func (.func 54) #[] #[]), (.func (.func 55) #[] #[]), (.func (.func 47) #[] #[]), (.bool true), .int .i64 (R : Int), .int .i64 (R : Int), .slice a1 n1 c1, .slice a2 n2 c2, .int .i64 (R : Int), .int .i64 (R : Int), .slice a1 n1 c1, .slice a2 n2 c2], .int .i64 0]) ∧ Below w.heap.size w w' := by
  obtain ⟨wb, hwb⟩ : ∃ x, w.alloc (.cells #[.int .i64 (R : Int), .int .i64 (R : Int), .slice a1 n1 c1, .slice a2 n2 c2] 61) = x := ⟨_, rfl⟩
  have bb : Below w.heap.size w wb := by rw [← hwb]; exact (Below.refl _ _).alloc (Nat.le_refl _) _
  have hT := BoxP.made w #[.int .i64 (R : Int), .int .i64 (R : Int), .slice a1 n1 c1, .slice a2 n2 c2] 61
  rw [hwb] at hT
  have hO0 := BoxP.made wb #[Value.nilFunc, Value.nilFunc, Value.nilFunc, Value.nilFunc, .bool false, .int .i64 0, .int .i64 0, .slice none 0 0, .slice none 0 0, .int .i64 0, .int .i64 0, .slice none 0 0, .slice none 0 0] 92
  obtain ⟨wo, hwo⟩ : ∃ x, wb.alloc (.cells #[Value.nilFunc, Value.nilFunc, Value.nilFunc, Value.nilFunc, .bool false, .int .i64 0, .int .i64 0, .slice none 0 0, .slice none 0 0, .int .i64 0, .int .i64 0, .slice none 0 0, .slice none 0 0] 92) = x := ⟨_, rfl⟩
  have bo : Below wb.heap.size wb wo := by rw [← hwo]; exact (Below.refl _ _).alloc (Nat.le_refl _) _
  rw [hwo] at hO0
  have hT1 := hT.below bo
  have p0 := (hT1.all 0 _ rfl).1
  have p1 := (hT1.all 1 _ rfl).1
  have p2 := (hT1.all 2 _ rfl).1
  have p3 := (hT1.all 3 _ rfl).1
  have bw := bb.trans (bo.mono bb.size)
  have KM := hide (smay_any (R : Int) (R : Int) a1 a2 n1 c1 n2 c2 st cols wo (h1.below bw) (h2.below bw) (by omega) (by omega))
  unfold patV at KM
  have HT := hide hT1
  have HO := hide hO0
  have HB := hide bw
  have HWB := hide bb.size
  have HS := hide (And.intro h1 h2)
  have HM := hide hm
  have HG := hide hg
  have HTQ := hide (show TruQ true (MayP (R : Int) (R : Int) st cols) from ⟨fun _ => hm, fun _ => rfl⟩)
  clear hT hT1 hO0 bb bo bw h1 h2 hm hg
  unfold patV
  go_enter Tryz.func29, Tryz.ntmps29
  go_wp2_with fail
  refine (unhide KM).mono ?_
  intro e w2 hq
  obtain ⟨rfl, b2⟩ := hq.known (unhide HTQ)
  have hT2 := (unhide HT).below b2
  have HT2 := hide hT2
  have HO2 := hide ((unhide HO).below b2)
  have HB2 := hide ((unhide HB).trans (b2.mono (unhide HB).size))
  clear hq KM b2 hT2 p0 p1 p2 p3
  go_wp2_with fail
  refine (crules_star w2).mono ?_
  rintro _ w3 ⟨rfl, b3⟩
  try dsimp only
  repeat ((fail_if_success (with_reducible (show Code.wp _ _ _ _ (World.alloc w3 (Obj.cells #[_, _, _, _, .bool true] _))))); (first | go_values | go_skip | go_guarded | go_step | go_upon | go_back))
  have hR := BoxP.made w3 #[(.func (.func 44) #[] #[]), (.func (.func 54) #[] #[]), (.func (.func 55) #[] #[]), (.func (.func 47) #[] #[]), (.bool true)] 90
  have br : Below w3.heap.size w3 (w3.alloc (.cells #[(.func (.func 44) #[] #[]), (.func (.func 54) #[] #[]), (.func (.func 55) #[] #[]), (.func (.func 47) #[] #[]), (.bool true)] 90)) := (Below.refl _ _).alloc (Nat.le_refl _) _
  have hT3 := ((unhide HT2).below b3).below br
  have HO3 := hide (((unhide HO2).below b3).below br)
  have HB3 := hide (((unhide HB2).trans (b3.mono (unhide HB2).size)).trans (br.mono (Nat.le_trans (unhide HB2).size b3.size)))
  clear b3 br
  generalize w3.alloc (.cells #[(.func (.func 44) #[] #[]), (.func (.func 54) #[] #[]), (.func (.func 55) #[] #[]), (.func (.func 47) #[] #[]), (.bool true)] 90) = wr at *
  have s0 := (hR.all 0 _ rfl).1
  have q0 := (hT3.all 0 _ rfl).1
  have q1 := (hT3.all 1 _ rfl).1
  have q2 := (hT3.all 2 _ rfl).1
  have q3 := (hT3.all 3 _ rfl).1
  have HR := hide hR
  have HT3 := hide hT3
  clear hR hT3
  go_wp2_with fail
  have KI := hide (citself_yes R R a1 a2 n1 c1 n2 c2 st cols wr ((unhide HS).1.below (unhide HB3)) ((unhide HS).2.below (unhide HB3)) hb1 hb2 (unhide HM) (unhide HG))
  unfold patV at KI
  refine (unhide KI).mono ?_
  rintro _ w4 ⟨rfl, b4⟩
  have hR4 := (unhide HR).below b4
  have hT4 := (unhide HT3).below b4
  have hO4 := (unhide HO3).below b4
  have bw4 := (unhide HB3).trans (b4.mono (unhide HB3).size)
  clear KI b4 s0 q0 q1 q2 q3
  try dsimp only
  repeat ((fail_if_success (with_reducible (show Code.wp _ _ _ _ (World.alloc w4 (Obj.cells #[_, _, _, .slice a2 n2 c2] _))))); (first | go_values | go_skip | go_guarded | go_step | go_upon | go_back))
  have hG := BoxP.made w4 #[.int .i64 (R : Int), .int .i64 (R : Int), .slice a1 n1 c1, .slice a2 n2 c2] 61
  have bg : Below w4.heap.size w4 (w4.alloc (.cells #[.int .i64 (R : Int), .int .i64 (R : Int), .slice a1 n1 c1, .slice a2 n2 c2] 61)) := (Below.refl _ _).alloc (Nat.le_refl _) _
  have hR5 := hR4.below bg
  have hT5 := hT4.below bg
  have hO5 := hO4.below bg
  have bw5 := bw4.trans (bg.mono bw4.size)
  clear bg bw4 hR4 hT4 hO4
  generalize w4.alloc (.cells #[.int .i64 (R : Int), .int .i64 (R : Int), .slice a1 n1 c1, .slice a2 n2 c2] 61) = wg at *
  have s0 := (hR5.all 0 _ rfl).1
  have s1 := (hR5.all 1 _ rfl).1
  have s2 := (hR5.all 2 _ rfl).1
  have s3 := (hR5.all 3 _ rfl).1
  have s4 := (hR5.all 4 _ rfl).1
  have q0 := (hT5.all 0 _ rfl).1
  have q1 := (hT5.all 1 _ rfl).1
  have q2 := (hT5.all 2 _ rfl).1
  have q3 := (hT5.all 3 _ rfl).1
  have g0 := (hG.all 0 _ rfl).1
  have g1 := (hG.all 1 _ rfl).1
  have g2 := (hG.all 2 _ rfl).1
  have g3 := (hG.all 3 _ rfl).1
  have o0 := (hO5.all 0 _ rfl).1
  have r0 := (hO5.all 0 _ rfl).2
  have o1 := (hO5.all 1 _ rfl).1
  have r1 := (hO5.all 1 _ rfl).2
  have o2 := (hO5.all 2 _ rfl).1
  have r2 := (hO5.all 2 _ rfl).2
  have o3 := (hO5.all 3 _ rfl).1
  have r3 := (hO5.all 3 _ rfl).2
  have o4 := (hO5.all 4 _ rfl).1
  have r4 := (hO5.all 4 _ rfl).2
  have o5 := (hO5.all 5 _ rfl).1
  have r5 := (hO5.all 5 _ rfl).2
  have o6 := (hO5.all 6 _ rfl).1
  have r6 := (hO5.all 6 _ rfl).2
  have o7 := (hO5.all 7 _ rfl).1
  have r7 := (hO5.all 7 _ rfl).2
  have o8 := (hO5.all 8 _ rfl).1
  have r8 := (hO5.all 8 _ rfl).2
  have o9 := (hO5.all 9 _ rfl).1
  have r9 := (hO5.all 9 _ rfl).2
  have o10 := (hO5.all 10 _ rfl).1
  have r10 := (hO5.all 10 _ rfl).2
  have o11 := (hO5.all 11 _ rfl).1
  have r11 := (hO5.all 11 _ rfl).2
  have o12 := (hO5.all 12 _ rfl).1
  have r12 := (hO5.all 12 _ rfl).2
  have HO5 := hide hO5
  have HB5 := hide bw5
  clear hO5 bw5 hG hR5 hT5
  go_wp2_with fail
  have hf := ((((((((((((((unhide HO5).put 0 (.func (.func 44) #[] #[])).put 1 (.func (.func 54) #[] #[])).put 2 (.func (.func 55) #[] #[])).put 3 (.func (.func 47) #[] #[])).put 4 (.bool true)).put 5 (.int .i64 (R : Int))).put 6 (.int .i64 (R : Int))).put 7 (.slice a1 n1 c1)).put 8 (.slice a2 n2 c2)).put 9 (.int .i64 (R : Int))).put 10 (.int .i64 (R : Int))).put 11 (.slice a1 n1 c1)).put 12 (.slice a2 n2 c2))
  have t0 := (hf.all 0 _ rfl).1
  have t1 := (hf.all 1 _ rfl).1
  have t2 := (hf.all 2 _ rfl).1
  have t3 := (hf.all 3 _ rfl).1
  have t4 := (hf.all 4 _ rfl).1
  have t5 := (hf.all 5 _ rfl).1
  have t6 := (hf.all 6 _ rfl).1
  have t7 := (hf.all 7 _ rfl).1
  have t8 := (hf.all 8 _ rfl).1
  have t9 := (hf.all 9 _ rfl).1
  have t10 := (hf.all 10 _ rfl).1
  have t11 := (hf.all 11 _ rfl).1
  have t12 := (hf.all 12 _ rfl).1
  have cc : Chg (fun j => j = wb.heap.size) wg (((((((((((((wg.setCell ⟨wb.heap.size, 0, none⟩ (.func (.func 44) #[] #[])).setCell ⟨wb.heap.size, 1, none⟩ (.func (.func 54) #[] #[])).setCell ⟨wb.heap.size, 2, none⟩ (.func (.func 55) #[] #[])).setCell ⟨wb.heap.size, 3, none⟩ (.func (.func 47) #[] #[])).setCell ⟨wb.heap.size, 4, none⟩ (.bool true)).setCell ⟨wb.heap.size, 5, none⟩ (.int .i64 (R : Int))).setCell ⟨wb.heap.size, 6, none⟩ (.int .i64 (R : Int))).setCell ⟨wb.heap.size, 7, none⟩ (.slice a1 n1 c1)).setCell ⟨wb.heap.size, 8, none⟩ (.slice a2 n2 c2)).setCell ⟨wb.heap.size, 9, none⟩ (.int .i64 (R : Int))).setCell ⟨wb.heap.size, 10, none⟩ (.int .i64 (R : Int))).setCell ⟨wb.heap.size, 11, none⟩ (.slice a1 n1 c1)).setCell ⟨wb.heap.size, 12, none⟩ (.slice a2 n2 c2)) := (((((((((((((Chg.of_set (S := fun j => j = wb.heap.size) _ _ _ _ rfl).trans (Chg.of_set (S := fun j => j = wb.heap.size) _ _ _ _ rfl)).trans (Chg.of_set (S := fun j => j = wb.heap.size) _ _ _ _ rfl)).trans (Chg.of_set (S := fun j => j = wb.heap.size) _ _ _ _ rfl)).trans (Chg.of_set (S := fun j => j = wb.heap.size) _ _ _ _ rfl)).trans (Chg.of_set (S := fun j => j = wb.heap.size) _ _ _ _ rfl)).trans (Chg.of_set (S := fun j => j = wb.heap.size) _ _ _ _ rfl)).trans (Chg.of_set (S := fun j => j = wb.heap.size) _ _ _ _ rfl)).trans (Chg.of_set (S := fun j => j = wb.heap.size) _ _ _ _ rfl)).trans (Chg.of_set (S := fun j => j = wb.heap.size) _ _ _ _ rfl)).trans (Chg.of_set (S := fun j => j = wb.heap.size) _ _ _ _ rfl)).trans (Chg.of_set (S := fun j => j = wb.heap.size) _ _ _ _ rfl)).trans (Chg.of_set (S := fun j => j = wb.heap.size) _ _ _ _ rfl))
  generalize (((((((((((((wg.setCell ⟨wb.heap.size, 0, none⟩ (.func (.func 44) #[] #[])).setCell ⟨wb.heap.size, 1, none⟩ (.func (.func 54) #[] #[])).setCell ⟨wb.heap.size, 2, none⟩ (.func (.func 55) #[] #[])).setCell ⟨wb.heap.size, 3, none⟩ (.func (.func 47) #[] #[])).setCell ⟨wb.heap.size, 4, none⟩ (.bool true)).setCell ⟨wb.heap.size, 5, none⟩ (.int .i64 (R : Int))).setCell ⟨wb.heap.size, 6, none⟩ (.int .i64 (R : Int))).setCell ⟨wb.heap.size, 7, none⟩ (.slice a1 n1 c1)).setCell ⟨wb.heap.size, 8, none⟩ (.slice a2 n2 c2)).setCell ⟨wb.heap.size, 9, none⟩ (.int .i64 (R : Int))).setCell ⟨wb.heap.size, 10, none⟩ (.int .i64 (R : Int))).setCell ⟨wb.heap.size, 11, none⟩ (.slice a1 n1 c1)).setCell ⟨wb.heap.size, 12, none⟩ (.slice a2 n2 c2)) = wf at *
  refine bodyPost_ret (by simp [results, Tryz.results29, go_sem, t0, t1, t2, t3, t4, t5, t6, t7, t8, t9, t10, t11, t12]; try rfl) rfl ?_
  exact ⟨rfl, (unhide HB5).trans (cc.below (unhide HB5).size (fun j hj e => by have := unhide HWB; omega))⟩
end Go.Proofs.YtkbcmnjgkmkeaaaGreat
