/-
  COLOURS: colour.rulesOf of star and of no kind: contracts.
-/
import Derived.Test.YtmlodfgpedoloaaGreatCg5
import Derived.Laws.EntriesVeiled
namespace Go.Proofs.YtmlodfgpedoloaaGreat
open Go.RowKit Go.Deep
set_option linter.unusedVariables false

set_option maxRecDepth 100000 in
set_option maxHeartbeats 16000000 in
/-- colour.rulesOf, of star colourings. -/
theorem crules_star (w : World) :
    Calls Tryz.prog 32 #[.int .i64 4] w fun e w' => e = .returned (.tuple #[.agg #[(.func (.func 52) #[] #[]), (.func (.func 62) #[] #[]), (.func (.func 63) #[] #[]), (.func (.func 55) #[] #[]), (.bool true)], .bool true]) ∧ Below w.heap.size w w' := by
  have hO := BoxP.made w #[Value.nilFunc, Value.nilFunc, Value.nilFunc, Value.nilFunc, .bool false] 55
  obtain ⟨wo, hwo⟩ : ∃ x, w.alloc (.cells #[Value.nilFunc, Value.nilFunc, Value.nilFunc, Value.nilFunc, .bool false] 55) = x := ⟨_, rfl⟩
  have bo : Below w.heap.size w wo := by rw [← hwo]; exact (Below.refl _ _).alloc (Nat.le_refl _) _
  rw [hwo] at hO
  have o0 := (hO.all 0 _ rfl).1
  have r0 := (hO.all 0 _ rfl).2
  have o1 := (hO.all 1 _ rfl).1
  have r1 := (hO.all 1 _ rfl).2
  have o2 := (hO.all 2 _ rfl).1
  have r2 := (hO.all 2 _ rfl).2
  have o3 := (hO.all 3 _ rfl).1
  have r3 := (hO.all 3 _ rfl).2
  have o4 := (hO.all 4 _ rfl).1
  have r4 := (hO.all 4 _ rfl).2
  have HO := hide hO
  have HB := hide bo
  clear hO bo
  go_enter Tryz.func32, Tryz.ntmps32
  go_wp2_with fail
  have hf := ((((((unhide HO).put 0 (.func (.func 52) #[] #[])).put 1 (.func (.func 62) #[] #[])).put 2 (.func (.func 63) #[] #[])).put 3 (.func (.func 55) #[] #[])).put 4 (.bool true))
  have t0 := (hf.all 0 _ rfl).1
  have t1 := (hf.all 1 _ rfl).1
  have t2 := (hf.all 2 _ rfl).1
  have t3 := (hf.all 3 _ rfl).1
  have t4 := (hf.all 4 _ rfl).1
  have cc : Chg (fun j => j = w.heap.size) wo (((((wo.setCell ⟨w.heap.size, 0, none⟩ (.func (.func 52) #[] #[])).setCell ⟨w.heap.size, 1, none⟩ (.func (.func 62) #[] #[])).setCell ⟨w.heap.size, 2, none⟩ (.func (.func 63) #[] #[])).setCell ⟨w.heap.size, 3, none⟩ (.func (.func 55) #[] #[])).setCell ⟨w.heap.size, 4, none⟩ (.bool true)) := (((((Chg.of_set (S := fun j => j = w.heap.size) _ _ _ _ rfl).trans (Chg.of_set (S := fun j => j = w.heap.size) _ _ _ _ rfl)).trans (Chg.of_set (S := fun j => j = w.heap.size) _ _ _ _ rfl)).trans (Chg.of_set (S := fun j => j = w.heap.size) _ _ _ _ rfl)).trans (Chg.of_set (S := fun j => j = w.heap.size) _ _ _ _ rfl))
  generalize (((((wo.setCell ⟨w.heap.size, 0, none⟩ (.func (.func 52) #[] #[])).setCell ⟨w.heap.size, 1, none⟩ (.func (.func 62) #[] #[])).setCell ⟨w.heap.size, 2, none⟩ (.func (.func 63) #[] #[])).setCell ⟨w.heap.size, 3, none⟩ (.func (.func 55) #[] #[])).setCell ⟨w.heap.size, 4, none⟩ (.bool true)) = wf at *
  refine bodyPost_ret (by simp [results, Tryz.results32, go_sem, t0, t1, t2, t3, t4]; try rfl) rfl ?_
  exact ⟨rfl, (unhide HB).trans (cc.below (unhide HB).size (fun j hj e => by omega))⟩
set_option maxRecDepth 100000 in
set_option maxHeartbeats 16000000 in
/-- colour.rulesOf, of no kind. -/
theorem crules_none (w : World) :
    Calls Tryz.prog 32 #[.int .i64 0] w fun e w' => e = .returned (.tuple #[.agg #[Value.nilFunc, Value.nilFunc, Value.nilFunc, Value.nilFunc, (.bool false)], .bool false]) ∧ Below w.heap.size w w' := by
  have hO := BoxP.made w #[Value.nilFunc, Value.nilFunc, Value.nilFunc, Value.nilFunc, .bool false] 55
  obtain ⟨wo, hwo⟩ : ∃ x, w.alloc (.cells #[Value.nilFunc, Value.nilFunc, Value.nilFunc, Value.nilFunc, .bool false] 55) = x := ⟨_, rfl⟩
  have bo : Below w.heap.size w wo := by rw [← hwo]; exact (Below.refl _ _).alloc (Nat.le_refl _) _
  rw [hwo] at hO
  have o0 := (hO.all 0 _ rfl).1
  have r0 := (hO.all 0 _ rfl).2
  have o1 := (hO.all 1 _ rfl).1
  have r1 := (hO.all 1 _ rfl).2
  have o2 := (hO.all 2 _ rfl).1
  have r2 := (hO.all 2 _ rfl).2
  have o3 := (hO.all 3 _ rfl).1
  have r3 := (hO.all 3 _ rfl).2
  have o4 := (hO.all 4 _ rfl).1
  have r4 := (hO.all 4 _ rfl).2
  have HO := hide hO
  have HB := hide bo
  clear hO bo
  go_enter Tryz.func32, Tryz.ntmps32
  go_wp2_with fail
  have hf := ((((((unhide HO).put 0 Value.nilFunc).put 1 Value.nilFunc).put 2 Value.nilFunc).put 3 Value.nilFunc).put 4 (.bool false))
  have t0 := (hf.all 0 _ rfl).1
  have t1 := (hf.all 1 _ rfl).1
  have t2 := (hf.all 2 _ rfl).1
  have t3 := (hf.all 3 _ rfl).1
  have t4 := (hf.all 4 _ rfl).1
  have cc : Chg (fun j => j = w.heap.size) wo (((((wo.setCell ⟨w.heap.size, 0, none⟩ Value.nilFunc).setCell ⟨w.heap.size, 1, none⟩ Value.nilFunc).setCell ⟨w.heap.size, 2, none⟩ Value.nilFunc).setCell ⟨w.heap.size, 3, none⟩ Value.nilFunc).setCell ⟨w.heap.size, 4, none⟩ (.bool false)) := (((((Chg.of_set (S := fun j => j = w.heap.size) _ _ _ _ rfl).trans (Chg.of_set (S := fun j => j = w.heap.size) _ _ _ _ rfl)).trans (Chg.of_set (S := fun j => j = w.heap.size) _ _ _ _ rfl)).trans (Chg.of_set (S := fun j => j = w.heap.size) _ _ _ _ rfl)).trans (Chg.of_set (S := fun j => j = w.heap.size) _ _ _ _ rfl))
  generalize (((((wo.setCell ⟨w.heap.size, 0, none⟩ Value.nilFunc).setCell ⟨w.heap.size, 1, none⟩ Value.nilFunc).setCell ⟨w.heap.size, 2, none⟩ Value.nilFunc).setCell ⟨w.heap.size, 3, none⟩ Value.nilFunc).setCell ⟨w.heap.size, 4, none⟩ (.bool false)) = wf at *
  refine bodyPost_ret (by simp [results, Tryz.results32, go_sem, t0, t1, t2, t3, t4]; try rfl) rfl ?_
  exact ⟨rfl, (unhide HB).trans (cc.below (unhide HB).size (fun j hj e => by omega))⟩
end Go.Proofs.YtmlodfgpedoloaaGreat

namespace Go.Proofs.YtmlodfgpedoloaaGreat
open Go.RowKit Go.Deep
set_option linter.unusedVariables false

set_option maxRecDepth 100000 in
set_option maxHeartbeats 16000000 in
/-- colour.rulesOf, of proper colourings. -/
theorem crules_proper (w : World) :
    Calls Tryz.prog 32 #[.int .i64 1] w fun e w' => e = .returned (.tuple #[.agg #[(.func (.func 52) #[] #[]), (.func (.func 53) #[] #[]), (.func (.func 54) #[] #[]), (.func (.func 55) #[] #[]), (.bool false)], .bool true]) ∧ Below w.heap.size w w' := by
  have hO := BoxP.made w #[Value.nilFunc, Value.nilFunc, Value.nilFunc, Value.nilFunc, .bool false] 55
  obtain ⟨wo, hwo⟩ : ∃ x, w.alloc (.cells #[Value.nilFunc, Value.nilFunc, Value.nilFunc, Value.nilFunc, .bool false] 55) = x := ⟨_, rfl⟩
  have bo : Below w.heap.size w wo := by rw [← hwo]; exact (Below.refl _ _).alloc (Nat.le_refl _) _
  rw [hwo] at hO
  have o0 := (hO.all 0 _ rfl).1
  have r0 := (hO.all 0 _ rfl).2
  have o1 := (hO.all 1 _ rfl).1
  have r1 := (hO.all 1 _ rfl).2
  have o2 := (hO.all 2 _ rfl).1
  have r2 := (hO.all 2 _ rfl).2
  have o3 := (hO.all 3 _ rfl).1
  have r3 := (hO.all 3 _ rfl).2
  have o4 := (hO.all 4 _ rfl).1
  have r4 := (hO.all 4 _ rfl).2
  have HO := hide hO
  have HB := hide bo
  clear hO bo
  go_enter Tryz.func32, Tryz.ntmps32
  go_wp2_with fail
  have hf := ((((((unhide HO).put 0 (.func (.func 52) #[] #[])).put 1 (.func (.func 53) #[] #[])).put 2 (.func (.func 54) #[] #[])).put 3 (.func (.func 55) #[] #[])).put 4 (.bool false))
  have t0 := (hf.all 0 _ rfl).1
  have t1 := (hf.all 1 _ rfl).1
  have t2 := (hf.all 2 _ rfl).1
  have t3 := (hf.all 3 _ rfl).1
  have t4 := (hf.all 4 _ rfl).1
  have cc : Chg (fun j => j = w.heap.size) wo (((((wo.setCell ⟨w.heap.size, 0, none⟩ (.func (.func 52) #[] #[])).setCell ⟨w.heap.size, 1, none⟩ (.func (.func 53) #[] #[])).setCell ⟨w.heap.size, 2, none⟩ (.func (.func 54) #[] #[])).setCell ⟨w.heap.size, 3, none⟩ (.func (.func 55) #[] #[])).setCell ⟨w.heap.size, 4, none⟩ (.bool false)) := (((((Chg.of_set (S := fun j => j = w.heap.size) _ _ _ _ rfl).trans (Chg.of_set (S := fun j => j = w.heap.size) _ _ _ _ rfl)).trans (Chg.of_set (S := fun j => j = w.heap.size) _ _ _ _ rfl)).trans (Chg.of_set (S := fun j => j = w.heap.size) _ _ _ _ rfl)).trans (Chg.of_set (S := fun j => j = w.heap.size) _ _ _ _ rfl))
  generalize (((((wo.setCell ⟨w.heap.size, 0, none⟩ (.func (.func 52) #[] #[])).setCell ⟨w.heap.size, 1, none⟩ (.func (.func 53) #[] #[])).setCell ⟨w.heap.size, 2, none⟩ (.func (.func 54) #[] #[])).setCell ⟨w.heap.size, 3, none⟩ (.func (.func 55) #[] #[])).setCell ⟨w.heap.size, 4, none⟩ (.bool false)) = wf at *
  refine bodyPost_ret (by simp [results, Tryz.results32, go_sem, t0, t1, t2, t3, t4]; try rfl) rfl ?_
  exact ⟨rfl, (unhide HB).trans (cc.below (unhide HB).size (fun j hj e => by omega))⟩
set_option maxRecDepth 100000 in
set_option maxHeartbeats 16000000 in
/-- colour.rulesOf, of columns. -/
theorem crules_cols (w : World) :
    Calls Tryz.prog 32 #[.int .i64 2] w fun e w' => e = .returned (.tuple #[.agg #[(.func (.func 56) #[] #[]), (.func (.func 57) #[] #[]), (.func (.func 54) #[] #[]), (.func (.func 58) #[] #[]), (.bool false)], .bool true]) ∧ Below w.heap.size w w' := by
  have hO := BoxP.made w #[Value.nilFunc, Value.nilFunc, Value.nilFunc, Value.nilFunc, .bool false] 55
  obtain ⟨wo, hwo⟩ : ∃ x, w.alloc (.cells #[Value.nilFunc, Value.nilFunc, Value.nilFunc, Value.nilFunc, .bool false] 55) = x := ⟨_, rfl⟩
  have bo : Below w.heap.size w wo := by rw [← hwo]; exact (Below.refl _ _).alloc (Nat.le_refl _) _
  rw [hwo] at hO
  have o0 := (hO.all 0 _ rfl).1
  have r0 := (hO.all 0 _ rfl).2
  have o1 := (hO.all 1 _ rfl).1
  have r1 := (hO.all 1 _ rfl).2
  have o2 := (hO.all 2 _ rfl).1
  have r2 := (hO.all 2 _ rfl).2
  have o3 := (hO.all 3 _ rfl).1
  have r3 := (hO.all 3 _ rfl).2
  have o4 := (hO.all 4 _ rfl).1
  have r4 := (hO.all 4 _ rfl).2
  have HO := hide hO
  have HB := hide bo
  clear hO bo
  go_enter Tryz.func32, Tryz.ntmps32
  go_wp2_with fail
  have hf := ((((((unhide HO).put 0 (.func (.func 56) #[] #[])).put 1 (.func (.func 57) #[] #[])).put 2 (.func (.func 54) #[] #[])).put 3 (.func (.func 58) #[] #[])).put 4 (.bool false))
  have t0 := (hf.all 0 _ rfl).1
  have t1 := (hf.all 1 _ rfl).1
  have t2 := (hf.all 2 _ rfl).1
  have t3 := (hf.all 3 _ rfl).1
  have t4 := (hf.all 4 _ rfl).1
  have cc : Chg (fun j => j = w.heap.size) wo (((((wo.setCell ⟨w.heap.size, 0, none⟩ (.func (.func 56) #[] #[])).setCell ⟨w.heap.size, 1, none⟩ (.func (.func 57) #[] #[])).setCell ⟨w.heap.size, 2, none⟩ (.func (.func 54) #[] #[])).setCell ⟨w.heap.size, 3, none⟩ (.func (.func 58) #[] #[])).setCell ⟨w.heap.size, 4, none⟩ (.bool false)) := (((((Chg.of_set (S := fun j => j = w.heap.size) _ _ _ _ rfl).trans (Chg.of_set (S := fun j => j = w.heap.size) _ _ _ _ rfl)).trans (Chg.of_set (S := fun j => j = w.heap.size) _ _ _ _ rfl)).trans (Chg.of_set (S := fun j => j = w.heap.size) _ _ _ _ rfl)).trans (Chg.of_set (S := fun j => j = w.heap.size) _ _ _ _ rfl))
  generalize (((((wo.setCell ⟨w.heap.size, 0, none⟩ (.func (.func 56) #[] #[])).setCell ⟨w.heap.size, 1, none⟩ (.func (.func 57) #[] #[])).setCell ⟨w.heap.size, 2, none⟩ (.func (.func 54) #[] #[])).setCell ⟨w.heap.size, 3, none⟩ (.func (.func 58) #[] #[])).setCell ⟨w.heap.size, 4, none⟩ (.bool false)) = wf at *
  refine bodyPost_ret (by simp [results, Tryz.results32, go_sem, t0, t1, t2, t3, t4]; try rfl) rfl ?_
  exact ⟨rfl, (unhide HB).trans (cc.below (unhide HB).size (fun j hj e => by omega))⟩
set_option maxRecDepth 100000 in
set_option maxHeartbeats 16000000 in
/-- colour.rulesOf, of rows. -/
theorem crules_rows (w : World) :
    Calls Tryz.prog 32 #[.int .i64 3] w fun e w' => e = .returned (.tuple #[.agg #[(.func (.func 59) #[] #[]), (.func (.func 60) #[] #[]), (.func (.func 54) #[] #[]), (.func (.func 61) #[] #[]), (.bool false)], .bool true]) ∧ Below w.heap.size w w' := by
  have hO := BoxP.made w #[Value.nilFunc, Value.nilFunc, Value.nilFunc, Value.nilFunc, .bool false] 55
  obtain ⟨wo, hwo⟩ : ∃ x, w.alloc (.cells #[Value.nilFunc, Value.nilFunc, Value.nilFunc, Value.nilFunc, .bool false] 55) = x := ⟨_, rfl⟩
  have bo : Below w.heap.size w wo := by rw [← hwo]; exact (Below.refl _ _).alloc (Nat.le_refl _) _
  rw [hwo] at hO
  have o0 := (hO.all 0 _ rfl).1
  have r0 := (hO.all 0 _ rfl).2
  have o1 := (hO.all 1 _ rfl).1
  have r1 := (hO.all 1 _ rfl).2
  have o2 := (hO.all 2 _ rfl).1
  have r2 := (hO.all 2 _ rfl).2
  have o3 := (hO.all 3 _ rfl).1
  have r3 := (hO.all 3 _ rfl).2
  have o4 := (hO.all 4 _ rfl).1
  have r4 := (hO.all 4 _ rfl).2
  have HO := hide hO
  have HB := hide bo
  clear hO bo
  go_enter Tryz.func32, Tryz.ntmps32
  go_wp2_with fail
  have hf := ((((((unhide HO).put 0 (.func (.func 59) #[] #[])).put 1 (.func (.func 60) #[] #[])).put 2 (.func (.func 54) #[] #[])).put 3 (.func (.func 61) #[] #[])).put 4 (.bool false))
  have t0 := (hf.all 0 _ rfl).1
  have t1 := (hf.all 1 _ rfl).1
  have t2 := (hf.all 2 _ rfl).1
  have t3 := (hf.all 3 _ rfl).1
  have t4 := (hf.all 4 _ rfl).1
  have cc : Chg (fun j => j = w.heap.size) wo (((((wo.setCell ⟨w.heap.size, 0, none⟩ (.func (.func 59) #[] #[])).setCell ⟨w.heap.size, 1, none⟩ (.func (.func 60) #[] #[])).setCell ⟨w.heap.size, 2, none⟩ (.func (.func 54) #[] #[])).setCell ⟨w.heap.size, 3, none⟩ (.func (.func 61) #[] #[])).setCell ⟨w.heap.size, 4, none⟩ (.bool false)) := (((((Chg.of_set (S := fun j => j = w.heap.size) _ _ _ _ rfl).trans (Chg.of_set (S := fun j => j = w.heap.size) _ _ _ _ rfl)).trans (Chg.of_set (S := fun j => j = w.heap.size) _ _ _ _ rfl)).trans (Chg.of_set (S := fun j => j = w.heap.size) _ _ _ _ rfl)).trans (Chg.of_set (S := fun j => j = w.heap.size) _ _ _ _ rfl))
  generalize (((((wo.setCell ⟨w.heap.size, 0, none⟩ (.func (.func 59) #[] #[])).setCell ⟨w.heap.size, 1, none⟩ (.func (.func 60) #[] #[])).setCell ⟨w.heap.size, 2, none⟩ (.func (.func 54) #[] #[])).setCell ⟨w.heap.size, 3, none⟩ (.func (.func 61) #[] #[])).setCell ⟨w.heap.size, 4, none⟩ (.bool false)) = wf at *
  refine bodyPost_ret (by simp [results, Tryz.results32, go_sem, t0, t1, t2, t3, t4]; try rfl) rfl ?_
  exact ⟨rfl, (unhide HB).trans (cc.below (unhide HB).size (fun j hj e => by omega))⟩
set_option maxRecDepth 100000 in
set_option maxHeartbeats 16000000 in
/-- colour.rulesOf, of acyclic colourings. -/
theorem crules_acyc (w : World) :
    Calls Tryz.prog 32 #[.int .i64 5] w fun e w' => e = .returned (.tuple #[.agg #[(.func (.func 52) #[] #[]), (.func (.func 64) #[] #[]), (.func (.func 65) #[] #[]), (.func (.func 55) #[] #[]), (.bool true)], .bool true]) ∧ Below w.heap.size w w' := by
  have hO := BoxP.made w #[Value.nilFunc, Value.nilFunc, Value.nilFunc, Value.nilFunc, .bool false] 55
  obtain ⟨wo, hwo⟩ : ∃ x, w.alloc (.cells #[Value.nilFunc, Value.nilFunc, Value.nilFunc, Value.nilFunc, .bool false] 55) = x := ⟨_, rfl⟩
  have bo : Below w.heap.size w wo := by rw [← hwo]; exact (Below.refl _ _).alloc (Nat.le_refl _) _
  rw [hwo] at hO
  have o0 := (hO.all 0 _ rfl).1
  have r0 := (hO.all 0 _ rfl).2
  have o1 := (hO.all 1 _ rfl).1
  have r1 := (hO.all 1 _ rfl).2
  have o2 := (hO.all 2 _ rfl).1
  have r2 := (hO.all 2 _ rfl).2
  have o3 := (hO.all 3 _ rfl).1
  have r3 := (hO.all 3 _ rfl).2
  have o4 := (hO.all 4 _ rfl).1
  have r4 := (hO.all 4 _ rfl).2
  have HO := hide hO
  have HB := hide bo
  clear hO bo
  go_enter Tryz.func32, Tryz.ntmps32
  go_wp2_with fail
  have hf := ((((((unhide HO).put 0 (.func (.func 52) #[] #[])).put 1 (.func (.func 64) #[] #[])).put 2 (.func (.func 65) #[] #[])).put 3 (.func (.func 55) #[] #[])).put 4 (.bool true))
  have t0 := (hf.all 0 _ rfl).1
  have t1 := (hf.all 1 _ rfl).1
  have t2 := (hf.all 2 _ rfl).1
  have t3 := (hf.all 3 _ rfl).1
  have t4 := (hf.all 4 _ rfl).1
  have cc : Chg (fun j => j = w.heap.size) wo (((((wo.setCell ⟨w.heap.size, 0, none⟩ (.func (.func 52) #[] #[])).setCell ⟨w.heap.size, 1, none⟩ (.func (.func 64) #[] #[])).setCell ⟨w.heap.size, 2, none⟩ (.func (.func 65) #[] #[])).setCell ⟨w.heap.size, 3, none⟩ (.func (.func 55) #[] #[])).setCell ⟨w.heap.size, 4, none⟩ (.bool true)) := (((((Chg.of_set (S := fun j => j = w.heap.size) _ _ _ _ rfl).trans (Chg.of_set (S := fun j => j = w.heap.size) _ _ _ _ rfl)).trans (Chg.of_set (S := fun j => j = w.heap.size) _ _ _ _ rfl)).trans (Chg.of_set (S := fun j => j = w.heap.size) _ _ _ _ rfl)).trans (Chg.of_set (S := fun j => j = w.heap.size) _ _ _ _ rfl))
  generalize (((((wo.setCell ⟨w.heap.size, 0, none⟩ (.func (.func 52) #[] #[])).setCell ⟨w.heap.size, 1, none⟩ (.func (.func 64) #[] #[])).setCell ⟨w.heap.size, 2, none⟩ (.func (.func 65) #[] #[])).setCell ⟨w.heap.size, 3, none⟩ (.func (.func 55) #[] #[])).setCell ⟨w.heap.size, 4, none⟩ (.bool true)) = wf at *
  refine bodyPost_ret (by simp [results, Tryz.results32, go_sem, t0, t1, t2, t3, t4]; try rfl) rfl ?_
  exact ⟨rfl, (unhide HB).trans (cc.below (unhide HB).size (fun j hj e => by omega))⟩
set_option maxRecDepth 100000 in
set_option maxHeartbeats 16000000 in
/-- colour.rulesOf, of no kind. -/
theorem crules_off (x : Int) (hx1 : (x == 1) = false) (hx2 : (x == 2) = false) (hx3 : (x == 3) = false) (hx4 : (x == 4) = false) (hx5 : (x == 5) = false) (w : World) :
    Calls Tryz.prog 32 #[.int .i64 x] w fun e w' => e = .returned (.tuple #[.agg #[Value.nilFunc, Value.nilFunc, Value.nilFunc, Value.nilFunc, (.bool false)], .bool false]) ∧ Below w.heap.size w w' := by
  have hO := BoxP.made w #[Value.nilFunc, Value.nilFunc, Value.nilFunc, Value.nilFunc, .bool false] 55
  obtain ⟨wo, hwo⟩ : ∃ x, w.alloc (.cells #[Value.nilFunc, Value.nilFunc, Value.nilFunc, Value.nilFunc, .bool false] 55) = x := ⟨_, rfl⟩
  have bo : Below w.heap.size w wo := by rw [← hwo]; exact (Below.refl _ _).alloc (Nat.le_refl _) _
  rw [hwo] at hO
  have o0 := (hO.all 0 _ rfl).1
  have r0 := (hO.all 0 _ rfl).2
  have o1 := (hO.all 1 _ rfl).1
  have r1 := (hO.all 1 _ rfl).2
  have o2 := (hO.all 2 _ rfl).1
  have r2 := (hO.all 2 _ rfl).2
  have o3 := (hO.all 3 _ rfl).1
  have r3 := (hO.all 3 _ rfl).2
  have o4 := (hO.all 4 _ rfl).1
  have r4 := (hO.all 4 _ rfl).2
  have HO := hide hO
  have HB := hide bo
  clear hO bo
  go_enter Tryz.func32, Tryz.ntmps32
  go_wp2_with fail
  have hf := ((((((unhide HO).put 0 Value.nilFunc).put 1 Value.nilFunc).put 2 Value.nilFunc).put 3 Value.nilFunc).put 4 (.bool false))
  have t0 := (hf.all 0 _ rfl).1
  have t1 := (hf.all 1 _ rfl).1
  have t2 := (hf.all 2 _ rfl).1
  have t3 := (hf.all 3 _ rfl).1
  have t4 := (hf.all 4 _ rfl).1
  have cc : Chg (fun j => j = w.heap.size) wo (((((wo.setCell ⟨w.heap.size, 0, none⟩ Value.nilFunc).setCell ⟨w.heap.size, 1, none⟩ Value.nilFunc).setCell ⟨w.heap.size, 2, none⟩ Value.nilFunc).setCell ⟨w.heap.size, 3, none⟩ Value.nilFunc).setCell ⟨w.heap.size, 4, none⟩ (.bool false)) := (((((Chg.of_set (S := fun j => j = w.heap.size) _ _ _ _ rfl).trans (Chg.of_set (S := fun j => j = w.heap.size) _ _ _ _ rfl)).trans (Chg.of_set (S := fun j => j = w.heap.size) _ _ _ _ rfl)).trans (Chg.of_set (S := fun j => j = w.heap.size) _ _ _ _ rfl)).trans (Chg.of_set (S := fun j => j = w.heap.size) _ _ _ _ rfl))
  generalize (((((wo.setCell ⟨w.heap.size, 0, none⟩ Value.nilFunc).setCell ⟨w.heap.size, 1, none⟩ Value.nilFunc).setCell ⟨w.heap.size, 2, none⟩ Value.nilFunc).setCell ⟨w.heap.size, 3, none⟩ Value.nilFunc).setCell ⟨w.heap.size, 4, none⟩ (.bool false)) = wf at *
  refine bodyPost_ret (by simp [results, Tryz.results32, go_sem, t0, t1, t2, t3, t4]; try rfl) rfl ?_
  exact ⟨rfl, (unhide HB).trans (cc.below (unhide HB).size (fun j hj e => by omega))⟩
end Go.Proofs.YtmlodfgpedoloaaGreat
