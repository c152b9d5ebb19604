/- Chc -/
import Derived.Test.YtgjokididdffhaaGreatChb
import Derived.Test.YtgjokididdffhaaGreatChe
import Derived.Test.YtgjokididdffhaaGreatDa3
namespace Go.Proofs.YtgjokididdffhaaGreat
open Go.RowKit Go.Deep
set_option linter.unusedVariables false
set_option maxRecDepth 100000 in
set_option maxHeartbeats 16000000 in
theorem ctask_none (R : Nat) (a1 a2 : Option Addr) (n1 c1 n2 c2 : Nat) (st cols : List Int) (w : World) (h1 : SlI w a1 n1 c1 st) (h2 : SlI w a2 n2 c2 cols) (hb1 : n1 ≤ 17592186044000) (hb2 : n2 ≤ 17592186044000) (hm : MayP (R : Int) (R : Int) st cols) :
    Calls Tryz.prog 34 #[.int .i64 0, patV (R : Int) (R : Int) a1 n1 c1 a2 n2 c2] w fun e w' => e = .returned (.tuple #[.agg #[Value.nilFunc, Value.nilFunc, Value.nilFunc, Value.nilFunc, (.bool false), (.int .i64 0), (.int .i64 0), (.slice none 0 0), (.slice none 0 0), (.int .i64 0), (.int .i64 0), (.slice none 0 0), (.slice none 0 0)], .int .i64 242]) ∧ Below w.heap.size w w' := by
  obtain ⟨wb, hwb⟩ : ∃ x, w.alloc (.cells #[.int .i64 (R : Int), .int .i64 (R : Int), .slice a1 n1 c1, .slice a2 n2 c2] 25) = x := ⟨_, rfl⟩
  have bb : Below w.heap.size w wb := by rw [← hwb]; exact (Below.refl _ _).alloc (Nat.le_refl _) _
  have hT := BoxP.made w #[.int .i64 (R : Int), .int .i64 (R : Int), .slice a1 n1 c1, .slice a2 n2 c2] 25
  rw [hwb] at hT
  have hO0 := BoxP.made wb #[Value.nilFunc, Value.nilFunc, Value.nilFunc, Value.nilFunc, .bool false, .int .i64 0, .int .i64 0, .slice none 0 0, .slice none 0 0, .int .i64 0, .int .i64 0, .slice none 0 0, .slice none 0 0] 80
  obtain ⟨wo, hwo⟩ : ∃ x, wb.alloc (.cells #[Value.nilFunc, Value.nilFunc, Value.nilFunc, Value.nilFunc, .bool false, .int .i64 0, .int .i64 0, .slice none 0 0, .slice none 0 0, .int .i64 0, .int .i64 0, .slice none 0 0, .slice none 0 0] 80) = x := ⟨_, rfl⟩
  have bo : Below wb.heap.size wb wo := by rw [← hwo]; exact (Below.refl _ _).alloc (Nat.le_refl _) _
  rw [hwo] at hO0
  have hT1 := hT.below bo
  have p0 := (hT1.all 0 _ rfl).1
  have p1 := (hT1.all 1 _ rfl).1
  have p2 := (hT1.all 2 _ rfl).1
  have p3 := (hT1.all 3 _ rfl).1
  have bw := bb.trans (bo.mono bb.size)
  have KM := hide (smay_any (R : Int) (R : Int) a1 a2 n1 c1 n2 c2 st cols wo (h1.below bw) (h2.below bw) (by omega) (by omega))
  unfold patV at KM
  have HT := hide hT1
  have HO := hide hO0
  have HB := hide bw
  have HWB := hide bb.size
  have HS := hide (And.intro h1 h2)
  have HM := hide hm
  have HTQ := hide (show TruQ true (MayP (R : Int) (R : Int) st cols) from ⟨fun _ => hm, fun _ => rfl⟩)
  clear hT hT1 hO0 bb bo bw h1 h2 hm
  unfold patV
  go_enter Tryz.func34, Tryz.ntmps34
  go_wp2_with fail
  refine (unhide KM).mono ?_
  intro e w2 hq
  obtain ⟨rfl, b2⟩ := hq.known (unhide HTQ)
  have hT2 := (unhide HT).below b2
  have HT2 := hide hT2
  have HO2 := hide ((unhide HO).below b2)
  have HB2 := hide ((unhide HB).trans (b2.mono (unhide HB).size))
  clear hq KM b2 hT2 p0 p1 p2 p3
  go_wp2_with fail
  refine (crules_none w2).mono ?_
  rintro _ w3 ⟨rfl, b3⟩
  try dsimp only
  repeat ((fail_if_success (with_reducible (show Code.wp _ (Code.seq (Code.seq _ _) _) _ _ (World.alloc w3 (Obj.cells #[_, _, _, _, .bool false] _))))); (first | go_values | go_skip | go_guarded | go_step | go_upon | go_back))
  have br : Below w3.heap.size w3 (w3.alloc (.cells #[Value.nilFunc, Value.nilFunc, Value.nilFunc, Value.nilFunc, (.bool false)] 78)) := (Below.refl _ _).alloc (Nat.le_refl _) _
  have hO5 := ((unhide HO2).below b3).below br
  have HB5 := hide (((unhide HB2).trans (b3.mono (unhide HB2).size)).trans (br.mono (Nat.le_trans (unhide HB2).size b3.size)))
  clear b3 br
  generalize w3.alloc (.cells #[Value.nilFunc, Value.nilFunc, Value.nilFunc, Value.nilFunc, (.bool false)] 78) = wg at *
  have o0 := (hO5.all 0 _ rfl).1
  have r0 := (hO5.all 0 _ rfl).2
  have o1 := (hO5.all 1 _ rfl).1
  have r1 := (hO5.all 1 _ rfl).2
  have o2 := (hO5.all 2 _ rfl).1
  have r2 := (hO5.all 2 _ rfl).2
  have o3 := (hO5.all 3 _ rfl).1
  have r3 := (hO5.all 3 _ rfl).2
  have o4 := (hO5.all 4 _ rfl).1
  have r4 := (hO5.all 4 _ rfl).2
  have o5 := (hO5.all 5 _ rfl).1
  have r5 := (hO5.all 5 _ rfl).2
  have o6 := (hO5.all 6 _ rfl).1
  have r6 := (hO5.all 6 _ rfl).2
  have o7 := (hO5.all 7 _ rfl).1
  have r7 := (hO5.all 7 _ rfl).2
  have o8 := (hO5.all 8 _ rfl).1
  have r8 := (hO5.all 8 _ rfl).2
  have o9 := (hO5.all 9 _ rfl).1
  have r9 := (hO5.all 9 _ rfl).2
  have o10 := (hO5.all 10 _ rfl).1
  have r10 := (hO5.all 10 _ rfl).2
  have o11 := (hO5.all 11 _ rfl).1
  have r11 := (hO5.all 11 _ rfl).2
  have o12 := (hO5.all 12 _ rfl).1
  have r12 := (hO5.all 12 _ rfl).2
  have HO5 := hide hO5
  clear hO5
  go_wp2_with fail
  have hf := ((((((((((((((unhide HO5).put 0 Value.nilFunc).put 1 Value.nilFunc).put 2 Value.nilFunc).put 3 Value.nilFunc).put 4 (.bool false)).put 5 (.int .i64 0)).put 6 (.int .i64 0)).put 7 (.slice none 0 0)).put 8 (.slice none 0 0)).put 9 (.int .i64 0)).put 10 (.int .i64 0)).put 11 (.slice none 0 0)).put 12 (.slice none 0 0))
  have t0 := (hf.all 0 _ rfl).1
  have t1 := (hf.all 1 _ rfl).1
  have t2 := (hf.all 2 _ rfl).1
  have t3 := (hf.all 3 _ rfl).1
  have t4 := (hf.all 4 _ rfl).1
  have t5 := (hf.all 5 _ rfl).1
  have t6 := (hf.all 6 _ rfl).1
  have t7 := (hf.all 7 _ rfl).1
  have t8 := (hf.all 8 _ rfl).1
  have t9 := (hf.all 9 _ rfl).1
  have t10 := (hf.all 10 _ rfl).1
  have t11 := (hf.all 11 _ rfl).1
  have t12 := (hf.all 12 _ rfl).1
  have cc : Chg (fun j => j = wb.heap.size) wg (((((((((((((wg.setCell ⟨wb.heap.size, 0, none⟩ Value.nilFunc).setCell ⟨wb.heap.size, 1, none⟩ Value.nilFunc).setCell ⟨wb.heap.size, 2, none⟩ Value.nilFunc).setCell ⟨wb.heap.size, 3, none⟩ Value.nilFunc).setCell ⟨wb.heap.size, 4, none⟩ (.bool false)).setCell ⟨wb.heap.size, 5, none⟩ (.int .i64 0)).setCell ⟨wb.heap.size, 6, none⟩ (.int .i64 0)).setCell ⟨wb.heap.size, 7, none⟩ (.slice none 0 0)).setCell ⟨wb.heap.size, 8, none⟩ (.slice none 0 0)).setCell ⟨wb.heap.size, 9, none⟩ (.int .i64 0)).setCell ⟨wb.heap.size, 10, none⟩ (.int .i64 0)).setCell ⟨wb.heap.size, 11, none⟩ (.slice none 0 0)).setCell ⟨wb.heap.size, 12, none⟩ (.slice none 0 0)) := (((((((((((((Chg.of_set (S := fun j => j = wb.heap.size) _ _ _ _ rfl).trans (Chg.of_set (S := fun j => j = wb.heap.size) _ _ _ _ rfl)).trans (Chg.of_set (S := fun j => j = wb.heap.size) _ _ _ _ rfl)).trans (Chg.of_set (S := fun j => j = wb.heap.size) _ _ _ _ rfl)).trans (Chg.of_set (S := fun j => j = wb.heap.size) _ _ _ _ rfl)).trans (Chg.of_set (S := fun j => j = wb.heap.size) _ _ _ _ rfl)).trans (Chg.of_set (S := fun j => j = wb.heap.size) _ _ _ _ rfl)).trans (Chg.of_set (S := fun j => j = wb.heap.size) _ _ _ _ rfl)).trans (Chg.of_set (S := fun j => j = wb.heap.size) _ _ _ _ rfl)).trans (Chg.of_set (S := fun j => j = wb.heap.size) _ _ _ _ rfl)).trans (Chg.of_set (S := fun j => j = wb.heap.size) _ _ _ _ rfl)).trans (Chg.of_set (S := fun j => j = wb.heap.size) _ _ _ _ rfl)).trans (Chg.of_set (S := fun j => j = wb.heap.size) _ _ _ _ rfl))
  generalize (((((((((((((wg.setCell ⟨wb.heap.size, 0, none⟩ Value.nilFunc).setCell ⟨wb.heap.size, 1, none⟩ Value.nilFunc).setCell ⟨wb.heap.size, 2, none⟩ Value.nilFunc).setCell ⟨wb.heap.size, 3, none⟩ Value.nilFunc).setCell ⟨wb.heap.size, 4, none⟩ (.bool false)).setCell ⟨wb.heap.size, 5, none⟩ (.int .i64 0)).setCell ⟨wb.heap.size, 6, none⟩ (.int .i64 0)).setCell ⟨wb.heap.size, 7, none⟩ (.slice none 0 0)).setCell ⟨wb.heap.size, 8, none⟩ (.slice none 0 0)).setCell ⟨wb.heap.size, 9, none⟩ (.int .i64 0)).setCell ⟨wb.heap.size, 10, none⟩ (.int .i64 0)).setCell ⟨wb.heap.size, 11, none⟩ (.slice none 0 0)).setCell ⟨wb.heap.size, 12, none⟩ (.slice none 0 0)) = wf at *
  refine bodyPost_ret (by simp [results, Tryz.results34, go_sem, t0, t1, t2, t3, t4, t5, t6, t7, t8, t9, t10, t11, t12]; try rfl) rfl ?_
  exact ⟨rfl, (unhide HB5).trans (cc.below (unhide HB5).size (fun j hj e => by have := unhide HWB; omega))⟩
structure GreA (w w' : World) (e : Ending) (R : Nat) (st cols xs : List Int) (g : Nat) (cs : Nat → Int) (z : Nat) : Prop where
  ret : e = .returned (.tuple #[.slice (some ⟨g, 0, none⟩) R R, .int .i64 (z : Int), .int .i64 0])
  pnt : PntI st cols xs R cs
  num : NumC (csL cs R) (z : Int)
  row : RoV w' g R (fun i => .int .i64 (cs i))
  new : w.heap.size ≤ g
  bel : Below w.heap.size w w'
set_option maxRecDepth 100000 in
set_option maxHeartbeats 16000000 in
theorem cgreedy_star (R : Nat) (a1 a2 a : Option Addr) (n1 c1 n2 c2 c : Nat) (st cols xs : List Int) (w : World) (h1 : SlI w a1 n1 c1 st) (h2 : SlI w a2 n2 c2 cols) (h3 : SlI w a R c xs) (hb1 : n1 ≤ 17592186044000) (hb2 : n2 ≤ 17592186044000) (hm : MayP (R : Int) (R : Int) st cols) (hg : GraP st cols R R) (ho : OrdTo xs R R) :
    Calls Tryz.prog 18 #[.int .i64 4, patV (R : Int) (R : Int) a1 n1 c1 a2 n2 c2, .slice a R c] w fun e w' => ∃ g cs z, GreA w w' e R st cols xs g cs z := by
  obtain ⟨wb, hwb⟩ : ∃ x, w.alloc (.cells #[.int .i64 (R : Int), .int .i64 (R : Int), .slice a1 n1 c1, .slice a2 n2 c2] 25) = x := ⟨_, rfl⟩
  have bb : Below w.heap.size w wb := by rw [← hwb]; exact (Below.refl _ _).alloc (Nat.le_refl _) _
  have hT := BoxP.made w #[.int .i64 (R : Int), .int .i64 (R : Int), .slice a1 n1 c1, .slice a2 n2 c2] 25
  rw [hwb] at hT
  have p0 := (hT.all 0 _ rfl).1
  have p1 := (hT.all 1 _ rfl).1
  have p2 := (hT.all 2 _ rfl).1
  have p3 := (hT.all 3 _ rfl).1
  have hR8 : R ≤ 128 := by have := hm.head.fit; omega
  have KT := hide (ctask_star R a1 a2 n1 c1 n2 c2 st cols wb (h1.below bb) (h2.below bb) hb1 hb2 hm hg)
  unfold patV at KT
  have HB := hide bb
  have HS := hide (And.intro h1 (And.intro h2 h3))
  have HM := hide hm
  have HOR := hide ho
  clear hT bb h1 h2 h3 hm hg ho
  unfold patV
  go_enter Tryz.func18, Tryz.ntmps18
  go_wp2_with fail
  refine (unhide KT).mono ?_
  rintro _ w2 ⟨rfl, b2⟩
  clear p0 p1 p2 p3 KT
  try dsimp only
  repeat ((fail_if_success (with_reducible (show Code.wp _ _ _ _ (World.alloc w2 (Obj.cells #[_, _, _, _, _, _, _, _, _, _, _, _, .slice a2 n2 c2] _))))); (first | go_values | go_skip | go_guarded | go_step | go_upon | go_back))
  have hR := BoxP.made w2 #[(.func (.func 49) #[] #[]), (.func (.func 101) #[] #[]), (.func (.func 102) #[] #[]), (.func (.func 94) #[] #[]), (.bool true), .int .i64 (R : Int), .int .i64 (R : Int), .slice a1 n1 c1, .slice a2 n2 c2, .int .i64 (R : Int), .int .i64 (R : Int), .slice a1 n1 c1, .slice a2 n2 c2] 80
  have br : Below w2.heap.size w2 (w2.alloc (.cells #[(.func (.func 49) #[] #[]), (.func (.func 101) #[] #[]), (.func (.func 102) #[] #[]), (.func (.func 94) #[] #[]), (.bool true), .int .i64 (R : Int), .int .i64 (R : Int), .slice a1 n1 c1, .slice a2 n2 c2, .int .i64 (R : Int), .int .i64 (R : Int), .slice a1 n1 c1, .slice a2 n2 c2] 80)) := (Below.refl _ _).alloc (Nat.le_refl _) _
  have hb3 := ((unhide HB).trans (b2.mono (unhide HB).size)).trans (br.mono (Nat.le_trans (unhide HB).size b2.size))
  clear b2 br
  generalize w2.alloc (.cells #[(.func (.func 49) #[] #[]), (.func (.func 101) #[] #[]), (.func (.func 102) #[] #[]), (.func (.func 94) #[] #[]), (.bool true), .int .i64 (R : Int), .int .i64 (R : Int), .slice a1 n1 c1, .slice a2 n2 c2, .int .i64 (R : Int), .int .i64 (R : Int), .slice a1 n1 c1, .slice a2 n2 c2] 80) = w3 at *
  have KO := hide (cisOrder_any a R c xs R w3 ((unhide HS).2.2.below hb3) (by omega) hR8 true ⟨fun _ => ⟨(unhide HS).2.2.len, unhide HOR⟩, fun _ => rfl⟩)
  have s0 := (hR.all 0 _ rfl).1
  have s1 := (hR.all 1 _ rfl).1
  have s2 := (hR.all 2 _ rfl).1
  have s3 := (hR.all 3 _ rfl).1
  have s4 := (hR.all 4 _ rfl).1
  have s5 := (hR.all 5 _ rfl).1
  have s6 := (hR.all 6 _ rfl).1
  have s7 := (hR.all 7 _ rfl).1
  have s8 := (hR.all 8 _ rfl).1
  have s9 := (hR.all 9 _ rfl).1
  have s10 := (hR.all 10 _ rfl).1
  have s11 := (hR.all 11 _ rfl).1
  have s12 := (hR.all 12 _ rfl).1
  have HB3 := hide hb3
  have HR := hide hR
  clear hR hb3
  go_wp2_with fail
  refine (unhide KO).mono ?_
  rintro _ w4 ⟨rfl, b4⟩
  have hR4 := (unhide HR).below b4
  have hb4 := (unhide HB3).trans (b4.mono (unhide HB3).size)
  clear KO b4 s0 s1 s2 s3 s4 s5 s6 s7 s8 s9 s10 s11 s12
  have s0 := (hR4.all 0 _ rfl).1
  have s1 := (hR4.all 1 _ rfl).1
  have s2 := (hR4.all 2 _ rfl).1
  have s3 := (hR4.all 3 _ rfl).1
  have s4 := (hR4.all 4 _ rfl).1
  have s5 := (hR4.all 5 _ rfl).1
  have s6 := (hR4.all 6 _ rfl).1
  have s7 := (hR4.all 7 _ rfl).1
  have s8 := (hR4.all 8 _ rfl).1
  have s9 := (hR4.all 9 _ rfl).1
  have s10 := (hR4.all 10 _ rfl).1
  have s11 := (hR4.all 11 _ rfl).1
  have s12 := (hR4.all 12 _ rfl).1
  have HB4 := hide hb4
  clear hR4 hb4
  go_wp2_with fail
  refine (cnewBrush_any _ _ _ _ true R R a1 a2 a1 a2 n1 c1 n2 c2 n1 c1 n2 c2 w4 hR8).mono ?_
  rintro _ w5 ⟨X, g, h, rfl, hX, hg5, hh5, hlt5, b5⟩
  have hs1 := (unhide HS).1.below (unhide HB4)
  have hs2 := (unhide HS).2.1.below (unhide HB4)
  have hs3 := (unhide HS).2.2.below (unhide HB4)
  have hBr : BrI w5 X R _ a1 n1 c1 a2 n2 c2 g h 1 (fun _ => -1) (fun _ => 0) st cols := ⟨hX, rfl, rfl, rfl, rfl, rfl, rfl, rfl, hg5, hh5, hs1.below b5, hs2.below b5, fun z hz hne => by have := hs1.block_lt hne z hz; omega, fun z hz hne => by have := hs2.block_lt hne z hz; omega, by omega⟩
  have KP := hide (cpaint_star X R _ a1 n1 c1 a2 n2 c2 g h (fun _ => 0) st cols a R c xs w5 hBr (unhide HM) hb1 hb2 (fun j _ => by omega) rfl (hs3.below b5) (Nat.le_refl _) (unhide HOR).rng (fun z hz hne => by have := hs3.block_lt hne z hz; omega))
  have HB5 := hide ((unhide HB4).trans (b5.mono (unhide HB4).size))
  have HLT := hide (And.intro (unhide HB4).size hlt5)
  clear hX hg5 hh5 hlt5 b5 hs1 hs2 hs3 hBr s0 s1 s2 s3 s4 s5 s6 s7 s8 s9 s10 s11 s12
  go_wp2_with fail
  refine (unhide KP).mono ?_
  rintro _ w6 ⟨cs, hP⟩
  have e6 := hP.ret
  subst e6
  have hrg := PntI.rng (unhide HM) (unhide HOR).rng (Nat.le_refl _) hP.pnt
  have KN := hide (cnumber_any (some ⟨g, 0, none⟩) R R (csL cs R) w6 (hP.row.sli hR8) hR8 (fun i hi => by rw [csL_get hi]; have := hrg i; omega) (fun e => by cases e))
  have HP := hide hP
  have HRG := hide hrg
  clear KP hP hrg
  go_wp2_with fail
  refine (unhide KN).mono ?_
  rintro _ w7 ⟨zi, rfl, hN, b7⟩
  obtain ⟨hz0, hzk, _⟩ := numC_rng hN (fun i _ => unhide HRG i)
  obtain ⟨z, rfl⟩ : ∃ z : Nat, zi = (z : Int) := ⟨zi.toNat, by omega⟩
  have HA := hide (show GreA w w7 (.returned (.tuple #[.slice (some ⟨g, 0, none⟩) R R, .int .i64 (z : Int), .int .i64 0])) R st cols xs g cs z from
    ⟨rfl, (unhide HP).pnt, hN, (unhide HP).row.below b7, by have := unhide HLT; omega, (unhide HB5).trans (((unhide HP).chg.below (unhide HB5).size (fun j hj e => by have := unhide HLT; omega)).trans (b7.mono (Nat.le_trans (unhide HB5).size (unhide HP).chg.size)))⟩)
  clear KN hN b7 hz0 hzk
  go_wp2_with fail
  refine bodyPost_ret (by simp [results, Tryz.results18, go_sem]; try rfl) rfl ?_
  exact ⟨g, cs, z, unhide HA⟩
set_option maxRecDepth 100000 in
set_option maxHeartbeats 16000000 in
theorem cgreedy_none (R : Nat) (a1 a2 a : Option Addr) (n1 c1 n2 c2 n c : Nat) (st cols : List Int) (w : World) (h1 : SlI w a1 n1 c1 st) (h2 : SlI w a2 n2 c2 cols) (hb1 : n1 ≤ 17592186044000) (hb2 : n2 ≤ 17592186044000) (hm : MayP (R : Int) (R : Int) st cols) :
    Calls Tryz.prog 18 #[.int .i64 0, patV (R : Int) (R : Int) a1 n1 c1 a2 n2 c2, .slice a n c] w fun e w' => e = .returned (.tuple #[.slice none 0 0, .int .i64 0, .int .i64 242]) ∧ Below w.heap.size w w' := by
  obtain ⟨wb, hwb⟩ : ∃ x, w.alloc (.cells #[.int .i64 (R : Int), .int .i64 (R : Int), .slice a1 n1 c1, .slice a2 n2 c2] 25) = x := ⟨_, rfl⟩
  have bb : Below w.heap.size w wb := by rw [← hwb]; exact (Below.refl _ _).alloc (Nat.le_refl _) _
  have hT := BoxP.made w #[.int .i64 (R : Int), .int .i64 (R : Int), .slice a1 n1 c1, .slice a2 n2 c2] 25
  rw [hwb] at hT
  have p0 := (hT.all 0 _ rfl).1
  have p1 := (hT.all 1 _ rfl).1
  have p2 := (hT.all 2 _ rfl).1
  have p3 := (hT.all 3 _ rfl).1
  have hR8 : R ≤ 128 := by have := hm.head.fit; omega
  have KT := hide (ctask_none R a1 a2 n1 c1 n2 c2 st cols wb (h1.below bb) (h2.below bb) hb1 hb2 hm)
  unfold patV at KT
  have HB := hide bb
  clear hT bb h1 h2 hm hR8
  unfold patV
  go_enter Tryz.func18, Tryz.ntmps18
  go_wp2_with fail
  refine (unhide KT).mono ?_
  rintro _ w2 ⟨rfl, b2⟩
  clear p0 p1 p2 p3 KT
  try dsimp only
  have HB2 := hide ((unhide HB).trans (b2.mono (unhide HB).size))
  clear b2
  go_wp2_with fail
  refine bodyPost_ret (by simp [results, Tryz.results18, go_sem]; try rfl) rfl ?_
  exact ⟨rfl, (unhide HB2).alloc (unhide HB2).size _⟩
def stC : List Int := [0, 2, 4, 6, 8]
def colsC : List Int := [1, 3, 0, 2, 1, 3, 0, 2]
def ordC : List Int := [0, 1, 2, 3]
theorem ordC_ord : OrdTo ordC 4 4 := by
  refine ⟨fun j hj => ?_, fun i j hij hj => ?_⟩
  · have : j = 0 ∨ j = 1 ∨ j = 2 ∨ j = 3 := by omega
    rcases this with rfl | rfl | rfl | rfl <;> decide
  · have h1 : j = 1 ∨ j = 2 ∨ j = 3 := by omega
    have h2 : i = 0 ∨ i = 1 ∨ i = 2 := by omega
    rcases h1 with rfl | rfl | rfl <;> rcases h2 with rfl | rfl | rfl <;> first | decide | omega
theorem mayC : MayP (4 : Nat) (4 : Nat) stC colsC := by
  refine ⟨⟨by decide, by decide, by decide, by decide⟩, fun i _ hi => ?_, fun r hr => ?_⟩
  · have h : ∀ i, i < 4 → stC.getD i 0 ≤ stC.getD (i + 1) 0 := by decide
    exact h i (by simp [stC] at hi; omega)
  · have h1 : ∀ r, r < 4 → ∀ i, i < 8 → (stC.getD r 0).toNat ≤ i → i < (stC.getD (r + 1) 0).toNat → 0 ≤ colsC.getD i 0 ∧ colsC.getD i 0 < 4 := by decide
    have h2 : ∀ r, r < 4 → ∀ i, i < 8 → (stC.getD r 0).toNat < i → i < (stC.getD (r + 1) 0).toNat → colsC.getD (i - 1) 0 < colsC.getD i 0 := by decide
    have h3 : ∀ r, r < 4 → (stC.getD (r + 1) 0).toNat ≤ 8 := by decide
    have hr4 : r < 4 := by simp [stC] at hr; omega
    have := h3 r hr4
    exact ⟨fun i a b => h1 r hr4 i (by omega) a b, fun i a b => h2 r hr4 i (by omega) a b⟩
theorem graC : GraP stC colsC 4 4 := by
  refine ⟨rfl, fun u v hu hv h => ?_, fun ⟨r, hr, h⟩ => ?_⟩
  · have k : ∀ u, u < 4 → ∀ v, v < 4 → ((u : Nat) : Int) ∈ rowL stC colsC v → ((v : Nat) : Int) ∈ rowL stC colsC u := by decide
    exact (rowL_mem mayC hu).1 (k u hu v hv ((rowL_mem mayC hv).2 h))
  · have k : ∀ r, r < 4 → ¬ ((r : Nat) : Int) ∈ rowL stC colsC r := by decide
    exact k r hr ((rowL_mem mayC hr).2 h)
theorem pntC : PntI stC colsC ordC 4 (updC (updC (updC (updC (fun _ => -1) 0 0) 1 1) 2 0) 3 2) := by
  refine ⟨_, 2, ⟨_, 0, ⟨_, 1, ⟨_, 0, rfl, ⟨?_, ?_⟩, rfl⟩, ⟨?_, ?_⟩, rfl⟩, ⟨?_, ?_⟩, rfl⟩, ⟨?_, ?_⟩, rfl⟩ <;> unfold BarP PaP TwP <;> decide
theorem SlI.made (w : World) (xs : List Int) (t : TypeId) (h : xs.length ≤ 128) : SlI (w.alloc (.cells (xs.map (fun x => Value.int .i64 x)).toArray t)) (some ⟨w.heap.size, 0, none⟩) xs.length xs.length xs := by
  refine ⟨rfl, Nat.le_refl _, by unfold maxLen; omega, .inr ⟨w.heap.size, 0, rfl, fun i hi => ?_⟩⟩
  rw [Nat.zero_add]
  exact (cell_of_block (alloc_block _ _) i).trans (by simp [List.getD, hi])
set_option maxRecDepth 100000 in
set_option maxHeartbeats 8000000 in
theorem ccircle_any (w : World) :
    Calls Tryz.prog 33 #[] w fun e w' => ∃ s c, e = .returned (patV (4 : Nat) (4 : Nat) (some ⟨s, 0, none⟩) 5 5 (some ⟨c, 0, none⟩) 8 8) ∧ SlI w' (some ⟨s, 0, none⟩) 5 5 stC ∧ SlI w' (some ⟨c, 0, none⟩) 8 8 colsC ∧ Below w.heap.size w w' := by
  go_enter Tryz.func33, Tryz.ntmps33
  go_wp2_with fail
  refine bodyPost_ret (by simp [results, Tryz.results33, go_sem]; try rfl) rfl ?_
  have b1 : Below w.heap.size w (w.alloc (.cells #[Value.int IntKind.i64 4, Value.int IntKind.i64 4, Value.slice (some ⟨w.heap.size + 1, 0, none⟩) 5 5, Value.slice (some ⟨w.heap.size + 1 + 1, 0, none⟩) 8 8] 25)) := (Below.refl _ _).alloc (Nat.le_refl _) _
  have s1 := SlI.made (w.alloc (.cells #[Value.int IntKind.i64 4, Value.int IntKind.i64 4, Value.slice (some ⟨w.heap.size + 1, 0, none⟩) 5 5, Value.slice (some ⟨w.heap.size + 1 + 1, 0, none⟩) 8 8] 25)) stC 3 (by decide)
  have e1 : (w.alloc (.cells #[Value.int IntKind.i64 4, Value.int IntKind.i64 4, Value.slice (some ⟨w.heap.size + 1, 0, none⟩) 5 5, Value.slice (some ⟨w.heap.size + 1 + 1, 0, none⟩) 8 8] 25)).heap.size = w.heap.size + 1 := by simp
  generalize w.alloc (.cells #[Value.int IntKind.i64 4, Value.int IntKind.i64 4, Value.slice (some ⟨w.heap.size + 1, 0, none⟩) 5 5, Value.slice (some ⟨w.heap.size + 1 + 1, 0, none⟩) 8 8] 25) = w1 at *
  rw [e1] at s1
  have b2 : Below w.heap.size w1 (w1.alloc (.cells (stC.map (fun x => Value.int .i64 x)).toArray 3)) := (Below.refl _ _).alloc (by omega) _
  have e2 : (w1.alloc (.cells (stC.map (fun x => Value.int .i64 x)).toArray 3)).heap.size = w.heap.size + 1 + 1 := by simp [e1]
  have s2 := SlI.made (w1.alloc (.cells (stC.map (fun x => Value.int .i64 x)).toArray 3)) colsC 3 (by decide)
  rw [e2] at s2
  have b3 : Below (w.heap.size + 1 + 1) (w1.alloc (.cells (stC.map (fun x => Value.int .i64 x)).toArray 3)) ((w1.alloc (.cells (stC.map (fun x => Value.int .i64 x)).toArray 3)).alloc (.cells (colsC.map (fun x => Value.int .i64 x)).toArray 3)) := (Below.refl _ _).alloc (by omega) _
  exact ⟨w.heap.size + 1, w.heap.size + 1 + 1, rfl, s1.below (by rw [e2]; exact b3), s2, (b1.trans b2).trans (b3.mono (by omega))⟩
theorem numCirc {z : Nat} (h : NumC (csL (updC (updC (updC (updC (fun _ => -1) 0 0) 1 1) 2 0) 3 2) 4) (z : Int)) : z = 3 := by
  have k : MaxTo (-1 :: csL (updC (updC (updC (updC (fun _ => -1) 0 0) 1 1) 2 0) 3 2) 4) ((csL (updC (updC (updC (updC (fun _ => -1) 0 0) 1 1) 2 0) 3 2) 4).length + 1) 2 := ⟨⟨4, by decide, by decide⟩, by decide⟩
  have := MaxTo.one h k
  omega
set_option maxRecDepth 100000 in
set_option maxHeartbeats 8000000 in
theorem calive_any (w : World) :
    Calls Tryz.prog 9 #[] w fun e w' => e = .returned (.bool true) ∧ Below w.heap.size w w' := by
  go_enter Tryz.func9, Tryz.ntmps9
  go_wp2_with fail
  refine (ccircle_any w).mono ?_
  rintro _ w1 ⟨s, c, rfl, hs, hc, b1⟩
  have so := SlI.made w1 ordC 3 (by decide)
  have b2 : Below w1.heap.size w1 (w1.alloc (.cells (ordC.map (fun x => Value.int .i64 x)).toArray 3)) := (Below.refl _ _).alloc (Nat.le_refl _) _
  have KG := hide (cgreedy_star 4 _ _ _ 5 5 8 8 4 stC colsC ordC _ (hs.below b2) (hc.below b2) so (by omega) (by omega) mayC graC ordC_ord)
  have HB2 := hide (b1.trans (b2.mono b1.size))
  clear hs hc so b1 b2
  unfold patV at *
  go_wp2_with fail
  refine (unhide KG).mono ?_
  rintro _ w3 ⟨g, cs, z, hA⟩
  have e3 := hA.ret
  subst e3
  have ecs := hA.pnt.one pntC
  have hz := hA.num
  rw [ecs] at hz
  have ez := numCirc hz
  subst ez
  have hrow := (hA.row.sli (by omega))
  rw [ecs] at hrow
  have HB3 := hide ((unhide HB2).trans (hA.bel.mono (unhide HB2).size))
  have HROW := hide (show SlI w3 (some ⟨g, 0, none⟩) 4 4 [0, 1, 0, 2] from hrow)
  clear hA ecs hz hrow KG
  go_wp2_with fail
  refine (ccircle_any w3).mono ?_
  rintro _ w4 ⟨s', c', rfl, hs, hc, b4⟩
  have b5 : Below w4.heap.size w4 (w4.alloc (.cells (ordC.map (fun x => Value.int .i64 x)).toArray 3)) := (Below.refl _ _).alloc (Nat.le_refl _) _
  have KG := hide (cgreedy_none 4 _ _ (some ⟨w4.heap.size, 0, none⟩) 5 5 8 8 4 4 stC colsC _ (hs.below b5) (hc.below b5) (by omega) (by omega) mayC)
  have b35 := b4.trans (b5.mono b4.size)
  have HR5 := hide ((unhide HROW).below b35)
  have HB5 := hide ((unhide HB3).trans (b35.mono (unhide HB3).size))
  clear hs hc b4 b5 b35 HROW
  unfold patV at *
  go_wp2_with fail
  refine (unhide KG).mono ?_
  rintro _ w6 ⟨rfl, b6⟩
  have HR6 := hide ((unhide HR5).below b6)
  have HB6 := hide ((unhide HB5).trans (b6.mono (unhide HB5).size))
  clear KG b6 HR5
  go_wp2_with ((go_at_call 11; refine (num12_any _ _).mono ?_; rintro _ _ ⟨rfl, rfl⟩))
  refine (sameInts_eq (some ⟨g, 0, none⟩) _ 4 4 4 [0, 1, 0, 2] _ ((unhide HR6).below ((Below.refl _ _).alloc (Nat.le_refl _) _)) (SlI.made _ [0, 1, 0, 2] 3 (by decide)) (by omega)).mono ?_
  rintro _ _ ⟨rfl, m, rfl⟩
  go_wp2_with ((go_at_call 11; refine (num12_any _ _).mono ?_; rintro _ _ ⟨rfl, hw⟩; subst hw))
  try go_ret
  exact ⟨rfl, bel_drewN ((unhide HB6).alloc (unhide HB6).size _) m⟩


section
variable {k : Int} {R width n1 n2 m : Nat} {st cols S C : List Int} {Q : Nat → Bool} {G G1 G3 : Nat} {wd : Bool}
end
end Go.Proofs.YtgjokididdffhaaGreat
