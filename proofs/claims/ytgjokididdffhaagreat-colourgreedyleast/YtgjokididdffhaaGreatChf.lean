/- Cy4 -/
import Derived.Test.YtgjokididdffhaaGreatCx7
import Derived.Test.YtgjokididdffhaaGreatCx8
import Derived.Test.YtgjokididdffhaaGreatCxp
import Derived.Test.YtgjokididdffhaaGreatCxl
import Derived.Test.YtgjokididdffhaaGreatCk3
import Derived.Test.YtgjokididdffhaaGreatCx4
import Derived.Test.YtgjokididdffhaaGreatSp3
import Derived.Test.YtgjokididdffhaaGreatCi1
import Derived.Test.YtgjokididdffhaaGreatCgd
import Derived.Test.YtgjokididdffhaaGreatChe
namespace Go.Proofs.YtgjokididdffhaaGreat
open Go.RowKit Go.Deep
set_option linter.unusedVariables false
theorem paO_none {ad:Nat → Nat → Prop} {cs:Nat → Int} {q:Option (Nat × Nat × Nat × Nat)} (h:PaO ad cs q):q = none ↔ ∀ a b c d,¬ Pa4 ad cs a b c d:=by
 cases q with
 | none => exact ⟨fun _ => h,fun _ => rfl⟩
 | some p => exact ⟨fun e => (by cases e),fun k => absurd h.1 (k _ _ _ _)⟩
theorem bsI_none {P:Int → Int → Prop} {q:Option (Int × Int)} (h:BsI P q):q = none ↔ ∀ c d,¬ P c d:=by
 cases q with
 | none => exact ⟨fun _ => h,fun _ => rfl⟩
 | some p => exact ⟨fun e => (by cases e),fun k => absurd h.1 (k _ _)⟩
theorem SmP.split {Gd:(Nat → Nat) → Prop} {m:Nat} {e:Nat → Nat} {v k:Nat} (hv:v < m):SmP Gd m e v k ↔ ∃ y,y < k ∧ y ≤ usE e v ∧ SmP Gd m (upE e v y) (v + 1) k:=by
 constructor
 ·rintro ⟨f,h1,h2,h3⟩
  have h:=h2 v (Nat.le_refl _) hv
  rw [h1.us] at h
  refine ⟨f v,h.1,h.2,f,fun i hi => ?_,fun j hj hjm => h2 j (by omega) hjm,h3⟩
  by_cases e2:i = v
  ·subst e2; rw [upE_same]
  ·rw [upE_other _ _ e2]; exact h1 i (by omega)
 ·rintro ⟨y,hy,hu,f,h1,h2,h3⟩
  have ag:AgE f e v:=fun i hi => by rw [h1 i (by omega),upE_other _ _ (by omega)]
  refine ⟨f,ag,fun j hj hjm => ?_,h3⟩
  by_cases e2:j = v
  ·subst e2
   rw [h1 j (by omega),upE_same,ag.us]
   exact ⟨hy,hu⟩
  ·exact h2 j (by omega) hjm

section
variable {S C:List Int} {m:Nat} {Q:Nat → Bool}
end
section
variable {k:Int} {R width n1 n2 m:Nat} {st cols S C:List Int} {Q:Nat → Bool} {G G1 G2 G3:Nat} {wd:Bool}
end
section
variable {k:Int} {R width n1 n2 m:Nat} {st cols S C:List Int}
variable {Q:Nat → Bool} {G G1 G3:Nat} {wd:Bool}
theorem all_nn {xs:List Int} {cs:Nat → Int} (ho:OrdTo xs m m) (h:∀ j,j < m → 0 ≤ cs (xs.getD j 0).toNat):∀ i,i < m → 0 ≤ cs i:=fun i hi => by
 obtain ⟨j,h1,h2⟩:=ord_at ho hi
 have:=h j h1
 rwa [h2] at this
end

set_option maxRecDepth 100000 in
set_option maxHeartbeats 16000000 in
theorem ctask_star (R:Nat) (a1 a2:Option Addr) (n1 c1 n2 c2:Nat) (st cols:List Int) (w:World) (h1:SlI w a1 n1 c1 st) (h2:SlI w a2 n2 c2 cols) (hb1:n1 ≤ 17592186044000) (hb2:n2 ≤ 17592186044000) (hm:MayP (R:Int) (R:Int) st cols) (hg:GraP st cols R R) :
  Calls Tryz.prog 34 #[.int .i64 4,patV (R:Int) (R:Int) a1 n1 c1 a2 n2 c2] w fun e w' => e = .returned (.tuple #[.agg #[(.func (.func 49) #[] #[]),(.func (.func 101) #[] #[]),(.func (.func 102) #[] #[]),(.func (.func 94) #[] #[]),(.bool true),.int .i64 (R:Int),.int .i64 (R:Int),.slice a1 n1 c1,.slice a2 n2 c2,.int .i64 (R:Int),.int .i64 (R:Int),.slice a1 n1 c1,.slice a2 n2 c2],.int .i64 0]) ∧ Below w.heap.size w w':=by
 obtain ⟨wb,hwb⟩:∃ x,w.alloc (.cells #[.int .i64 (R:Int),.int .i64 (R:Int),.slice a1 n1 c1,.slice a2 n2 c2] 25) = x:=⟨_,rfl⟩
 have bb:Below w.heap.size w wb:=by rw [← hwb]; exact bAl
 have hT:=BoxP.made w #[.int .i64 (R:Int),.int .i64 (R:Int),.slice a1 n1 c1,.slice a2 n2 c2] 25
 rw [hwb] at hT
 have hO0:=BoxP.made wb #[Value.nilFunc,Value.nilFunc,Value.nilFunc,Value.nilFunc,.bool false,.int .i64 0,.int .i64 0,.slice none 0 0,.slice none 0 0,.int .i64 0,.int .i64 0,.slice none 0 0,.slice none 0 0] 80
 obtain ⟨wo,hwo⟩:∃ x,wb.alloc (.cells #[Value.nilFunc,Value.nilFunc,Value.nilFunc,Value.nilFunc,.bool false,.int .i64 0,.int .i64 0,.slice none 0 0,.slice none 0 0,.int .i64 0,.int .i64 0,.slice none 0 0,.slice none 0 0] 80) = x:=⟨_,rfl⟩
 have bo:Below wb.heap.size wb wo:=by rw [← hwo]; exact bAl
 rw [hwo] at hO0
 have hT1:=hT.below bo
 have p0:=(hT1.all 0 _ rfl).1
 have p1:=(hT1.all 1 _ rfl).1
 have p2:=(hT1.all 2 _ rfl).1
 have p3:=(hT1.all 3 _ rfl).1
 have bw:=bb.trans (bo.mono bb.size)
 have KM:=Hj (smay_any (R:Int) (R:Int) a1 a2 n1 c1 n2 c2 st cols wo (h1.below bw) (h2.below bw) (by omega) (by omega))
 unfold patV at KM
 have HT:=Hj hT1
 have HO:=Hj hO0
 have HB:=Hj bw
 have HWB:=Hj bb.size
 have HS:=Hj (And.intro h1 h2)
 have HM:=Hj hm
 have HG:=Hj hg
 have HTQ:=Hj (show TruQ true (MayP (R:Int) (R:Int) st cols) from ⟨fun _ => hm,fun _ => rfl⟩)
 clear hT hT1 hO0 bb bo bw h1 h2 hm hg
 unfold patV
 go_enter Tryz.func34,Tryz.ntmps34
 go_wp2_with fail
 refine (Uh KM).mono ?_
 intro e w2 hq
 obtain ⟨rfl,b2⟩:=hq.known (Uh HTQ)
 have hT2:=(Uh HT).below b2
 have HT2:=Hj hT2
 have HO2:=Hj ((Uh HO).below b2)
 have HB2:=Hj ((Uh HB).trans (b2.mono (Uh HB).size))
 clear hq KM b2 hT2 p0 p1 p2 p3
 go_wp2_with fail
 refine (crules_star w2).mono ?_
 rintro _ w3 ⟨rfl,b3⟩
 try dsimp only
 repeat ((fail_if_success (with_reducible (show Code.wp _ _ _ _ (World.alloc w3 (Obj.cells #[_,_,_,_,.bool true] _))))); (first | go_values | go_skip | go_guarded | go_step | go_upon | go_back))
 have hR:=BoxP.made w3 #[(.func (.func 49) #[] #[]),(.func (.func 101) #[] #[]),(.func (.func 102) #[] #[]),(.func (.func 94) #[] #[]),(.bool true)] 78
 have br:Below w3.heap.size w3 (w3.alloc (.cells #[(.func (.func 49) #[] #[]),(.func (.func 101) #[] #[]),(.func (.func 102) #[] #[]),(.func (.func 94) #[] #[]),(.bool true)] 78)):=bAl
 have hT3:=((Uh HT2).below b3).below br
 have HO3:=Hj (((Uh HO2).below b3).below br)
 have HB3:=Hj (((Uh HB2).trans (b3.mono (Uh HB2).size)).trans (br.mono (Nat.le_trans (Uh HB2).size b3.size)))
 clear b3 br
 generalize w3.alloc (.cells #[(.func (.func 49) #[] #[]),(.func (.func 101) #[] #[]),(.func (.func 102) #[] #[]),(.func (.func 94) #[] #[]),(.bool true)] 78) = wr at *
 have s0:=(hR.all 0 _ rfl).1
 have q0:=(hT3.all 0 _ rfl).1
 have q1:=(hT3.all 1 _ rfl).1
 have q2:=(hT3.all 2 _ rfl).1
 have q3:=(hT3.all 3 _ rfl).1
 have HR:=Hj hR
 have HT3:=Hj hT3
 clear hR hT3
 go_wp2_with fail
 have KI:=Hj (citself_yes R R a1 a2 n1 c1 n2 c2 st cols wr ((Uh HS).1.below (Uh HB3)) ((Uh HS).2.below (Uh HB3)) hb1 hb2 (Uh HM) (Uh HG))
 unfold patV at KI
 refine (Uh KI).mono ?_
 rintro _ w4 ⟨rfl,b4⟩
 have hR4:=(Uh HR).below b4
 have hT4:=(Uh HT3).below b4
 have hO4:=(Uh HO3).below b4
 have bw4:=(Uh HB3).trans (b4.mono (Uh HB3).size)
 clear KI b4 s0 q0 q1 q2 q3
 try dsimp only
 repeat ((fail_if_success (with_reducible (show Code.wp _ _ _ _ (World.alloc w4 (Obj.cells #[_,_,_,.slice a2 n2 c2] _))))); (first | go_values | go_skip | go_guarded | go_step | go_upon | go_back))
 have hG:=BoxP.made w4 #[.int .i64 (R:Int),.int .i64 (R:Int),.slice a1 n1 c1,.slice a2 n2 c2] 25
 have bg:Below w4.heap.size w4 (w4.alloc (.cells #[.int .i64 (R:Int),.int .i64 (R:Int),.slice a1 n1 c1,.slice a2 n2 c2] 25)):=bAl
 have hR5:=hR4.below bg
 have hT5:=hT4.below bg
 have hO5:=hO4.below bg
 have bw5:=bw4.trans (bg.mono bw4.size)
 clear bg bw4 hR4 hT4 hO4
 generalize w4.alloc (.cells #[.int .i64 (R:Int),.int .i64 (R:Int),.slice a1 n1 c1,.slice a2 n2 c2] 25) = wg at *
 have s0:=(hR5.all 0 _ rfl).1
 have s1:=(hR5.all 1 _ rfl).1
 have s2:=(hR5.all 2 _ rfl).1
 have s3:=(hR5.all 3 _ rfl).1
 have s4:=(hR5.all 4 _ rfl).1
 have q0:=(hT5.all 0 _ rfl).1
 have q1:=(hT5.all 1 _ rfl).1
 have q2:=(hT5.all 2 _ rfl).1
 have q3:=(hT5.all 3 _ rfl).1
 have g0:=(hG.all 0 _ rfl).1
 have g1:=(hG.all 1 _ rfl).1
 have g2:=(hG.all 2 _ rfl).1
 have g3:=(hG.all 3 _ rfl).1
 have o0:=(hO5.all 0 _ rfl).1
 have r0:=(hO5.all 0 _ rfl).2
 have o1:=(hO5.all 1 _ rfl).1
 have r1:=(hO5.all 1 _ rfl).2
 have o2:=(hO5.all 2 _ rfl).1
 have r2:=(hO5.all 2 _ rfl).2
 have o3:=(hO5.all 3 _ rfl).1
 have r3:=(hO5.all 3 _ rfl).2
 have o4:=(hO5.all 4 _ rfl).1
 have r4:=(hO5.all 4 _ rfl).2
 have o5:=(hO5.all 5 _ rfl).1
 have r5:=(hO5.all 5 _ rfl).2
 have o6:=(hO5.all 6 _ rfl).1
 have r6:=(hO5.all 6 _ rfl).2
 have o7:=(hO5.all 7 _ rfl).1
 have r7:=(hO5.all 7 _ rfl).2
 have o8:=(hO5.all 8 _ rfl).1
 have r8:=(hO5.all 8 _ rfl).2
 have o9:=(hO5.all 9 _ rfl).1
 have r9:=(hO5.all 9 _ rfl).2
 have o10:=(hO5.all 10 _ rfl).1
 have r10:=(hO5.all 10 _ rfl).2
 have o11:=(hO5.all 11 _ rfl).1
 have r11:=(hO5.all 11 _ rfl).2
 have o12:=(hO5.all 12 _ rfl).1
 have r12:=(hO5.all 12 _ rfl).2
 have HO5:=Hj hO5
 have HB5:=Hj bw5
 clear hO5 bw5 hG hR5 hT5
 go_wp2_with fail
 have hf:=((((((((((((((Uh HO5).put 0 (.func (.func 49) #[] #[])).put 1 (.func (.func 101) #[] #[])).put 2 (.func (.func 102) #[] #[])).put 3 (.func (.func 94) #[] #[])).put 4 (.bool true)).put 5 (.int .i64 (R:Int))).put 6 (.int .i64 (R:Int))).put 7 (.slice a1 n1 c1)).put 8 (.slice a2 n2 c2)).put 9 (.int .i64 (R:Int))).put 10 (.int .i64 (R:Int))).put 11 (.slice a1 n1 c1)).put 12 (.slice a2 n2 c2))
 have t0:=(hf.all 0 _ rfl).1
 have t1:=(hf.all 1 _ rfl).1
 have t2:=(hf.all 2 _ rfl).1
 have t3:=(hf.all 3 _ rfl).1
 have t4:=(hf.all 4 _ rfl).1
 have t5:=(hf.all 5 _ rfl).1
 have t6:=(hf.all 6 _ rfl).1
 have t7:=(hf.all 7 _ rfl).1
 have t8:=(hf.all 8 _ rfl).1
 have t9:=(hf.all 9 _ rfl).1
 have t10:=(hf.all 10 _ rfl).1
 have t11:=(hf.all 11 _ rfl).1
 have t12:=(hf.all 12 _ rfl).1
 have cc:Chg (fun j => j = wb.heap.size) wg (((((((((((((wg.setCell ⟨wb.heap.size,0,none⟩ (.func (.func 49) #[] #[])).setCell ⟨wb.heap.size,1,none⟩ (.func (.func 101) #[] #[])).setCell ⟨wb.heap.size,2,none⟩ (.func (.func 102) #[] #[])).setCell ⟨wb.heap.size,3,none⟩ (.func (.func 94) #[] #[])).setCell ⟨wb.heap.size,4,none⟩ (.bool true)).setCell ⟨wb.heap.size,5,none⟩ (.int .i64 (R:Int))).setCell ⟨wb.heap.size,6,none⟩ (.int .i64 (R:Int))).setCell ⟨wb.heap.size,7,none⟩ (.slice a1 n1 c1)).setCell ⟨wb.heap.size,8,none⟩ (.slice a2 n2 c2)).setCell ⟨wb.heap.size,9,none⟩ (.int .i64 (R:Int))).setCell ⟨wb.heap.size,10,none⟩ (.int .i64 (R:Int))).setCell ⟨wb.heap.size,11,none⟩ (.slice a1 n1 c1)).setCell ⟨wb.heap.size,12,none⟩ (.slice a2 n2 c2)):=(((((((((((((Chg.of_set (S:=fun j => j = wb.heap.size) _ _ _ _ rfl).trans (Chg.of_set (S:=fun j => j = wb.heap.size) _ _ _ _ rfl)).trans (Chg.of_set (S:=fun j => j = wb.heap.size) _ _ _ _ rfl)).trans (Chg.of_set (S:=fun j => j = wb.heap.size) _ _ _ _ rfl)).trans (Chg.of_set (S:=fun j => j = wb.heap.size) _ _ _ _ rfl)).trans (Chg.of_set (S:=fun j => j = wb.heap.size) _ _ _ _ rfl)).trans (Chg.of_set (S:=fun j => j = wb.heap.size) _ _ _ _ rfl)).trans (Chg.of_set (S:=fun j => j = wb.heap.size) _ _ _ _ rfl)).trans (Chg.of_set (S:=fun j => j = wb.heap.size) _ _ _ _ rfl)).trans (Chg.of_set (S:=fun j => j = wb.heap.size) _ _ _ _ rfl)).trans (Chg.of_set (S:=fun j => j = wb.heap.size) _ _ _ _ rfl)).trans (Chg.of_set (S:=fun j => j = wb.heap.size) _ _ _ _ rfl)).trans (Chg.of_set (S:=fun j => j = wb.heap.size) _ _ _ _ rfl))
 generalize (((((((((((((wg.setCell ⟨wb.heap.size,0,none⟩ (.func (.func 49) #[] #[])).setCell ⟨wb.heap.size,1,none⟩ (.func (.func 101) #[] #[])).setCell ⟨wb.heap.size,2,none⟩ (.func (.func 102) #[] #[])).setCell ⟨wb.heap.size,3,none⟩ (.func (.func 94) #[] #[])).setCell ⟨wb.heap.size,4,none⟩ (.bool true)).setCell ⟨wb.heap.size,5,none⟩ (.int .i64 (R:Int))).setCell ⟨wb.heap.size,6,none⟩ (.int .i64 (R:Int))).setCell ⟨wb.heap.size,7,none⟩ (.slice a1 n1 c1)).setCell ⟨wb.heap.size,8,none⟩ (.slice a2 n2 c2)).setCell ⟨wb.heap.size,9,none⟩ (.int .i64 (R:Int))).setCell ⟨wb.heap.size,10,none⟩ (.int .i64 (R:Int))).setCell ⟨wb.heap.size,11,none⟩ (.slice a1 n1 c1)).setCell ⟨wb.heap.size,12,none⟩ (.slice a2 n2 c2)) = wf at *
 refine bodyPost_ret (by simp [results,Tryz.results34,go_sem,t0,t1,t2,t3,t4,t5,t6,t7,t8,t9,t10,t11,t12]; try rfl) rfl ?_
 exact ⟨rfl,(Uh HB5).trans (cc.below (Uh HB5).size (fun j hj e => by have:=Uh HWB; omega))⟩
set_option maxRecDepth 100000 in
set_option maxHeartbeats 16000000 in
theorem ctask_none (R:Nat) (a1 a2:Option Addr) (n1 c1 n2 c2:Nat) (st cols:List Int) (w:World) (h1:SlI w a1 n1 c1 st) (h2:SlI w a2 n2 c2 cols) (hb1:n1 ≤ 17592186044000) (hb2:n2 ≤ 17592186044000) (hm:MayP (R:Int) (R:Int) st cols) :
  Calls Tryz.prog 34 #[.int .i64 0,patV (R:Int) (R:Int) a1 n1 c1 a2 n2 c2] w fun e w' => e = .returned (.tuple #[.agg #[Value.nilFunc,Value.nilFunc,Value.nilFunc,Value.nilFunc,(.bool false),(.int .i64 0),(.int .i64 0),(.slice none 0 0),(.slice none 0 0),(.int .i64 0),(.int .i64 0),(.slice none 0 0),(.slice none 0 0)],.int .i64 242]) ∧ Below w.heap.size w w':=by
 obtain ⟨wb,hwb⟩:∃ x,w.alloc (.cells #[.int .i64 (R:Int),.int .i64 (R:Int),.slice a1 n1 c1,.slice a2 n2 c2] 25) = x:=⟨_,rfl⟩
 have bb:Below w.heap.size w wb:=by rw [← hwb]; exact bAl
 have hT:=BoxP.made w #[.int .i64 (R:Int),.int .i64 (R:Int),.slice a1 n1 c1,.slice a2 n2 c2] 25
 rw [hwb] at hT
 have hO0:=BoxP.made wb #[Value.nilFunc,Value.nilFunc,Value.nilFunc,Value.nilFunc,.bool false,.int .i64 0,.int .i64 0,.slice none 0 0,.slice none 0 0,.int .i64 0,.int .i64 0,.slice none 0 0,.slice none 0 0] 80
 obtain ⟨wo,hwo⟩:∃ x,wb.alloc (.cells #[Value.nilFunc,Value.nilFunc,Value.nilFunc,Value.nilFunc,.bool false,.int .i64 0,.int .i64 0,.slice none 0 0,.slice none 0 0,.int .i64 0,.int .i64 0,.slice none 0 0,.slice none 0 0] 80) = x:=⟨_,rfl⟩
 have bo:Below wb.heap.size wb wo:=by rw [← hwo]; exact bAl
 rw [hwo] at hO0
 have hT1:=hT.below bo
 have p0:=(hT1.all 0 _ rfl).1
 have p1:=(hT1.all 1 _ rfl).1
 have p2:=(hT1.all 2 _ rfl).1
 have p3:=(hT1.all 3 _ rfl).1
 have bw:=bb.trans (bo.mono bb.size)
 have KM:=Hj (smay_any (R:Int) (R:Int) a1 a2 n1 c1 n2 c2 st cols wo (h1.below bw) (h2.below bw) (by omega) (by omega))
 unfold patV at KM
 have HT:=Hj hT1
 have HO:=Hj hO0
 have HB:=Hj bw
 have HWB:=Hj bb.size
 have HS:=Hj (And.intro h1 h2)
 have HM:=Hj hm
 have HTQ:=Hj (show TruQ true (MayP (R:Int) (R:Int) st cols) from ⟨fun _ => hm,fun _ => rfl⟩)
 clear hT hT1 hO0 bb bo bw h1 h2 hm
 unfold patV
 go_enter Tryz.func34,Tryz.ntmps34
 go_wp2_with fail
 refine (Uh KM).mono ?_
 intro e w2 hq
 obtain ⟨rfl,b2⟩:=hq.known (Uh HTQ)
 have hT2:=(Uh HT).below b2
 have HT2:=Hj hT2
 have HO2:=Hj ((Uh HO).below b2)
 have HB2:=Hj ((Uh HB).trans (b2.mono (Uh HB).size))
 clear hq KM b2 hT2 p0 p1 p2 p3
 go_wp2_with fail
 refine (crules_none w2).mono ?_
 rintro _ w3 ⟨rfl,b3⟩
 try dsimp only
 repeat ((fail_if_success (with_reducible (show Code.wp _ (Code.seq (Code.seq _ _) _) _ _ (World.alloc w3 (Obj.cells #[_,_,_,_,.bool false] _))))); (first | go_values | go_skip | go_guarded | go_step | go_upon | go_back))
 have br:Below w3.heap.size w3 (w3.alloc (.cells #[Value.nilFunc,Value.nilFunc,Value.nilFunc,Value.nilFunc,(.bool false)] 78)):=bAl
 have hO5:=((Uh HO2).below b3).below br
 have HB5:=Hj (((Uh HB2).trans (b3.mono (Uh HB2).size)).trans (br.mono (Nat.le_trans (Uh HB2).size b3.size)))
 clear b3 br
 generalize w3.alloc (.cells #[Value.nilFunc,Value.nilFunc,Value.nilFunc,Value.nilFunc,(.bool false)] 78) = wg at *
 have o0:=(hO5.all 0 _ rfl).1
 have r0:=(hO5.all 0 _ rfl).2
 have o1:=(hO5.all 1 _ rfl).1
 have r1:=(hO5.all 1 _ rfl).2
 have o2:=(hO5.all 2 _ rfl).1
 have r2:=(hO5.all 2 _ rfl).2
 have o3:=(hO5.all 3 _ rfl).1
 have r3:=(hO5.all 3 _ rfl).2
 have o4:=(hO5.all 4 _ rfl).1
 have r4:=(hO5.all 4 _ rfl).2
 have o5:=(hO5.all 5 _ rfl).1
 have r5:=(hO5.all 5 _ rfl).2
 have o6:=(hO5.all 6 _ rfl).1
 have r6:=(hO5.all 6 _ rfl).2
 have o7:=(hO5.all 7 _ rfl).1
 have r7:=(hO5.all 7 _ rfl).2
 have o8:=(hO5.all 8 _ rfl).1
 have r8:=(hO5.all 8 _ rfl).2
 have o9:=(hO5.all 9 _ rfl).1
 have r9:=(hO5.all 9 _ rfl).2
 have o10:=(hO5.all 10 _ rfl).1
 have r10:=(hO5.all 10 _ rfl).2
 have o11:=(hO5.all 11 _ rfl).1
 have r11:=(hO5.all 11 _ rfl).2
 have o12:=(hO5.all 12 _ rfl).1
 have r12:=(hO5.all 12 _ rfl).2
 have HO5:=Hj hO5
 clear hO5
 go_wp2_with fail
 have hf:=((((((((((((((Uh HO5).put 0 Value.nilFunc).put 1 Value.nilFunc).put 2 Value.nilFunc).put 3 Value.nilFunc).put 4 (.bool false)).put 5 (.int .i64 0)).put 6 (.int .i64 0)).put 7 (.slice none 0 0)).put 8 (.slice none 0 0)).put 9 (.int .i64 0)).put 10 (.int .i64 0)).put 11 (.slice none 0 0)).put 12 (.slice none 0 0))
 have t0:=(hf.all 0 _ rfl).1
 have t1:=(hf.all 1 _ rfl).1
 have t2:=(hf.all 2 _ rfl).1
 have t3:=(hf.all 3 _ rfl).1
 have t4:=(hf.all 4 _ rfl).1
 have t5:=(hf.all 5 _ rfl).1
 have t6:=(hf.all 6 _ rfl).1
 have t7:=(hf.all 7 _ rfl).1
 have t8:=(hf.all 8 _ rfl).1
 have t9:=(hf.all 9 _ rfl).1
 have t10:=(hf.all 10 _ rfl).1
 have t11:=(hf.all 11 _ rfl).1
 have t12:=(hf.all 12 _ rfl).1
 have cc:Chg (fun j => j = wb.heap.size) wg (((((((((((((wg.setCell ⟨wb.heap.size,0,none⟩ Value.nilFunc).setCell ⟨wb.heap.size,1,none⟩ Value.nilFunc).setCell ⟨wb.heap.size,2,none⟩ Value.nilFunc).setCell ⟨wb.heap.size,3,none⟩ Value.nilFunc).setCell ⟨wb.heap.size,4,none⟩ (.bool false)).setCell ⟨wb.heap.size,5,none⟩ (.int .i64 0)).setCell ⟨wb.heap.size,6,none⟩ (.int .i64 0)).setCell ⟨wb.heap.size,7,none⟩ (.slice none 0 0)).setCell ⟨wb.heap.size,8,none⟩ (.slice none 0 0)).setCell ⟨wb.heap.size,9,none⟩ (.int .i64 0)).setCell ⟨wb.heap.size,10,none⟩ (.int .i64 0)).setCell ⟨wb.heap.size,11,none⟩ (.slice none 0 0)).setCell ⟨wb.heap.size,12,none⟩ (.slice none 0 0)):=(((((((((((((Chg.of_set (S:=fun j => j = wb.heap.size) _ _ _ _ rfl).trans (Chg.of_set (S:=fun j => j = wb.heap.size) _ _ _ _ rfl)).trans (Chg.of_set (S:=fun j => j = wb.heap.size) _ _ _ _ rfl)).trans (Chg.of_set (S:=fun j => j = wb.heap.size) _ _ _ _ rfl)).trans (Chg.of_set (S:=fun j => j = wb.heap.size) _ _ _ _ rfl)).trans (Chg.of_set (S:=fun j => j = wb.heap.size) _ _ _ _ rfl)).trans (Chg.of_set (S:=fun j => j = wb.heap.size) _ _ _ _ rfl)).trans (Chg.of_set (S:=fun j => j = wb.heap.size) _ _ _ _ rfl)).trans (Chg.of_set (S:=fun j => j = wb.heap.size) _ _ _ _ rfl)).trans (Chg.of_set (S:=fun j => j = wb.heap.size) _ _ _ _ rfl)).trans (Chg.of_set (S:=fun j => j = wb.heap.size) _ _ _ _ rfl)).trans (Chg.of_set (S:=fun j => j = wb.heap.size) _ _ _ _ rfl)).trans (Chg.of_set (S:=fun j => j = wb.heap.size) _ _ _ _ rfl))
 generalize (((((((((((((wg.setCell ⟨wb.heap.size,0,none⟩ Value.nilFunc).setCell ⟨wb.heap.size,1,none⟩ Value.nilFunc).setCell ⟨wb.heap.size,2,none⟩ Value.nilFunc).setCell ⟨wb.heap.size,3,none⟩ Value.nilFunc).setCell ⟨wb.heap.size,4,none⟩ (.bool false)).setCell ⟨wb.heap.size,5,none⟩ (.int .i64 0)).setCell ⟨wb.heap.size,6,none⟩ (.int .i64 0)).setCell ⟨wb.heap.size,7,none⟩ (.slice none 0 0)).setCell ⟨wb.heap.size,8,none⟩ (.slice none 0 0)).setCell ⟨wb.heap.size,9,none⟩ (.int .i64 0)).setCell ⟨wb.heap.size,10,none⟩ (.int .i64 0)).setCell ⟨wb.heap.size,11,none⟩ (.slice none 0 0)).setCell ⟨wb.heap.size,12,none⟩ (.slice none 0 0)) = wf at *
 refine bodyPost_ret (by simp [results,Tryz.results34,go_sem,t0,t1,t2,t3,t4,t5,t6,t7,t8,t9,t10,t11,t12]; try rfl) rfl ?_
 exact ⟨rfl,(Uh HB5).trans (cc.below (Uh HB5).size (fun j hj e => by have:=Uh HWB; omega))⟩
structure GreA (w w':World) (e:Ending) (R:Nat) (st cols xs:List Int) (g:Nat) (cs:Nat → Int) (z:Nat):Prop where
 ret:e = .returned (.tuple #[.slice (some ⟨g,0,none⟩) R R,.int .i64 (z:Int),.int .i64 0])
 pnt:PntI st cols xs R cs
 num:NumC (csL cs R) (z:Int)
 row:RoV w' g R (fun i => .int .i64 (cs i))
 new:w.heap.size ≤ g
 bel:Below w.heap.size w w'
set_option maxRecDepth 100000 in
set_option maxHeartbeats 16000000 in
theorem cgreedy_star (R:Nat) (a1 a2 a:Option Addr) (n1 c1 n2 c2 c:Nat) (st cols xs:List Int) (w:World) (h1:SlI w a1 n1 c1 st) (h2:SlI w a2 n2 c2 cols) (h3:SlI w a R c xs) (hb1:n1 ≤ 17592186044000) (hb2:n2 ≤ 17592186044000) (hm:MayP (R:Int) (R:Int) st cols) (hg:GraP st cols R R) (ho:OrdTo xs R R) :
  Calls Tryz.prog 18 #[.int .i64 4,patV (R:Int) (R:Int) a1 n1 c1 a2 n2 c2,.slice a R c] w fun e w' => ∃ g cs z,GreA w w' e R st cols xs g cs z:=by
 obtain ⟨wb,hwb⟩:∃ x,w.alloc (.cells #[.int .i64 (R:Int),.int .i64 (R:Int),.slice a1 n1 c1,.slice a2 n2 c2] 25) = x:=⟨_,rfl⟩
 have bb:Below w.heap.size w wb:=by rw [← hwb]; exact bAl
 have hT:=BoxP.made w #[.int .i64 (R:Int),.int .i64 (R:Int),.slice a1 n1 c1,.slice a2 n2 c2] 25
 rw [hwb] at hT
 have p0:=(hT.all 0 _ rfl).1
 have p1:=(hT.all 1 _ rfl).1
 have p2:=(hT.all 2 _ rfl).1
 have p3:=(hT.all 3 _ rfl).1
 have hR8:R ≤ 128:=by have:=hm.head.fit; omega
 have KT:=Hj (ctask_star R a1 a2 n1 c1 n2 c2 st cols wb (h1.below bb) (h2.below bb) hb1 hb2 hm hg)
 unfold patV at KT
 have HB:=Hj bb
 have HS:=Hj (And.intro h1 (And.intro h2 h3))
 have HM:=Hj hm
 have HOR:=Hj ho
 clear hT bb h1 h2 h3 hm hg ho
 unfold patV
 go_enter Tryz.func18,Tryz.ntmps18
 go_wp2_with fail
 refine (Uh KT).mono ?_
 rintro _ w2 ⟨rfl,b2⟩
 clear p0 p1 p2 p3 KT
 try dsimp only
 repeat ((fail_if_success (with_reducible (show Code.wp _ _ _ _ (World.alloc w2 (Obj.cells #[_,_,_,_,_,_,_,_,_,_,_,_,.slice a2 n2 c2] _))))); (first | go_values | go_skip | go_guarded | go_step | go_upon | go_back))
 have hR:=BoxP.made w2 #[(.func (.func 49) #[] #[]),(.func (.func 101) #[] #[]),(.func (.func 102) #[] #[]),(.func (.func 94) #[] #[]),(.bool true),.int .i64 (R:Int),.int .i64 (R:Int),.slice a1 n1 c1,.slice a2 n2 c2,.int .i64 (R:Int),.int .i64 (R:Int),.slice a1 n1 c1,.slice a2 n2 c2] 80
 have br:Below w2.heap.size w2 (w2.alloc (.cells #[(.func (.func 49) #[] #[]),(.func (.func 101) #[] #[]),(.func (.func 102) #[] #[]),(.func (.func 94) #[] #[]),(.bool true),.int .i64 (R:Int),.int .i64 (R:Int),.slice a1 n1 c1,.slice a2 n2 c2,.int .i64 (R:Int),.int .i64 (R:Int),.slice a1 n1 c1,.slice a2 n2 c2] 80)):=bAl
 have hb3:=((Uh HB).trans (b2.mono (Uh HB).size)).trans (br.mono (Nat.le_trans (Uh HB).size b2.size))
 clear b2 br
 generalize w2.alloc (.cells #[(.func (.func 49) #[] #[]),(.func (.func 101) #[] #[]),(.func (.func 102) #[] #[]),(.func (.func 94) #[] #[]),(.bool true),.int .i64 (R:Int),.int .i64 (R:Int),.slice a1 n1 c1,.slice a2 n2 c2,.int .i64 (R:Int),.int .i64 (R:Int),.slice a1 n1 c1,.slice a2 n2 c2] 80) = w3 at *
 have KO:=Hj (cisOrder_any a R c xs R w3 ((Uh HS).2.2.below hb3) (by omega) hR8 true ⟨fun _ => ⟨(Uh HS).2.2.len,Uh HOR⟩,fun _ => rfl⟩)
 have s0:=(hR.all 0 _ rfl).1
 have s1:=(hR.all 1 _ rfl).1
 have s2:=(hR.all 2 _ rfl).1
 have s3:=(hR.all 3 _ rfl).1
 have s4:=(hR.all 4 _ rfl).1
 have s5:=(hR.all 5 _ rfl).1
 have s6:=(hR.all 6 _ rfl).1
 have s7:=(hR.all 7 _ rfl).1
 have s8:=(hR.all 8 _ rfl).1
 have s9:=(hR.all 9 _ rfl).1
 have s10:=(hR.all 10 _ rfl).1
 have s11:=(hR.all 11 _ rfl).1
 have s12:=(hR.all 12 _ rfl).1
 have HB3:=Hj hb3
 have HR:=Hj hR
 clear hR hb3
 go_wp2_with fail
 refine (Uh KO).mono ?_
 rintro _ w4 ⟨rfl,b4⟩
 have hR4:=(Uh HR).below b4
 have hb4:=(Uh HB3).trans (b4.mono (Uh HB3).size)
 clear KO b4 s0 s1 s2 s3 s4 s5 s6 s7 s8 s9 s10 s11 s12
 have s0:=(hR4.all 0 _ rfl).1
 have s1:=(hR4.all 1 _ rfl).1
 have s2:=(hR4.all 2 _ rfl).1
 have s3:=(hR4.all 3 _ rfl).1
 have s4:=(hR4.all 4 _ rfl).1
 have s5:=(hR4.all 5 _ rfl).1
 have s6:=(hR4.all 6 _ rfl).1
 have s7:=(hR4.all 7 _ rfl).1
 have s8:=(hR4.all 8 _ rfl).1
 have s9:=(hR4.all 9 _ rfl).1
 have s10:=(hR4.all 10 _ rfl).1
 have s11:=(hR4.all 11 _ rfl).1
 have s12:=(hR4.all 12 _ rfl).1
 have HB4:=Hj hb4
 clear hR4 hb4
 go_wp2_with fail
 refine (cnewBrush_any _ _ _ _ true R R a1 a2 a1 a2 n1 c1 n2 c2 n1 c1 n2 c2 w4 hR8).mono ?_
 rintro _ w5 ⟨X,g,h,rfl,hX,hg5,hh5,hlt5,b5⟩
 have hs1:=(Uh HS).1.below (Uh HB4)
 have hs2:=(Uh HS).2.1.below (Uh HB4)
 have hs3:=(Uh HS).2.2.below (Uh HB4)
 have hBr:BrI w5 X R _ a1 n1 c1 a2 n2 c2 g h 1 (fun _ => -1) (fun _ => 0) st cols:=⟨hX,rfl,rfl,rfl,rfl,rfl,rfl,rfl,hg5,hh5,hs1.below b5,hs2.below b5,fun z hz hne => by have:=hs1.block_lt hne z hz; omega,fun z hz hne => by have:=hs2.block_lt hne z hz; omega,by omega⟩
 have KP:=Hj (cpaint_star X R _ a1 n1 c1 a2 n2 c2 g h (fun _ => 0) st cols a R c xs w5 hBr (Uh HM) hb1 hb2 (fun j _ => by omega) rfl (hs3.below b5) (Nat.le_refl _) (Uh HOR).rng (fun z hz hne => by have:=hs3.block_lt hne z hz; omega))
 have HB5:=Hj ((Uh HB4).trans (b5.mono (Uh HB4).size))
 have HLT:=Hj (And.intro (Uh HB4).size hlt5)
 clear hX hg5 hh5 hlt5 b5 hs1 hs2 hs3 hBr s0 s1 s2 s3 s4 s5 s6 s7 s8 s9 s10 s11 s12
 go_wp2_with fail
 refine (Uh KP).mono ?_
 rintro _ w6 ⟨cs,hP⟩
 have e6:=hP.ret
 subst e6
 have hrg:=PntI.rng (Uh HM) (Uh HOR).rng (Nat.le_refl _) hP.pnt
 have KN:=Hj (cnumber_any (some ⟨g,0,none⟩) R R (csL cs R) w6 (hP.row.sli hR8) hR8 (fun i hi => by rw [csL_get hi]; have:=hrg i; omega) (fun e => by cases e))
 have HP:=Hj hP
 have HRG:=Hj hrg
 clear KP hP hrg
 go_wp2_with fail
 refine (Uh KN).mono ?_
 rintro _ w7 ⟨zi,rfl,hN,b7⟩
 obtain ⟨hz0,hzk,_⟩:=numC_rng hN (fun i _ => Uh HRG i)
 obtain ⟨z,rfl⟩:∃ z:Nat,zi = (z:Int):=⟨zi.toNat,by omega⟩
 have HA:=Hj (show GreA w w7 (.returned (.tuple #[.slice (some ⟨g,0,none⟩) R R,.int .i64 (z:Int),.int .i64 0])) R st cols xs g cs z from
  ⟨rfl,(Uh HP).pnt,hN,(Uh HP).row.below b7,by have:=Uh HLT; omega,(Uh HB5).trans (((Uh HP).chg.below (Uh HB5).size (fun j hj e => by have:=Uh HLT; omega)).trans (b7.mono (Nat.le_trans (Uh HB5).size (Uh HP).chg.size)))⟩)
 clear KN hN b7 hz0 hzk
 go_wp2_with fail
 refine bodyPost_ret (by simp [results,Tryz.results18,go_sem]; try rfl) rfl ?_
 exact ⟨g,cs,z,Uh HA⟩
set_option maxRecDepth 100000 in
set_option maxHeartbeats 16000000 in
theorem cgreedy_none (R:Nat) (a1 a2 a:Option Addr) (n1 c1 n2 c2 n c:Nat) (st cols:List Int) (w:World) (h1:SlI w a1 n1 c1 st) (h2:SlI w a2 n2 c2 cols) (hb1:n1 ≤ 17592186044000) (hb2:n2 ≤ 17592186044000) (hm:MayP (R:Int) (R:Int) st cols) :
  Calls Tryz.prog 18 #[.int .i64 0,patV (R:Int) (R:Int) a1 n1 c1 a2 n2 c2,.slice a n c] w fun e w' => e = .returned (.tuple #[.slice none 0 0,.int .i64 0,.int .i64 242]) ∧ Below w.heap.size w w':=by
 obtain ⟨wb,hwb⟩:∃ x,w.alloc (.cells #[.int .i64 (R:Int),.int .i64 (R:Int),.slice a1 n1 c1,.slice a2 n2 c2] 25) = x:=⟨_,rfl⟩
 have bb:Below w.heap.size w wb:=by rw [← hwb]; exact bAl
 have hT:=BoxP.made w #[.int .i64 (R:Int),.int .i64 (R:Int),.slice a1 n1 c1,.slice a2 n2 c2] 25
 rw [hwb] at hT
 have p0:=(hT.all 0 _ rfl).1
 have p1:=(hT.all 1 _ rfl).1
 have p2:=(hT.all 2 _ rfl).1
 have p3:=(hT.all 3 _ rfl).1
 have hR8:R ≤ 128:=by have:=hm.head.fit; omega
 have KT:=Hj (ctask_none R a1 a2 n1 c1 n2 c2 st cols wb (h1.below bb) (h2.below bb) hb1 hb2 hm)
 unfold patV at KT
 have HB:=Hj bb
 clear hT bb h1 h2 hm hR8
 unfold patV
 go_enter Tryz.func18,Tryz.ntmps18
 go_wp2_with fail
 refine (Uh KT).mono ?_
 rintro _ w2 ⟨rfl,b2⟩
 clear p0 p1 p2 p3 KT
 try dsimp only
 have HB2:=Hj ((Uh HB).trans (b2.mono (Uh HB).size))
 clear b2
 go_wp2_with fail
 refine bodyPost_ret (by simp [results,Tryz.results18,go_sem]; try rfl) rfl ?_
 exact ⟨rfl,(Uh HB2).alloc (Uh HB2).size _⟩
end Go.Proofs.YtgjokididdffhaaGreat
