/- Ci2 -/
import Derived.Test.YtgjokididdffhaaGreatCi1
import Derived.Test.YtgjokididdffhaaGreatCgd
namespace Go.Proofs.YtgjokididdffhaaGreat
open Go.RowKit Go.Deep
set_option linter.unusedVariables false
def GtP (B:Nat) (w w':World) (e:Ending) (m:Nat) (S C:List Int):Prop:=∃ x d y z,e = .returned (.tuple #[.agg #[.int .i64 (m:Int),.int .i64 (m:Int),.slice x S.length d,.slice y C.length z],.int .i64 0]) ∧ SlI w' x S.length d S ∧ SlI w' y C.length z C ∧ Below w.heap.size w w' ∧ (∀ t,x = some t → S ≠ [] → t.block < B ∨ w.heap.size ≤ t.block) ∧ (∀ t,y = some t → C ≠ [] → t.block < B ∨ w.heap.size ≤ t.block)
def tkV (G G1 G2 G3:Nat) (wd:Bool) (R width:Nat) (a1:Option Addr) (n1 c1:Nat) (a2:Option Addr) (n2 c2 m:Nat) (x:Option Addr) (sl d:Nat) (y:Option Addr) (cl z:Nat):Value:=.agg #[(.func (.func G) #[] #[]),(.func (.func G1) #[] #[]),(.func (.func G2) #[] #[]),(.func (.func G3) #[] #[]),(.bool wd),.int .i64 (R:Int),.int .i64 (width:Int),.slice a1 n1 c1,.slice a2 n2 c2,.int .i64 (m:Int),.int .i64 (m:Int),.slice x sl d,.slice y cl z]
def TkP (w w':World) (e:Ending) (G G1 G2 G3:Nat) (wd:Bool) (R width:Nat) (a1:Option Addr) (n1 c1:Nat) (a2:Option Addr) (n2 c2 m:Nat) (S C:List Int):Prop:=∃ x d y z,e = .returned (.tuple #[tkV G G1 G2 G3 wd R width a1 n1 c1 a2 n2 c2 m x S.length d y C.length z,.int .i64 0]) ∧ SlI w' x S.length d S ∧ SlI w' y C.length z C ∧ Below w.heap.size w w'
def tkZ:Value:=.agg #[Value.nilFunc,Value.nilFunc,Value.nilFunc,Value.nilFunc,(.bool false),(.int .i64 0),(.int .i64 0),(.slice none 0 0),(.slice none 0 0),(.int .i64 0),(.int .i64 0),(.slice none 0 0),(.slice none 0 0)]
def TkN (w w':World) (e:Ending) (er:Int):Prop:=e = .returned (.tuple #[tkZ,.int .i64 er]) ∧ Below w.heap.size w w'
set_option maxRecDepth 100000 in
set_option maxHeartbeats 16000000 in
theorem ctask_pat (k rows width:Int) (a1 a2:Option Addr) (n1 c1 n2 c2:Nat) (st cols:List Int) (w:World) (h1:SlI w a1 n1 c1 st) (h2:SlI w a2 n2 c2 cols) (hb1:n1 ≤ 17592186044000) (hb2:n2 ≤ 17592186044000) (hm:¬ MayP rows width st cols) :
  Calls Tryz.prog 34 #[.int .i64 k,patV rows width a1 n1 c1 a2 n2 c2] w fun e w' => TkN w w' e 180:=by
 obtain ⟨wb,hwb⟩:∃ x,w.alloc (.cells #[.int .i64 rows,.int .i64 width,.slice a1 n1 c1,.slice a2 n2 c2] 25) = x:=⟨_,rfl⟩
 have bb:Below w.heap.size w wb:=by rw [← hwb]; exact bAl
 have hT:=BoxP.made w #[.int .i64 rows,.int .i64 width,.slice a1 n1 c1,.slice a2 n2 c2] 25
 rw [hwb] at hT
 have hO0:=BoxP.made wb #[Value.nilFunc,Value.nilFunc,Value.nilFunc,Value.nilFunc,(.bool false),(.int .i64 0),(.int .i64 0),(.slice none 0 0),(.slice none 0 0),(.int .i64 0),(.int .i64 0),(.slice none 0 0),(.slice none 0 0)] 80
 obtain ⟨wo,hwo⟩:∃ x,wb.alloc (.cells #[Value.nilFunc,Value.nilFunc,Value.nilFunc,Value.nilFunc,(.bool false),(.int .i64 0),(.int .i64 0),(.slice none 0 0),(.slice none 0 0),(.int .i64 0),(.int .i64 0),(.slice none 0 0),(.slice none 0 0)] 80) = x:=⟨_,rfl⟩
 have bo:Below wb.heap.size wb wo:=by rw [← hwo]; exact bAl
 rw [hwo] at hO0
 have hT1:=hT.below bo
 have p0:=(hT1.all 0 _ rfl).1
 have p1:=(hT1.all 1 _ rfl).1
 have p2:=(hT1.all 2 _ rfl).1
 have p3:=(hT1.all 3 _ rfl).1
 have bw:=bb.trans (bo.mono bb.size)
 have KM:=Hj (smay_any rows width a1 a2 n1 c1 n2 c2 st cols wo (h1.below bw) (h2.below bw) (by omega) (by omega))
 unfold patV at KM
 have HT:=Hj hT1
 have HO:=Hj hO0
 have HB:=Hj bw
 have HWB:=Hj bb.size
 have HS:=Hj (And.intro h1 h2)
 have HTQ:=Hj (show TruQ false (MayP rows width st cols) from ⟨fun e => absurd e (by decide),fun h => absurd h hm⟩)
 clear hT hT1 hO0 bb bo bw h1 h2 hm
 unfold patV
 go_enter Tryz.func34,Tryz.ntmps34
 go_wp2_with fail
 refine (Uh KM).mono ?_
 intro e w2 hq
 obtain ⟨rfl,b2⟩:=hq.known (Uh HTQ)
 have hT2:=(Uh HT).below b2
 have HT2:=Hj hT2
 have HO2:=Hj ((Uh HO).below b2)
 have HB2:=Hj ((Uh HB).trans (b2.mono (Uh HB).size))
 have HB5:=Hj ((Uh HB).trans (b2.mono (Uh HB).size))
 clear hq KM b2 hT2 p0 p1 p2 p3
 have o0:=((Uh HO2).all 0 _ rfl).1
 have r0:=((Uh HO2).all 0 _ rfl).2
 have o1:=((Uh HO2).all 1 _ rfl).1
 have r1:=((Uh HO2).all 1 _ rfl).2
 have o2:=((Uh HO2).all 2 _ rfl).1
 have r2:=((Uh HO2).all 2 _ rfl).2
 have o3:=((Uh HO2).all 3 _ rfl).1
 have r3:=((Uh HO2).all 3 _ rfl).2
 have o4:=((Uh HO2).all 4 _ rfl).1
 have r4:=((Uh HO2).all 4 _ rfl).2
 have o5:=((Uh HO2).all 5 _ rfl).1
 have r5:=((Uh HO2).all 5 _ rfl).2
 have o6:=((Uh HO2).all 6 _ rfl).1
 have r6:=((Uh HO2).all 6 _ rfl).2
 have o7:=((Uh HO2).all 7 _ rfl).1
 have r7:=((Uh HO2).all 7 _ rfl).2
 have o8:=((Uh HO2).all 8 _ rfl).1
 have r8:=((Uh HO2).all 8 _ rfl).2
 have o9:=((Uh HO2).all 9 _ rfl).1
 have r9:=((Uh HO2).all 9 _ rfl).2
 have o10:=((Uh HO2).all 10 _ rfl).1
 have r10:=((Uh HO2).all 10 _ rfl).2
 have o11:=((Uh HO2).all 11 _ rfl).1
 have r11:=((Uh HO2).all 11 _ rfl).2
 have o12:=((Uh HO2).all 12 _ rfl).1
 have r12:=((Uh HO2).all 12 _ rfl).2
 go_wp2_with fail
 have hf:=((((((((((((((Uh HO2).put 0 (Value.nilFunc)).put 1 (Value.nilFunc)).put 2 (Value.nilFunc)).put 3 (Value.nilFunc)).put 4 ((.bool false))).put 5 ((.int .i64 0))).put 6 ((.int .i64 0))).put 7 ((.slice none 0 0))).put 8 ((.slice none 0 0))).put 9 ((.int .i64 0))).put 10 ((.int .i64 0))).put 11 ((.slice none 0 0))).put 12 ((.slice none 0 0)))
 have t0:=(hf.all 0 _ rfl).1
 have t1:=(hf.all 1 _ rfl).1
 have t2:=(hf.all 2 _ rfl).1
 have t3:=(hf.all 3 _ rfl).1
 have t4:=(hf.all 4 _ rfl).1
 have t5:=(hf.all 5 _ rfl).1
 have t6:=(hf.all 6 _ rfl).1
 have t7:=(hf.all 7 _ rfl).1
 have t8:=(hf.all 8 _ rfl).1
 have t9:=(hf.all 9 _ rfl).1
 have t10:=(hf.all 10 _ rfl).1
 have t11:=(hf.all 11 _ rfl).1
 have t12:=(hf.all 12 _ rfl).1
 have cc:Chg (fun j => j = wb.heap.size) w2 (((((((((((((w2.setCell ⟨wb.heap.size,0,none⟩ (Value.nilFunc)).setCell ⟨wb.heap.size,1,none⟩ (Value.nilFunc)).setCell ⟨wb.heap.size,2,none⟩ (Value.nilFunc)).setCell ⟨wb.heap.size,3,none⟩ (Value.nilFunc)).setCell ⟨wb.heap.size,4,none⟩ ((.bool false))).setCell ⟨wb.heap.size,5,none⟩ ((.int .i64 0))).setCell ⟨wb.heap.size,6,none⟩ ((.int .i64 0))).setCell ⟨wb.heap.size,7,none⟩ ((.slice none 0 0))).setCell ⟨wb.heap.size,8,none⟩ ((.slice none 0 0))).setCell ⟨wb.heap.size,9,none⟩ ((.int .i64 0))).setCell ⟨wb.heap.size,10,none⟩ ((.int .i64 0))).setCell ⟨wb.heap.size,11,none⟩ ((.slice none 0 0))).setCell ⟨wb.heap.size,12,none⟩ ((.slice none 0 0))):=(((((((((((((Chg.of_set (S:=fun j => j = wb.heap.size) _ _ _ _ rfl).trans (Chg.of_set (S:=fun j => j = wb.heap.size) _ _ _ _ rfl)).trans (Chg.of_set (S:=fun j => j = wb.heap.size) _ _ _ _ rfl)).trans (Chg.of_set (S:=fun j => j = wb.heap.size) _ _ _ _ rfl)).trans (Chg.of_set (S:=fun j => j = wb.heap.size) _ _ _ _ rfl)).trans (Chg.of_set (S:=fun j => j = wb.heap.size) _ _ _ _ rfl)).trans (Chg.of_set (S:=fun j => j = wb.heap.size) _ _ _ _ rfl)).trans (Chg.of_set (S:=fun j => j = wb.heap.size) _ _ _ _ rfl)).trans (Chg.of_set (S:=fun j => j = wb.heap.size) _ _ _ _ rfl)).trans (Chg.of_set (S:=fun j => j = wb.heap.size) _ _ _ _ rfl)).trans (Chg.of_set (S:=fun j => j = wb.heap.size) _ _ _ _ rfl)).trans (Chg.of_set (S:=fun j => j = wb.heap.size) _ _ _ _ rfl)).trans (Chg.of_set (S:=fun j => j = wb.heap.size) _ _ _ _ rfl))
 generalize (((((((((((((w2.setCell ⟨wb.heap.size,0,none⟩ (Value.nilFunc)).setCell ⟨wb.heap.size,1,none⟩ (Value.nilFunc)).setCell ⟨wb.heap.size,2,none⟩ (Value.nilFunc)).setCell ⟨wb.heap.size,3,none⟩ (Value.nilFunc)).setCell ⟨wb.heap.size,4,none⟩ ((.bool false))).setCell ⟨wb.heap.size,5,none⟩ ((.int .i64 0))).setCell ⟨wb.heap.size,6,none⟩ ((.int .i64 0))).setCell ⟨wb.heap.size,7,none⟩ ((.slice none 0 0))).setCell ⟨wb.heap.size,8,none⟩ ((.slice none 0 0))).setCell ⟨wb.heap.size,9,none⟩ ((.int .i64 0))).setCell ⟨wb.heap.size,10,none⟩ ((.int .i64 0))).setCell ⟨wb.heap.size,11,none⟩ ((.slice none 0 0))).setCell ⟨wb.heap.size,12,none⟩ ((.slice none 0 0))) = wf at *
 refine bodyPost_ret (by simp [results,Tryz.results34,go_sem,t0,t1,t2,t3,t4,t5,t6,t7,t8,t9,t10,t11,t12]; try rfl) rfl ?_
 exact ⟨rfl,(Uh HB5).trans (cc.below (Uh HB5).size (fun j hj e => by have:=Uh HWB; omega))⟩
set_option maxRecDepth 100000 in
set_option maxHeartbeats 16000000 in
theorem ctask_off (k:Int) (R width:Nat) (a1 a2:Option Addr) (n1 c1 n2 c2:Nat) (st cols:List Int) (w:World) (h1:SlI w a1 n1 c1 st) (h2:SlI w a2 n2 c2 cols) (hb1:n1 ≤ 17592186044000) (hb2:n2 ≤ 17592186044000) (hm:MayP (R:Int) (width:Int) st cols) (hR:∀ W,Calls Tryz.prog 63 #[.int .i64 k] W fun e w' => e = .returned (.tuple #[.agg #[Value.nilFunc,Value.nilFunc,Value.nilFunc,Value.nilFunc,(.bool false)],.bool false]) ∧ Below W.heap.size W w') :
  Calls Tryz.prog 34 #[.int .i64 k,patV (R:Int) (width:Int) a1 n1 c1 a2 n2 c2] w fun e w' => TkN w w' e 242:=by
 have HRU:=Hj hR
 clear hR
 obtain ⟨wb,hwb⟩:∃ x,w.alloc (.cells #[.int .i64 (R:Int),.int .i64 (width:Int),.slice a1 n1 c1,.slice a2 n2 c2] 25) = x:=⟨_,rfl⟩
 have bb:Below w.heap.size w wb:=by rw [← hwb]; exact bAl
 have hT:=BoxP.made w #[.int .i64 (R:Int),.int .i64 (width:Int),.slice a1 n1 c1,.slice a2 n2 c2] 25
 rw [hwb] at hT
 have hO0:=BoxP.made wb #[Value.nilFunc,Value.nilFunc,Value.nilFunc,Value.nilFunc,(.bool false),(.int .i64 0),(.int .i64 0),(.slice none 0 0),(.slice none 0 0),(.int .i64 0),(.int .i64 0),(.slice none 0 0),(.slice none 0 0)] 80
 obtain ⟨wo,hwo⟩:∃ x,wb.alloc (.cells #[Value.nilFunc,Value.nilFunc,Value.nilFunc,Value.nilFunc,(.bool false),(.int .i64 0),(.int .i64 0),(.slice none 0 0),(.slice none 0 0),(.int .i64 0),(.int .i64 0),(.slice none 0 0),(.slice none 0 0)] 80) = x:=⟨_,rfl⟩
 have bo:Below wb.heap.size wb wo:=by rw [← hwo]; exact bAl
 rw [hwo] at hO0
 have hT1:=hT.below bo
 have p0:=(hT1.all 0 _ rfl).1
 have p1:=(hT1.all 1 _ rfl).1
 have p2:=(hT1.all 2 _ rfl).1
 have p3:=(hT1.all 3 _ rfl).1
 have bw:=bb.trans (bo.mono bb.size)
 have KM:=Hj (smay_any (R:Int) (width:Int) a1 a2 n1 c1 n2 c2 st cols wo (h1.below bw) (h2.below bw) (by omega) (by omega))
 unfold patV at KM
 have HT:=Hj hT1
 have HO:=Hj hO0
 have HB:=Hj bw
 have HWB:=Hj bb.size
 have HS:=Hj (And.intro h1 h2)
 have HTQ:=Hj (show TruQ true (MayP (R:Int) (width:Int) st cols) from ⟨fun _ => hm,fun _ => rfl⟩)
 clear hT hT1 hO0 bb bo bw h1 h2 hm
 unfold patV
 go_enter Tryz.func34,Tryz.ntmps34
 go_wp2_with fail
 refine (Uh KM).mono ?_
 intro e w2 hq
 obtain ⟨rfl,b2⟩:=hq.known (Uh HTQ)
 have hT2:=(Uh HT).below b2
 have HT2:=Hj hT2
 have HO2:=Hj ((Uh HO).below b2)
 have HB2:=Hj ((Uh HB).trans (b2.mono (Uh HB).size))
 clear hq KM b2 hT2 p0 p1 p2 p3
 go_wp2_with fail
 refine (Uh HRU w2).mono ?_
 rintro _ w3 ⟨rfl,b3⟩
 try dsimp only
 repeat ((fail_if_success (with_reducible (show Code.wp _ (Code.seq (Code.seq _ _) _) _ _ (World.alloc w3 (Obj.cells #[_,_,_,_,(.bool false)] _))))); (first | go_values | go_skip | go_guarded | go_step | go_upon | go_back))
 have br:Below w3.heap.size w3 (w3.alloc (.cells #[Value.nilFunc,Value.nilFunc,Value.nilFunc,Value.nilFunc,(.bool false)] 78)):=bAl
 have HO5:=Hj (((Uh HO2).below b3).below br)
 have HB5:=Hj (((Uh HB2).trans (b3.mono (Uh HB2).size)).trans (br.mono (Nat.le_trans (Uh HB2).size b3.size)))
 clear b3 br
 generalize w3.alloc (.cells #[Value.nilFunc,Value.nilFunc,Value.nilFunc,Value.nilFunc,(.bool false)] 78) = wg at *
 have o0:=((Uh HO5).all 0 _ rfl).1
 have r0:=((Uh HO5).all 0 _ rfl).2
 have o1:=((Uh HO5).all 1 _ rfl).1
 have r1:=((Uh HO5).all 1 _ rfl).2
 have o2:=((Uh HO5).all 2 _ rfl).1
 have r2:=((Uh HO5).all 2 _ rfl).2
 have o3:=((Uh HO5).all 3 _ rfl).1
 have r3:=((Uh HO5).all 3 _ rfl).2
 have o4:=((Uh HO5).all 4 _ rfl).1
 have r4:=((Uh HO5).all 4 _ rfl).2
 have o5:=((Uh HO5).all 5 _ rfl).1
 have r5:=((Uh HO5).all 5 _ rfl).2
 have o6:=((Uh HO5).all 6 _ rfl).1
 have r6:=((Uh HO5).all 6 _ rfl).2
 have o7:=((Uh HO5).all 7 _ rfl).1
 have r7:=((Uh HO5).all 7 _ rfl).2
 have o8:=((Uh HO5).all 8 _ rfl).1
 have r8:=((Uh HO5).all 8 _ rfl).2
 have o9:=((Uh HO5).all 9 _ rfl).1
 have r9:=((Uh HO5).all 9 _ rfl).2
 have o10:=((Uh HO5).all 10 _ rfl).1
 have r10:=((Uh HO5).all 10 _ rfl).2
 have o11:=((Uh HO5).all 11 _ rfl).1
 have r11:=((Uh HO5).all 11 _ rfl).2
 have o12:=((Uh HO5).all 12 _ rfl).1
 have r12:=((Uh HO5).all 12 _ rfl).2
 go_wp2_with fail
 have hf:=((((((((((((((Uh HO5).put 0 (Value.nilFunc)).put 1 (Value.nilFunc)).put 2 (Value.nilFunc)).put 3 (Value.nilFunc)).put 4 ((.bool false))).put 5 ((.int .i64 0))).put 6 ((.int .i64 0))).put 7 ((.slice none 0 0))).put 8 ((.slice none 0 0))).put 9 ((.int .i64 0))).put 10 ((.int .i64 0))).put 11 ((.slice none 0 0))).put 12 ((.slice none 0 0)))
 have t0:=(hf.all 0 _ rfl).1
 have t1:=(hf.all 1 _ rfl).1
 have t2:=(hf.all 2 _ rfl).1
 have t3:=(hf.all 3 _ rfl).1
 have t4:=(hf.all 4 _ rfl).1
 have t5:=(hf.all 5 _ rfl).1
 have t6:=(hf.all 6 _ rfl).1
 have t7:=(hf.all 7 _ rfl).1
 have t8:=(hf.all 8 _ rfl).1
 have t9:=(hf.all 9 _ rfl).1
 have t10:=(hf.all 10 _ rfl).1
 have t11:=(hf.all 11 _ rfl).1
 have t12:=(hf.all 12 _ rfl).1
 have cc:Chg (fun j => j = wb.heap.size) wg (((((((((((((wg.setCell ⟨wb.heap.size,0,none⟩ (Value.nilFunc)).setCell ⟨wb.heap.size,1,none⟩ (Value.nilFunc)).setCell ⟨wb.heap.size,2,none⟩ (Value.nilFunc)).setCell ⟨wb.heap.size,3,none⟩ (Value.nilFunc)).setCell ⟨wb.heap.size,4,none⟩ ((.bool false))).setCell ⟨wb.heap.size,5,none⟩ ((.int .i64 0))).setCell ⟨wb.heap.size,6,none⟩ ((.int .i64 0))).setCell ⟨wb.heap.size,7,none⟩ ((.slice none 0 0))).setCell ⟨wb.heap.size,8,none⟩ ((.slice none 0 0))).setCell ⟨wb.heap.size,9,none⟩ ((.int .i64 0))).setCell ⟨wb.heap.size,10,none⟩ ((.int .i64 0))).setCell ⟨wb.heap.size,11,none⟩ ((.slice none 0 0))).setCell ⟨wb.heap.size,12,none⟩ ((.slice none 0 0))):=(((((((((((((Chg.of_set (S:=fun j => j = wb.heap.size) _ _ _ _ rfl).trans (Chg.of_set (S:=fun j => j = wb.heap.size) _ _ _ _ rfl)).trans (Chg.of_set (S:=fun j => j = wb.heap.size) _ _ _ _ rfl)).trans (Chg.of_set (S:=fun j => j = wb.heap.size) _ _ _ _ rfl)).trans (Chg.of_set (S:=fun j => j = wb.heap.size) _ _ _ _ rfl)).trans (Chg.of_set (S:=fun j => j = wb.heap.size) _ _ _ _ rfl)).trans (Chg.of_set (S:=fun j => j = wb.heap.size) _ _ _ _ rfl)).trans (Chg.of_set (S:=fun j => j = wb.heap.size) _ _ _ _ rfl)).trans (Chg.of_set (S:=fun j => j = wb.heap.size) _ _ _ _ rfl)).trans (Chg.of_set (S:=fun j => j = wb.heap.size) _ _ _ _ rfl)).trans (Chg.of_set (S:=fun j => j = wb.heap.size) _ _ _ _ rfl)).trans (Chg.of_set (S:=fun j => j = wb.heap.size) _ _ _ _ rfl)).trans (Chg.of_set (S:=fun j => j = wb.heap.size) _ _ _ _ rfl))
 generalize (((((((((((((wg.setCell ⟨wb.heap.size,0,none⟩ (Value.nilFunc)).setCell ⟨wb.heap.size,1,none⟩ (Value.nilFunc)).setCell ⟨wb.heap.size,2,none⟩ (Value.nilFunc)).setCell ⟨wb.heap.size,3,none⟩ (Value.nilFunc)).setCell ⟨wb.heap.size,4,none⟩ ((.bool false))).setCell ⟨wb.heap.size,5,none⟩ ((.int .i64 0))).setCell ⟨wb.heap.size,6,none⟩ ((.int .i64 0))).setCell ⟨wb.heap.size,7,none⟩ ((.slice none 0 0))).setCell ⟨wb.heap.size,8,none⟩ ((.slice none 0 0))).setCell ⟨wb.heap.size,9,none⟩ ((.int .i64 0))).setCell ⟨wb.heap.size,10,none⟩ ((.int .i64 0))).setCell ⟨wb.heap.size,11,none⟩ ((.slice none 0 0))).setCell ⟨wb.heap.size,12,none⟩ ((.slice none 0 0))) = wf at *
 refine bodyPost_ret (by simp [results,Tryz.results34,go_sem,t0,t1,t2,t3,t4,t5,t6,t7,t8,t9,t10,t11,t12]; try rfl) rfl ?_
 exact ⟨rfl,(Uh HB5).trans (cc.below (Uh HB5).size (fun j hj e => by have:=Uh HWB; omega))⟩
set_option maxRecDepth 100000 in
set_option maxHeartbeats 16000000 in
theorem ctask_ok_self (k:Int) (G1 G2 G3:Nat) (wd:Bool) (R width m:Nat) (S C:List Int) (a1 a2:Option Addr) (n1 c1 n2 c2:Nat) (st cols:List Int) (w:World) (h1:SlI w a1 n1 c1 st) (h2:SlI w a2 n2 c2 cols) (hb1:n1 ≤ 17592186044000) (hb2:n2 ≤ 17592186044000) (hm:MayP (R:Int) (width:Int) st cols) (hR:∀ W,Calls Tryz.prog 63 #[.int .i64 k] W fun e w' => e = .returned (.tuple #[.agg #[(.func (.func 49) #[] #[]),(.func (.func G1) #[] #[]),(.func (.func G2) #[] #[]),(.func (.func G3) #[] #[]),(.bool wd)],.bool true]) ∧ Below W.heap.size W w') (hGr:∀ W,SlI W a1 n1 c1 st → SlI W a2 n2 c2 cols → Calls Tryz.prog 49 #[patV (R:Int) (width:Int) a1 n1 c1 a2 n2 c2] W fun e w' => GtP w.heap.size W w' e m S C) :
  Calls Tryz.prog 34 #[.int .i64 k,patV (R:Int) (width:Int) a1 n1 c1 a2 n2 c2] w fun e w' => TkP w w' e 49 G1 G2 G3 wd R width a1 n1 c1 a2 n2 c2 m S C:=by
 have HRU:=Hj hR
 have HGR:=Hj hGr
 clear hR hGr
 obtain ⟨wb,hwb⟩:∃ x,w.alloc (.cells #[.int .i64 (R:Int),.int .i64 (width:Int),.slice a1 n1 c1,.slice a2 n2 c2] 25) = x:=⟨_,rfl⟩
 have bb:Below w.heap.size w wb:=by rw [← hwb]; exact bAl
 have hT:=BoxP.made w #[.int .i64 (R:Int),.int .i64 (width:Int),.slice a1 n1 c1,.slice a2 n2 c2] 25
 rw [hwb] at hT
 have hO0:=BoxP.made wb #[Value.nilFunc,Value.nilFunc,Value.nilFunc,Value.nilFunc,(.bool false),(.int .i64 0),(.int .i64 0),(.slice none 0 0),(.slice none 0 0),(.int .i64 0),(.int .i64 0),(.slice none 0 0),(.slice none 0 0)] 80
 obtain ⟨wo,hwo⟩:∃ x,wb.alloc (.cells #[Value.nilFunc,Value.nilFunc,Value.nilFunc,Value.nilFunc,(.bool false),(.int .i64 0),(.int .i64 0),(.slice none 0 0),(.slice none 0 0),(.int .i64 0),(.int .i64 0),(.slice none 0 0),(.slice none 0 0)] 80) = x:=⟨_,rfl⟩
 have bo:Below wb.heap.size wb wo:=by rw [← hwo]; exact bAl
 rw [hwo] at hO0
 have hT1:=hT.below bo
 have p0:=(hT1.all 0 _ rfl).1
 have p1:=(hT1.all 1 _ rfl).1
 have p2:=(hT1.all 2 _ rfl).1
 have p3:=(hT1.all 3 _ rfl).1
 have bw:=bb.trans (bo.mono bb.size)
 have KM:=Hj (smay_any (R:Int) (width:Int) a1 a2 n1 c1 n2 c2 st cols wo (h1.below bw) (h2.below bw) (by omega) (by omega))
 unfold patV at KM
 have HT:=Hj hT1
 have HO:=Hj hO0
 have HB:=Hj bw
 have HWB:=Hj bb.size
 have HS:=Hj (And.intro h1 h2)
 have HTQ:=Hj (show TruQ true (MayP (R:Int) (width:Int) st cols) from ⟨fun _ => hm,fun _ => rfl⟩)
 clear hT hT1 hO0 bb bo bw h1 h2 hm
 unfold patV
 go_enter Tryz.func34,Tryz.ntmps34
 go_wp2_with fail
 refine (Uh KM).mono ?_
 intro e w2 hq
 obtain ⟨rfl,b2⟩:=hq.known (Uh HTQ)
 have hT2:=(Uh HT).below b2
 have HT2:=Hj hT2
 have HO2:=Hj ((Uh HO).below b2)
 have HB2:=Hj ((Uh HB).trans (b2.mono (Uh HB).size))
 clear hq KM b2 hT2 p0 p1 p2 p3
 go_wp2_with fail
 refine (Uh HRU w2).mono ?_
 rintro _ w3 ⟨rfl,b3⟩
 try dsimp only
 repeat ((fail_if_success (with_reducible (show Code.wp _ _ _ _ (World.alloc w3 (Obj.cells #[_,_,_,_,.bool wd] _))))); (first | go_values | go_skip | go_guarded | go_step | go_upon | go_back))
 have hR:=BoxP.made w3 #[(.func (.func 49) #[] #[]),(.func (.func G1) #[] #[]),(.func (.func G2) #[] #[]),(.func (.func G3) #[] #[]),(.bool wd)] 78
 have br:Below w3.heap.size w3 (w3.alloc (.cells #[(.func (.func 49) #[] #[]),(.func (.func G1) #[] #[]),(.func (.func G2) #[] #[]),(.func (.func G3) #[] #[]),(.bool wd)] 78)):=bAl
 have hT3:=((Uh HT2).below b3).below br
 have HO3:=Hj (((Uh HO2).below b3).below br)
 have HB3:=Hj (((Uh HB2).trans (b3.mono (Uh HB2).size)).trans (br.mono (Nat.le_trans (Uh HB2).size b3.size)))
 clear b3 br
 generalize w3.alloc (.cells #[(.func (.func 49) #[] #[]),(.func (.func G1) #[] #[]),(.func (.func G2) #[] #[]),(.func (.func G3) #[] #[]),(.bool wd)] 78) = wr at *
 have s0:=(hR.all 0 _ rfl).1
 have q0:=(hT3.all 0 _ rfl).1
 have q1:=(hT3.all 1 _ rfl).1
 have q2:=(hT3.all 2 _ rfl).1
 have q3:=(hT3.all 3 _ rfl).1
 have HR:=Hj hR
 have HT3:=Hj hT3
 clear hR hT3
 go_wp2_with fail
 have KI:=Hj (Uh HGR wr ((Uh HS).1.below (Uh HB3)) ((Uh HS).2.below (Uh HB3)))
 unfold patV at KI
 refine (Uh KI).mono ?_
 rintro _ w4 ⟨x,d,y,z,rfl,hS4,hC4,b4,hS4l,hC4l⟩
 have HLL:=Hj (And.intro hS4l hC4l)
 have HWR:=Hj (Uh HO3).lt
 have hR4:=(Uh HR).below b4
 have hT4:=(Uh HT3).below b4
 have hO4:=(Uh HO3).below b4
 have bw4:=(Uh HB3).trans (b4.mono (Uh HB3).size)
 clear KI b4 s0 q0 q1 q2 q3
 try dsimp only
 repeat ((fail_if_success (with_reducible (show Code.wp _ _ _ _ (World.alloc w4 (Obj.cells #[_,_,_,.slice y C.length z] _))))); (first | go_values | go_skip | go_guarded | go_step | go_upon | go_back))
 have hG:=BoxP.made w4 #[.int .i64 (m:Int),.int .i64 (m:Int),.slice x S.length d,.slice y C.length z] 25
 have bg:Below w4.heap.size w4 (w4.alloc (.cells #[.int .i64 (m:Int),.int .i64 (m:Int),.slice x S.length d,.slice y C.length z] 25)):=bAl
 have hR5:=hR4.below bg
 have hT5:=hT4.below bg
 have HO5:=Hj (hO4.below bg)
 have bw5:=bw4.trans (bg.mono bw4.size)
 have HSC:=Hj (And.intro (hS4.below bg) (hC4.below bg))
 clear bg bw4 hR4 hT4 hO4 hS4 hC4 hS4l hC4l
 generalize w4.alloc (.cells #[.int .i64 (m:Int),.int .i64 (m:Int),.slice x S.length d,.slice y C.length z] 25) = wg at *
 have s0:=(hR5.all 0 _ rfl).1
 have s1:=(hR5.all 1 _ rfl).1
 have s2:=(hR5.all 2 _ rfl).1
 have s3:=(hR5.all 3 _ rfl).1
 have s4:=(hR5.all 4 _ rfl).1
 have q0:=(hT5.all 0 _ rfl).1
 have q1:=(hT5.all 1 _ rfl).1
 have q2:=(hT5.all 2 _ rfl).1
 have q3:=(hT5.all 3 _ rfl).1
 have g0:=(hG.all 0 _ rfl).1
 have g1:=(hG.all 1 _ rfl).1
 have g2:=(hG.all 2 _ rfl).1
 have g3:=(hG.all 3 _ rfl).1
 have HB5:=Hj bw5
 clear bw5 hG hR5 hT5
 have o0:=((Uh HO5).all 0 _ rfl).1
 have r0:=((Uh HO5).all 0 _ rfl).2
 have o1:=((Uh HO5).all 1 _ rfl).1
 have r1:=((Uh HO5).all 1 _ rfl).2
 have o2:=((Uh HO5).all 2 _ rfl).1
 have r2:=((Uh HO5).all 2 _ rfl).2
 have o3:=((Uh HO5).all 3 _ rfl).1
 have r3:=((Uh HO5).all 3 _ rfl).2
 have o4:=((Uh HO5).all 4 _ rfl).1
 have r4:=((Uh HO5).all 4 _ rfl).2
 have o5:=((Uh HO5).all 5 _ rfl).1
 have r5:=((Uh HO5).all 5 _ rfl).2
 have o6:=((Uh HO5).all 6 _ rfl).1
 have r6:=((Uh HO5).all 6 _ rfl).2
 have o7:=((Uh HO5).all 7 _ rfl).1
 have r7:=((Uh HO5).all 7 _ rfl).2
 have o8:=((Uh HO5).all 8 _ rfl).1
 have r8:=((Uh HO5).all 8 _ rfl).2
 have o9:=((Uh HO5).all 9 _ rfl).1
 have r9:=((Uh HO5).all 9 _ rfl).2
 have o10:=((Uh HO5).all 10 _ rfl).1
 have r10:=((Uh HO5).all 10 _ rfl).2
 have o11:=((Uh HO5).all 11 _ rfl).1
 have r11:=((Uh HO5).all 11 _ rfl).2
 have o12:=((Uh HO5).all 12 _ rfl).1
 have r12:=((Uh HO5).all 12 _ rfl).2
 go_wp2_with fail
 have hf:=((((((((((((((Uh HO5).put 0 ((.func (.func 49) #[] #[]))).put 1 ((.func (.func G1) #[] #[]))).put 2 ((.func (.func G2) #[] #[]))).put 3 ((.func (.func G3) #[] #[]))).put 4 ((.bool wd))).put 5 (.int .i64 (R:Int))).put 6 (.int .i64 (width:Int))).put 7 (.slice a1 n1 c1)).put 8 (.slice a2 n2 c2)).put 9 (.int .i64 (m:Int))).put 10 (.int .i64 (m:Int))).put 11 (.slice x S.length d)).put 12 (.slice y C.length z))
 have t0:=(hf.all 0 _ rfl).1
 have t1:=(hf.all 1 _ rfl).1
 have t2:=(hf.all 2 _ rfl).1
 have t3:=(hf.all 3 _ rfl).1
 have t4:=(hf.all 4 _ rfl).1
 have t5:=(hf.all 5 _ rfl).1
 have t6:=(hf.all 6 _ rfl).1
 have t7:=(hf.all 7 _ rfl).1
 have t8:=(hf.all 8 _ rfl).1
 have t9:=(hf.all 9 _ rfl).1
 have t10:=(hf.all 10 _ rfl).1
 have t11:=(hf.all 11 _ rfl).1
 have t12:=(hf.all 12 _ rfl).1
 have cc:Chg (fun j => j = wb.heap.size) wg (((((((((((((wg.setCell ⟨wb.heap.size,0,none⟩ ((.func (.func 49) #[] #[]))).setCell ⟨wb.heap.size,1,none⟩ ((.func (.func G1) #[] #[]))).setCell ⟨wb.heap.size,2,none⟩ ((.func (.func G2) #[] #[]))).setCell ⟨wb.heap.size,3,none⟩ ((.func (.func G3) #[] #[]))).setCell ⟨wb.heap.size,4,none⟩ ((.bool wd))).setCell ⟨wb.heap.size,5,none⟩ (.int .i64 (R:Int))).setCell ⟨wb.heap.size,6,none⟩ (.int .i64 (width:Int))).setCell ⟨wb.heap.size,7,none⟩ (.slice a1 n1 c1)).setCell ⟨wb.heap.size,8,none⟩ (.slice a2 n2 c2)).setCell ⟨wb.heap.size,9,none⟩ (.int .i64 (m:Int))).setCell ⟨wb.heap.size,10,none⟩ (.int .i64 (m:Int))).setCell ⟨wb.heap.size,11,none⟩ (.slice x S.length d)).setCell ⟨wb.heap.size,12,none⟩ (.slice y C.length z)):=(((((((((((((Chg.of_set (S:=fun j => j = wb.heap.size) _ _ _ _ rfl).trans (Chg.of_set (S:=fun j => j = wb.heap.size) _ _ _ _ rfl)).trans (Chg.of_set (S:=fun j => j = wb.heap.size) _ _ _ _ rfl)).trans (Chg.of_set (S:=fun j => j = wb.heap.size) _ _ _ _ rfl)).trans (Chg.of_set (S:=fun j => j = wb.heap.size) _ _ _ _ rfl)).trans (Chg.of_set (S:=fun j => j = wb.heap.size) _ _ _ _ rfl)).trans (Chg.of_set (S:=fun j => j = wb.heap.size) _ _ _ _ rfl)).trans (Chg.of_set (S:=fun j => j = wb.heap.size) _ _ _ _ rfl)).trans (Chg.of_set (S:=fun j => j = wb.heap.size) _ _ _ _ rfl)).trans (Chg.of_set (S:=fun j => j = wb.heap.size) _ _ _ _ rfl)).trans (Chg.of_set (S:=fun j => j = wb.heap.size) _ _ _ _ rfl)).trans (Chg.of_set (S:=fun j => j = wb.heap.size) _ _ _ _ rfl)).trans (Chg.of_set (S:=fun j => j = wb.heap.size) _ _ _ _ rfl))
 generalize (((((((((((((wg.setCell ⟨wb.heap.size,0,none⟩ ((.func (.func 49) #[] #[]))).setCell ⟨wb.heap.size,1,none⟩ ((.func (.func G1) #[] #[]))).setCell ⟨wb.heap.size,2,none⟩ ((.func (.func G2) #[] #[]))).setCell ⟨wb.heap.size,3,none⟩ ((.func (.func G3) #[] #[]))).setCell ⟨wb.heap.size,4,none⟩ ((.bool wd))).setCell ⟨wb.heap.size,5,none⟩ (.int .i64 (R:Int))).setCell ⟨wb.heap.size,6,none⟩ (.int .i64 (width:Int))).setCell ⟨wb.heap.size,7,none⟩ (.slice a1 n1 c1)).setCell ⟨wb.heap.size,8,none⟩ (.slice a2 n2 c2)).setCell ⟨wb.heap.size,9,none⟩ (.int .i64 (m:Int))).setCell ⟨wb.heap.size,10,none⟩ (.int .i64 (m:Int))).setCell ⟨wb.heap.size,11,none⟩ (.slice x S.length d)).setCell ⟨wb.heap.size,12,none⟩ (.slice y C.length z)) = wf at *
 refine bodyPost_ret (by simp [results,Tryz.results34,go_sem,t0,t1,t2,t3,t4,t5,t6,t7,t8,t9,t10,t11,t12]; try rfl) rfl ?_
 have hcb:Chg (fun j => j = wb.heap.size) wg wf:=cc
 have hlt:=(Uh HSC).1
 exact ⟨x,d,y,z,rfl,(Uh HSC).1.chg cc (fun z hz hne e => by have:=(Uh HLL).1 z hz hne; have:=Uh HWB; have:=Uh HWR; omega),(Uh HSC).2.chg cc (fun z hz hne e => by have:=(Uh HLL).2 z hz hne; have:=Uh HWB; have:=Uh HWR; omega),(Uh HB5).trans (cc.below (Uh HB5).size (fun j hj e => by have:=Uh HWB; omega))⟩
set_option maxRecDepth 100000 in
set_option maxHeartbeats 16000000 in
theorem ctask_err_self (k:Int) (G1 G2 G3:Nat) (wd:Bool) (R width:Nat) (er:Int) (her:(er != 0) = true) (a1 a2:Option Addr) (n1 c1 n2 c2:Nat) (st cols:List Int) (w:World) (h1:SlI w a1 n1 c1 st) (h2:SlI w a2 n2 c2 cols) (hb1:n1 ≤ 17592186044000) (hb2:n2 ≤ 17592186044000) (hm:MayP (R:Int) (width:Int) st cols) (hR:∀ W,Calls Tryz.prog 63 #[.int .i64 k] W fun e w' => e = .returned (.tuple #[.agg #[(.func (.func 49) #[] #[]),(.func (.func G1) #[] #[]),(.func (.func G2) #[] #[]),(.func (.func G3) #[] #[]),(.bool wd)],.bool true]) ∧ Below W.heap.size W w') (hGr:∀ W,SlI W a1 n1 c1 st → SlI W a2 n2 c2 cols → Calls Tryz.prog 49 #[patV (R:Int) (width:Int) a1 n1 c1 a2 n2 c2] W fun e w' => e = .returned (.tuple #[.agg #[.int .i64 0,.int .i64 0,.slice none 0 0,.slice none 0 0],.int .i64 er]) ∧ Below W.heap.size W w') :
  Calls Tryz.prog 34 #[.int .i64 k,patV (R:Int) (width:Int) a1 n1 c1 a2 n2 c2] w fun e w' => TkN w w' e er:=by
 have HRU:=Hj hR
 have HGR:=Hj hGr
 clear hR hGr
 obtain ⟨wb,hwb⟩:∃ x,w.alloc (.cells #[.int .i64 (R:Int),.int .i64 (width:Int),.slice a1 n1 c1,.slice a2 n2 c2] 25) = x:=⟨_,rfl⟩
 have bb:Below w.heap.size w wb:=by rw [← hwb]; exact bAl
 have hT:=BoxP.made w #[.int .i64 (R:Int),.int .i64 (width:Int),.slice a1 n1 c1,.slice a2 n2 c2] 25
 rw [hwb] at hT
 have hO0:=BoxP.made wb #[Value.nilFunc,Value.nilFunc,Value.nilFunc,Value.nilFunc,(.bool false),(.int .i64 0),(.int .i64 0),(.slice none 0 0),(.slice none 0 0),(.int .i64 0),(.int .i64 0),(.slice none 0 0),(.slice none 0 0)] 80
 obtain ⟨wo,hwo⟩:∃ x,wb.alloc (.cells #[Value.nilFunc,Value.nilFunc,Value.nilFunc,Value.nilFunc,(.bool false),(.int .i64 0),(.int .i64 0),(.slice none 0 0),(.slice none 0 0),(.int .i64 0),(.int .i64 0),(.slice none 0 0),(.slice none 0 0)] 80) = x:=⟨_,rfl⟩
 have bo:Below wb.heap.size wb wo:=by rw [← hwo]; exact bAl
 rw [hwo] at hO0
 have hT1:=hT.below bo
 have p0:=(hT1.all 0 _ rfl).1
 have p1:=(hT1.all 1 _ rfl).1
 have p2:=(hT1.all 2 _ rfl).1
 have p3:=(hT1.all 3 _ rfl).1
 have bw:=bb.trans (bo.mono bb.size)
 have KM:=Hj (smay_any (R:Int) (width:Int) a1 a2 n1 c1 n2 c2 st cols wo (h1.below bw) (h2.below bw) (by omega) (by omega))
 unfold patV at KM
 have HT:=Hj hT1
 have HO:=Hj hO0
 have HB:=Hj bw
 have HWB:=Hj bb.size
 have HS:=Hj (And.intro h1 h2)
 have HTQ:=Hj (show TruQ true (MayP (R:Int) (width:Int) st cols) from ⟨fun _ => hm,fun _ => rfl⟩)
 clear hT hT1 hO0 bb bo bw h1 h2 hm
 unfold patV
 go_enter Tryz.func34,Tryz.ntmps34
 go_wp2_with fail
 refine (Uh KM).mono ?_
 intro e w2 hq
 obtain ⟨rfl,b2⟩:=hq.known (Uh HTQ)
 have hT2:=(Uh HT).below b2
 have HT2:=Hj hT2
 have HO2:=Hj ((Uh HO).below b2)
 have HB2:=Hj ((Uh HB).trans (b2.mono (Uh HB).size))
 clear hq KM b2 hT2 p0 p1 p2 p3
 go_wp2_with fail
 refine (Uh HRU w2).mono ?_
 rintro _ w3 ⟨rfl,b3⟩
 try dsimp only
 repeat ((fail_if_success (with_reducible (show Code.wp _ _ _ _ (World.alloc w3 (Obj.cells #[_,_,_,_,.bool wd] _))))); (first | go_values | go_skip | go_guarded | go_step | go_upon | go_back))
 have hR:=BoxP.made w3 #[(.func (.func 49) #[] #[]),(.func (.func G1) #[] #[]),(.func (.func G2) #[] #[]),(.func (.func G3) #[] #[]),(.bool wd)] 78
 have br:Below w3.heap.size w3 (w3.alloc (.cells #[(.func (.func 49) #[] #[]),(.func (.func G1) #[] #[]),(.func (.func G2) #[] #[]),(.func (.func G3) #[] #[]),(.bool wd)] 78)):=bAl
 have hT3:=((Uh HT2).below b3).below br
 have HO3:=Hj (((Uh HO2).below b3).below br)
 have HB3:=Hj (((Uh HB2).trans (b3.mono (Uh HB2).size)).trans (br.mono (Nat.le_trans (Uh HB2).size b3.size)))
 clear b3 br
 generalize w3.alloc (.cells #[(.func (.func 49) #[] #[]),(.func (.func G1) #[] #[]),(.func (.func G2) #[] #[]),(.func (.func G3) #[] #[]),(.bool wd)] 78) = wr at *
 have s0:=(hR.all 0 _ rfl).1
 have q0:=(hT3.all 0 _ rfl).1
 have q1:=(hT3.all 1 _ rfl).1
 have q2:=(hT3.all 2 _ rfl).1
 have q3:=(hT3.all 3 _ rfl).1
 have HR:=Hj hR
 have HT3:=Hj hT3
 clear hR hT3
 go_wp2_with fail
 have KI:=Hj (Uh HGR wr ((Uh HS).1.below (Uh HB3)) ((Uh HS).2.below (Uh HB3)))
 unfold patV at KI
 refine (Uh KI).mono ?_
 rintro _ w4 ⟨rfl,b4⟩
 have hR4:=(Uh HR).below b4
 have hT4:=(Uh HT3).below b4
 have hO4:=(Uh HO3).below b4
 have bw4:=(Uh HB3).trans (b4.mono (Uh HB3).size)
 clear KI b4 s0 q0 q1 q2 q3
 try dsimp only
 repeat ((fail_if_success (with_reducible (show Code.wp _ _ _ _ (World.alloc w4 (Obj.cells #[_,_,_,.slice none 0 0] _))))); (first | go_values | go_skip | go_guarded | go_step | go_upon | go_back))
 have hG:=BoxP.made w4 #[.int .i64 0,.int .i64 0,.slice none 0 0,.slice none 0 0] 25
 have bg:Below w4.heap.size w4 (w4.alloc (.cells #[.int .i64 0,.int .i64 0,.slice none 0 0,.slice none 0 0] 25)):=bAl
 have hR5:=hR4.below bg
 have hT5:=hT4.below bg
 have HO5:=Hj (hO4.below bg)
 have bw5:=bw4.trans (bg.mono bw4.size)
 clear bg bw4 hR4 hT4 hO4
 generalize w4.alloc (.cells #[.int .i64 0,.int .i64 0,.slice none 0 0,.slice none 0 0] 25) = wg at *
 have s0:=(hR5.all 0 _ rfl).1
 have s1:=(hR5.all 1 _ rfl).1
 have s2:=(hR5.all 2 _ rfl).1
 have s3:=(hR5.all 3 _ rfl).1
 have s4:=(hR5.all 4 _ rfl).1
 have q0:=(hT5.all 0 _ rfl).1
 have q1:=(hT5.all 1 _ rfl).1
 have q2:=(hT5.all 2 _ rfl).1
 have q3:=(hT5.all 3 _ rfl).1
 have g0:=(hG.all 0 _ rfl).1
 have g1:=(hG.all 1 _ rfl).1
 have g2:=(hG.all 2 _ rfl).1
 have g3:=(hG.all 3 _ rfl).1
 have HB5:=Hj bw5
 clear bw5 hG hR5 hT5
 have o0:=((Uh HO5).all 0 _ rfl).1
 have r0:=((Uh HO5).all 0 _ rfl).2
 have o1:=((Uh HO5).all 1 _ rfl).1
 have r1:=((Uh HO5).all 1 _ rfl).2
 have o2:=((Uh HO5).all 2 _ rfl).1
 have r2:=((Uh HO5).all 2 _ rfl).2
 have o3:=((Uh HO5).all 3 _ rfl).1
 have r3:=((Uh HO5).all 3 _ rfl).2
 have o4:=((Uh HO5).all 4 _ rfl).1
 have r4:=((Uh HO5).all 4 _ rfl).2
 have o5:=((Uh HO5).all 5 _ rfl).1
 have r5:=((Uh HO5).all 5 _ rfl).2
 have o6:=((Uh HO5).all 6 _ rfl).1
 have r6:=((Uh HO5).all 6 _ rfl).2
 have o7:=((Uh HO5).all 7 _ rfl).1
 have r7:=((Uh HO5).all 7 _ rfl).2
 have o8:=((Uh HO5).all 8 _ rfl).1
 have r8:=((Uh HO5).all 8 _ rfl).2
 have o9:=((Uh HO5).all 9 _ rfl).1
 have r9:=((Uh HO5).all 9 _ rfl).2
 have o10:=((Uh HO5).all 10 _ rfl).1
 have r10:=((Uh HO5).all 10 _ rfl).2
 have o11:=((Uh HO5).all 11 _ rfl).1
 have r11:=((Uh HO5).all 11 _ rfl).2
 have o12:=((Uh HO5).all 12 _ rfl).1
 have r12:=((Uh HO5).all 12 _ rfl).2
 go_wp2_with fail
 have hf:=((((((((((((((Uh HO5).put 0 (Value.nilFunc)).put 1 (Value.nilFunc)).put 2 (Value.nilFunc)).put 3 (Value.nilFunc)).put 4 ((.bool false))).put 5 ((.int .i64 0))).put 6 ((.int .i64 0))).put 7 ((.slice none 0 0))).put 8 ((.slice none 0 0))).put 9 ((.int .i64 0))).put 10 ((.int .i64 0))).put 11 ((.slice none 0 0))).put 12 ((.slice none 0 0)))
 have t0:=(hf.all 0 _ rfl).1
 have t1:=(hf.all 1 _ rfl).1
 have t2:=(hf.all 2 _ rfl).1
 have t3:=(hf.all 3 _ rfl).1
 have t4:=(hf.all 4 _ rfl).1
 have t5:=(hf.all 5 _ rfl).1
 have t6:=(hf.all 6 _ rfl).1
 have t7:=(hf.all 7 _ rfl).1
 have t8:=(hf.all 8 _ rfl).1
 have t9:=(hf.all 9 _ rfl).1
 have t10:=(hf.all 10 _ rfl).1
 have t11:=(hf.all 11 _ rfl).1
 have t12:=(hf.all 12 _ rfl).1
 have cc:Chg (fun j => j = wb.heap.size) wg (((((((((((((wg.setCell ⟨wb.heap.size,0,none⟩ (Value.nilFunc)).setCell ⟨wb.heap.size,1,none⟩ (Value.nilFunc)).setCell ⟨wb.heap.size,2,none⟩ (Value.nilFunc)).setCell ⟨wb.heap.size,3,none⟩ (Value.nilFunc)).setCell ⟨wb.heap.size,4,none⟩ ((.bool false))).setCell ⟨wb.heap.size,5,none⟩ ((.int .i64 0))).setCell ⟨wb.heap.size,6,none⟩ ((.int .i64 0))).setCell ⟨wb.heap.size,7,none⟩ ((.slice none 0 0))).setCell ⟨wb.heap.size,8,none⟩ ((.slice none 0 0))).setCell ⟨wb.heap.size,9,none⟩ ((.int .i64 0))).setCell ⟨wb.heap.size,10,none⟩ ((.int .i64 0))).setCell ⟨wb.heap.size,11,none⟩ ((.slice none 0 0))).setCell ⟨wb.heap.size,12,none⟩ ((.slice none 0 0))):=(((((((((((((Chg.of_set (S:=fun j => j = wb.heap.size) _ _ _ _ rfl).trans (Chg.of_set (S:=fun j => j = wb.heap.size) _ _ _ _ rfl)).trans (Chg.of_set (S:=fun j => j = wb.heap.size) _ _ _ _ rfl)).trans (Chg.of_set (S:=fun j => j = wb.heap.size) _ _ _ _ rfl)).trans (Chg.of_set (S:=fun j => j = wb.heap.size) _ _ _ _ rfl)).trans (Chg.of_set (S:=fun j => j = wb.heap.size) _ _ _ _ rfl)).trans (Chg.of_set (S:=fun j => j = wb.heap.size) _ _ _ _ rfl)).trans (Chg.of_set (S:=fun j => j = wb.heap.size) _ _ _ _ rfl)).trans (Chg.of_set (S:=fun j => j = wb.heap.size) _ _ _ _ rfl)).trans (Chg.of_set (S:=fun j => j = wb.heap.size) _ _ _ _ rfl)).trans (Chg.of_set (S:=fun j => j = wb.heap.size) _ _ _ _ rfl)).trans (Chg.of_set (S:=fun j => j = wb.heap.size) _ _ _ _ rfl)).trans (Chg.of_set (S:=fun j => j = wb.heap.size) _ _ _ _ rfl))
 generalize (((((((((((((wg.setCell ⟨wb.heap.size,0,none⟩ (Value.nilFunc)).setCell ⟨wb.heap.size,1,none⟩ (Value.nilFunc)).setCell ⟨wb.heap.size,2,none⟩ (Value.nilFunc)).setCell ⟨wb.heap.size,3,none⟩ (Value.nilFunc)).setCell ⟨wb.heap.size,4,none⟩ ((.bool false))).setCell ⟨wb.heap.size,5,none⟩ ((.int .i64 0))).setCell ⟨wb.heap.size,6,none⟩ ((.int .i64 0))).setCell ⟨wb.heap.size,7,none⟩ ((.slice none 0 0))).setCell ⟨wb.heap.size,8,none⟩ ((.slice none 0 0))).setCell ⟨wb.heap.size,9,none⟩ ((.int .i64 0))).setCell ⟨wb.heap.size,10,none⟩ ((.int .i64 0))).setCell ⟨wb.heap.size,11,none⟩ ((.slice none 0 0))).setCell ⟨wb.heap.size,12,none⟩ ((.slice none 0 0))) = wf at *
 refine bodyPost_ret (by simp [results,Tryz.results34,go_sem,t0,t1,t2,t3,t4,t5,t6,t7,t8,t9,t10,t11,t12]; try rfl) rfl ?_
 exact ⟨rfl,(Uh HB5).trans (cc.below (Uh HB5).size (fun j hj e => by have:=Uh HWB; omega))⟩
set_option maxRecDepth 100000 in
set_option maxHeartbeats 16000000 in
theorem ctask_ok_cols (k:Int) (G1 G2 G3:Nat) (wd:Bool) (R width m:Nat) (S C:List Int) (a1 a2:Option Addr) (n1 c1 n2 c2:Nat) (st cols:List Int) (w:World) (h1:SlI w a1 n1 c1 st) (h2:SlI w a2 n2 c2 cols) (hb1:n1 ≤ 17592186044000) (hb2:n2 ≤ 17592186044000) (hm:MayP (R:Int) (width:Int) st cols) (hR:∀ W,Calls Tryz.prog 63 #[.int .i64 k] W fun e w' => e = .returned (.tuple #[.agg #[(.func (.func 95) #[] #[]),(.func (.func G1) #[] #[]),(.func (.func G2) #[] #[]),(.func (.func G3) #[] #[]),(.bool wd)],.bool true]) ∧ Below W.heap.size W w') (hGr:∀ W,SlI W a1 n1 c1 st → SlI W a2 n2 c2 cols → Calls Tryz.prog 95 #[patV (R:Int) (width:Int) a1 n1 c1 a2 n2 c2] W fun e w' => GtP w.heap.size W w' e m S C) :
  Calls Tryz.prog 34 #[.int .i64 k,patV (R:Int) (width:Int) a1 n1 c1 a2 n2 c2] w fun e w' => TkP w w' e 95 G1 G2 G3 wd R width a1 n1 c1 a2 n2 c2 m S C:=by
 have HRU:=Hj hR
 have HGR:=Hj hGr
 clear hR hGr
 obtain ⟨wb,hwb⟩:∃ x,w.alloc (.cells #[.int .i64 (R:Int),.int .i64 (width:Int),.slice a1 n1 c1,.slice a2 n2 c2] 25) = x:=⟨_,rfl⟩
 have bb:Below w.heap.size w wb:=by rw [← hwb]; exact bAl
 have hT:=BoxP.made w #[.int .i64 (R:Int),.int .i64 (width:Int),.slice a1 n1 c1,.slice a2 n2 c2] 25
 rw [hwb] at hT
 have hO0:=BoxP.made wb #[Value.nilFunc,Value.nilFunc,Value.nilFunc,Value.nilFunc,(.bool false),(.int .i64 0),(.int .i64 0),(.slice none 0 0),(.slice none 0 0),(.int .i64 0),(.int .i64 0),(.slice none 0 0),(.slice none 0 0)] 80
 obtain ⟨wo,hwo⟩:∃ x,wb.alloc (.cells #[Value.nilFunc,Value.nilFunc,Value.nilFunc,Value.nilFunc,(.bool false),(.int .i64 0),(.int .i64 0),(.slice none 0 0),(.slice none 0 0),(.int .i64 0),(.int .i64 0),(.slice none 0 0),(.slice none 0 0)] 80) = x:=⟨_,rfl⟩
 have bo:Below wb.heap.size wb wo:=by rw [← hwo]; exact bAl
 rw [hwo] at hO0
 have hT1:=hT.below bo
 have p0:=(hT1.all 0 _ rfl).1
 have p1:=(hT1.all 1 _ rfl).1
 have p2:=(hT1.all 2 _ rfl).1
 have p3:=(hT1.all 3 _ rfl).1
 have bw:=bb.trans (bo.mono bb.size)
 have KM:=Hj (smay_any (R:Int) (width:Int) a1 a2 n1 c1 n2 c2 st cols wo (h1.below bw) (h2.below bw) (by omega) (by omega))
 unfold patV at KM
 have HT:=Hj hT1
 have HO:=Hj hO0
 have HB:=Hj bw
 have HWB:=Hj bb.size
 have HS:=Hj (And.intro h1 h2)
 have HTQ:=Hj (show TruQ true (MayP (R:Int) (width:Int) st cols) from ⟨fun _ => hm,fun _ => rfl⟩)
 clear hT hT1 hO0 bb bo bw h1 h2 hm
 unfold patV
 go_enter Tryz.func34,Tryz.ntmps34
 go_wp2_with fail
 refine (Uh KM).mono ?_
 intro e w2 hq
 obtain ⟨rfl,b2⟩:=hq.known (Uh HTQ)
 have hT2:=(Uh HT).below b2
 have HT2:=Hj hT2
 have HO2:=Hj ((Uh HO).below b2)
 have HB2:=Hj ((Uh HB).trans (b2.mono (Uh HB).size))
 clear hq KM b2 hT2 p0 p1 p2 p3
 go_wp2_with fail
 refine (Uh HRU w2).mono ?_
 rintro _ w3 ⟨rfl,b3⟩
 try dsimp only
 repeat ((fail_if_success (with_reducible (show Code.wp _ _ _ _ (World.alloc w3 (Obj.cells #[_,_,_,_,.bool wd] _))))); (first | go_values | go_skip | go_guarded | go_step | go_upon | go_back))
 have hR:=BoxP.made w3 #[(.func (.func 95) #[] #[]),(.func (.func G1) #[] #[]),(.func (.func G2) #[] #[]),(.func (.func G3) #[] #[]),(.bool wd)] 78
 have br:Below w3.heap.size w3 (w3.alloc (.cells #[(.func (.func 95) #[] #[]),(.func (.func G1) #[] #[]),(.func (.func G2) #[] #[]),(.func (.func G3) #[] #[]),(.bool wd)] 78)):=bAl
 have hT3:=((Uh HT2).below b3).below br
 have HO3:=Hj (((Uh HO2).below b3).below br)
 have HB3:=Hj (((Uh HB2).trans (b3.mono (Uh HB2).size)).trans (br.mono (Nat.le_trans (Uh HB2).size b3.size)))
 clear b3 br
 generalize w3.alloc (.cells #[(.func (.func 95) #[] #[]),(.func (.func G1) #[] #[]),(.func (.func G2) #[] #[]),(.func (.func G3) #[] #[]),(.bool wd)] 78) = wr at *
 have s0:=(hR.all 0 _ rfl).1
 have q0:=(hT3.all 0 _ rfl).1
 have q1:=(hT3.all 1 _ rfl).1
 have q2:=(hT3.all 2 _ rfl).1
 have q3:=(hT3.all 3 _ rfl).1
 have HR:=Hj hR
 have HT3:=Hj hT3
 clear hR hT3
 go_wp2_with fail
 have KI:=Hj (Uh HGR wr ((Uh HS).1.below (Uh HB3)) ((Uh HS).2.below (Uh HB3)))
 unfold patV at KI
 refine (Uh KI).mono ?_
 rintro _ w4 ⟨x,d,y,z,rfl,hS4,hC4,b4,hS4l,hC4l⟩
 have HLL:=Hj (And.intro hS4l hC4l)
 have HWR:=Hj (Uh HO3).lt
 have hR4:=(Uh HR).below b4
 have hT4:=(Uh HT3).below b4
 have hO4:=(Uh HO3).below b4
 have bw4:=(Uh HB3).trans (b4.mono (Uh HB3).size)
 clear KI b4 s0 q0 q1 q2 q3
 try dsimp only
 repeat ((fail_if_success (with_reducible (show Code.wp _ _ _ _ (World.alloc w4 (Obj.cells #[_,_,_,.slice y C.length z] _))))); (first | go_values | go_skip | go_guarded | go_step | go_upon | go_back))
 have hG:=BoxP.made w4 #[.int .i64 (m:Int),.int .i64 (m:Int),.slice x S.length d,.slice y C.length z] 25
 have bg:Below w4.heap.size w4 (w4.alloc (.cells #[.int .i64 (m:Int),.int .i64 (m:Int),.slice x S.length d,.slice y C.length z] 25)):=bAl
 have hR5:=hR4.below bg
 have hT5:=hT4.below bg
 have HO5:=Hj (hO4.below bg)
 have bw5:=bw4.trans (bg.mono bw4.size)
 have HSC:=Hj (And.intro (hS4.below bg) (hC4.below bg))
 clear bg bw4 hR4 hT4 hO4 hS4 hC4 hS4l hC4l
 generalize w4.alloc (.cells #[.int .i64 (m:Int),.int .i64 (m:Int),.slice x S.length d,.slice y C.length z] 25) = wg at *
 have s0:=(hR5.all 0 _ rfl).1
 have s1:=(hR5.all 1 _ rfl).1
 have s2:=(hR5.all 2 _ rfl).1
 have s3:=(hR5.all 3 _ rfl).1
 have s4:=(hR5.all 4 _ rfl).1
 have q0:=(hT5.all 0 _ rfl).1
 have q1:=(hT5.all 1 _ rfl).1
 have q2:=(hT5.all 2 _ rfl).1
 have q3:=(hT5.all 3 _ rfl).1
 have g0:=(hG.all 0 _ rfl).1
 have g1:=(hG.all 1 _ rfl).1
 have g2:=(hG.all 2 _ rfl).1
 have g3:=(hG.all 3 _ rfl).1
 have HB5:=Hj bw5
 clear bw5 hG hR5 hT5
 have o0:=((Uh HO5).all 0 _ rfl).1
 have r0:=((Uh HO5).all 0 _ rfl).2
 have o1:=((Uh HO5).all 1 _ rfl).1
 have r1:=((Uh HO5).all 1 _ rfl).2
 have o2:=((Uh HO5).all 2 _ rfl).1
 have r2:=((Uh HO5).all 2 _ rfl).2
 have o3:=((Uh HO5).all 3 _ rfl).1
 have r3:=((Uh HO5).all 3 _ rfl).2
 have o4:=((Uh HO5).all 4 _ rfl).1
 have r4:=((Uh HO5).all 4 _ rfl).2
 have o5:=((Uh HO5).all 5 _ rfl).1
 have r5:=((Uh HO5).all 5 _ rfl).2
 have o6:=((Uh HO5).all 6 _ rfl).1
 have r6:=((Uh HO5).all 6 _ rfl).2
 have o7:=((Uh HO5).all 7 _ rfl).1
 have r7:=((Uh HO5).all 7 _ rfl).2
 have o8:=((Uh HO5).all 8 _ rfl).1
 have r8:=((Uh HO5).all 8 _ rfl).2
 have o9:=((Uh HO5).all 9 _ rfl).1
 have r9:=((Uh HO5).all 9 _ rfl).2
 have o10:=((Uh HO5).all 10 _ rfl).1
 have r10:=((Uh HO5).all 10 _ rfl).2
 have o11:=((Uh HO5).all 11 _ rfl).1
 have r11:=((Uh HO5).all 11 _ rfl).2
 have o12:=((Uh HO5).all 12 _ rfl).1
 have r12:=((Uh HO5).all 12 _ rfl).2
 go_wp2_with fail
 have hf:=((((((((((((((Uh HO5).put 0 ((.func (.func 95) #[] #[]))).put 1 ((.func (.func G1) #[] #[]))).put 2 ((.func (.func G2) #[] #[]))).put 3 ((.func (.func G3) #[] #[]))).put 4 ((.bool wd))).put 5 (.int .i64 (R:Int))).put 6 (.int .i64 (width:Int))).put 7 (.slice a1 n1 c1)).put 8 (.slice a2 n2 c2)).put 9 (.int .i64 (m:Int))).put 10 (.int .i64 (m:Int))).put 11 (.slice x S.length d)).put 12 (.slice y C.length z))
 have t0:=(hf.all 0 _ rfl).1
 have t1:=(hf.all 1 _ rfl).1
 have t2:=(hf.all 2 _ rfl).1
 have t3:=(hf.all 3 _ rfl).1
 have t4:=(hf.all 4 _ rfl).1
 have t5:=(hf.all 5 _ rfl).1
 have t6:=(hf.all 6 _ rfl).1
 have t7:=(hf.all 7 _ rfl).1
 have t8:=(hf.all 8 _ rfl).1
 have t9:=(hf.all 9 _ rfl).1
 have t10:=(hf.all 10 _ rfl).1
 have t11:=(hf.all 11 _ rfl).1
 have t12:=(hf.all 12 _ rfl).1
 have cc:Chg (fun j => j = wb.heap.size) wg (((((((((((((wg.setCell ⟨wb.heap.size,0,none⟩ ((.func (.func 95) #[] #[]))).setCell ⟨wb.heap.size,1,none⟩ ((.func (.func G1) #[] #[]))).setCell ⟨wb.heap.size,2,none⟩ ((.func (.func G2) #[] #[]))).setCell ⟨wb.heap.size,3,none⟩ ((.func (.func G3) #[] #[]))).setCell ⟨wb.heap.size,4,none⟩ ((.bool wd))).setCell ⟨wb.heap.size,5,none⟩ (.int .i64 (R:Int))).setCell ⟨wb.heap.size,6,none⟩ (.int .i64 (width:Int))).setCell ⟨wb.heap.size,7,none⟩ (.slice a1 n1 c1)).setCell ⟨wb.heap.size,8,none⟩ (.slice a2 n2 c2)).setCell ⟨wb.heap.size,9,none⟩ (.int .i64 (m:Int))).setCell ⟨wb.heap.size,10,none⟩ (.int .i64 (m:Int))).setCell ⟨wb.heap.size,11,none⟩ (.slice x S.length d)).setCell ⟨wb.heap.size,12,none⟩ (.slice y C.length z)):=(((((((((((((Chg.of_set (S:=fun j => j = wb.heap.size) _ _ _ _ rfl).trans (Chg.of_set (S:=fun j => j = wb.heap.size) _ _ _ _ rfl)).trans (Chg.of_set (S:=fun j => j = wb.heap.size) _ _ _ _ rfl)).trans (Chg.of_set (S:=fun j => j = wb.heap.size) _ _ _ _ rfl)).trans (Chg.of_set (S:=fun j => j = wb.heap.size) _ _ _ _ rfl)).trans (Chg.of_set (S:=fun j => j = wb.heap.size) _ _ _ _ rfl)).trans (Chg.of_set (S:=fun j => j = wb.heap.size) _ _ _ _ rfl)).trans (Chg.of_set (S:=fun j => j = wb.heap.size) _ _ _ _ rfl)).trans (Chg.of_set (S:=fun j => j = wb.heap.size) _ _ _ _ rfl)).trans (Chg.of_set (S:=fun j => j = wb.heap.size) _ _ _ _ rfl)).trans (Chg.of_set (S:=fun j => j = wb.heap.size) _ _ _ _ rfl)).trans (Chg.of_set (S:=fun j => j = wb.heap.size) _ _ _ _ rfl)).trans (Chg.of_set (S:=fun j => j = wb.heap.size) _ _ _ _ rfl))
 generalize (((((((((((((wg.setCell ⟨wb.heap.size,0,none⟩ ((.func (.func 95) #[] #[]))).setCell ⟨wb.heap.size,1,none⟩ ((.func (.func G1) #[] #[]))).setCell ⟨wb.heap.size,2,none⟩ ((.func (.func G2) #[] #[]))).setCell ⟨wb.heap.size,3,none⟩ ((.func (.func G3) #[] #[]))).setCell ⟨wb.heap.size,4,none⟩ ((.bool wd))).setCell ⟨wb.heap.size,5,none⟩ (.int .i64 (R:Int))).setCell ⟨wb.heap.size,6,none⟩ (.int .i64 (width:Int))).setCell ⟨wb.heap.size,7,none⟩ (.slice a1 n1 c1)).setCell ⟨wb.heap.size,8,none⟩ (.slice a2 n2 c2)).setCell ⟨wb.heap.size,9,none⟩ (.int .i64 (m:Int))).setCell ⟨wb.heap.size,10,none⟩ (.int .i64 (m:Int))).setCell ⟨wb.heap.size,11,none⟩ (.slice x S.length d)).setCell ⟨wb.heap.size,12,none⟩ (.slice y C.length z)) = wf at *
 refine bodyPost_ret (by simp [results,Tryz.results34,go_sem,t0,t1,t2,t3,t4,t5,t6,t7,t8,t9,t10,t11,t12]; try rfl) rfl ?_
 have hcb:Chg (fun j => j = wb.heap.size) wg wf:=cc
 have hlt:=(Uh HSC).1
 exact ⟨x,d,y,z,rfl,(Uh HSC).1.chg cc (fun z hz hne e => by have:=(Uh HLL).1 z hz hne; have:=Uh HWB; have:=Uh HWR; omega),(Uh HSC).2.chg cc (fun z hz hne e => by have:=(Uh HLL).2 z hz hne; have:=Uh HWB; have:=Uh HWR; omega),(Uh HB5).trans (cc.below (Uh HB5).size (fun j hj e => by have:=Uh HWB; omega))⟩
set_option maxRecDepth 100000 in
set_option maxHeartbeats 16000000 in
theorem ctask_ok_rows (k:Int) (G1 G2 G3:Nat) (wd:Bool) (R width m:Nat) (S C:List Int) (a1 a2:Option Addr) (n1 c1 n2 c2:Nat) (st cols:List Int) (w:World) (h1:SlI w a1 n1 c1 st) (h2:SlI w a2 n2 c2 cols) (hb1:n1 ≤ 17592186044000) (hb2:n2 ≤ 17592186044000) (hm:MayP (R:Int) (width:Int) st cols) (hR:∀ W,Calls Tryz.prog 63 #[.int .i64 k] W fun e w' => e = .returned (.tuple #[.agg #[(.func (.func 98) #[] #[]),(.func (.func G1) #[] #[]),(.func (.func G2) #[] #[]),(.func (.func G3) #[] #[]),(.bool wd)],.bool true]) ∧ Below W.heap.size W w') (hGr:∀ W,SlI W a1 n1 c1 st → SlI W a2 n2 c2 cols → Calls Tryz.prog 98 #[patV (R:Int) (width:Int) a1 n1 c1 a2 n2 c2] W fun e w' => GtP w.heap.size W w' e m S C) :
  Calls Tryz.prog 34 #[.int .i64 k,patV (R:Int) (width:Int) a1 n1 c1 a2 n2 c2] w fun e w' => TkP w w' e 98 G1 G2 G3 wd R width a1 n1 c1 a2 n2 c2 m S C:=by
 have HRU:=Hj hR
 have HGR:=Hj hGr
 clear hR hGr
 obtain ⟨wb,hwb⟩:∃ x,w.alloc (.cells #[.int .i64 (R:Int),.int .i64 (width:Int),.slice a1 n1 c1,.slice a2 n2 c2] 25) = x:=⟨_,rfl⟩
 have bb:Below w.heap.size w wb:=by rw [← hwb]; exact bAl
 have hT:=BoxP.made w #[.int .i64 (R:Int),.int .i64 (width:Int),.slice a1 n1 c1,.slice a2 n2 c2] 25
 rw [hwb] at hT
 have hO0:=BoxP.made wb #[Value.nilFunc,Value.nilFunc,Value.nilFunc,Value.nilFunc,(.bool false),(.int .i64 0),(.int .i64 0),(.slice none 0 0),(.slice none 0 0),(.int .i64 0),(.int .i64 0),(.slice none 0 0),(.slice none 0 0)] 80
 obtain ⟨wo,hwo⟩:∃ x,wb.alloc (.cells #[Value.nilFunc,Value.nilFunc,Value.nilFunc,Value.nilFunc,(.bool false),(.int .i64 0),(.int .i64 0),(.slice none 0 0),(.slice none 0 0),(.int .i64 0),(.int .i64 0),(.slice none 0 0),(.slice none 0 0)] 80) = x:=⟨_,rfl⟩
 have bo:Below wb.heap.size wb wo:=by rw [← hwo]; exact bAl
 rw [hwo] at hO0
 have hT1:=hT.below bo
 have p0:=(hT1.all 0 _ rfl).1
 have p1:=(hT1.all 1 _ rfl).1
 have p2:=(hT1.all 2 _ rfl).1
 have p3:=(hT1.all 3 _ rfl).1
 have bw:=bb.trans (bo.mono bb.size)
 have KM:=Hj (smay_any (R:Int) (width:Int) a1 a2 n1 c1 n2 c2 st cols wo (h1.below bw) (h2.below bw) (by omega) (by omega))
 unfold patV at KM
 have HT:=Hj hT1
 have HO:=Hj hO0
 have HB:=Hj bw
 have HWB:=Hj bb.size
 have HS:=Hj (And.intro h1 h2)
 have HTQ:=Hj (show TruQ true (MayP (R:Int) (width:Int) st cols) from ⟨fun _ => hm,fun _ => rfl⟩)
 clear hT hT1 hO0 bb bo bw h1 h2 hm
 unfold patV
 go_enter Tryz.func34,Tryz.ntmps34
 go_wp2_with fail
 refine (Uh KM).mono ?_
 intro e w2 hq
 obtain ⟨rfl,b2⟩:=hq.known (Uh HTQ)
 have hT2:=(Uh HT).below b2
 have HT2:=Hj hT2
 have HO2:=Hj ((Uh HO).below b2)
 have HB2:=Hj ((Uh HB).trans (b2.mono (Uh HB).size))
 clear hq KM b2 hT2 p0 p1 p2 p3
 go_wp2_with fail
 refine (Uh HRU w2).mono ?_
 rintro _ w3 ⟨rfl,b3⟩
 try dsimp only
 repeat ((fail_if_success (with_reducible (show Code.wp _ _ _ _ (World.alloc w3 (Obj.cells #[_,_,_,_,.bool wd] _))))); (first | go_values | go_skip | go_guarded | go_step | go_upon | go_back))
 have hR:=BoxP.made w3 #[(.func (.func 98) #[] #[]),(.func (.func G1) #[] #[]),(.func (.func G2) #[] #[]),(.func (.func G3) #[] #[]),(.bool wd)] 78
 have br:Below w3.heap.size w3 (w3.alloc (.cells #[(.func (.func 98) #[] #[]),(.func (.func G1) #[] #[]),(.func (.func G2) #[] #[]),(.func (.func G3) #[] #[]),(.bool wd)] 78)):=bAl
 have hT3:=((Uh HT2).below b3).below br
 have HO3:=Hj (((Uh HO2).below b3).below br)
 have HB3:=Hj (((Uh HB2).trans (b3.mono (Uh HB2).size)).trans (br.mono (Nat.le_trans (Uh HB2).size b3.size)))
 clear b3 br
 generalize w3.alloc (.cells #[(.func (.func 98) #[] #[]),(.func (.func G1) #[] #[]),(.func (.func G2) #[] #[]),(.func (.func G3) #[] #[]),(.bool wd)] 78) = wr at *
 have s0:=(hR.all 0 _ rfl).1
 have q0:=(hT3.all 0 _ rfl).1
 have q1:=(hT3.all 1 _ rfl).1
 have q2:=(hT3.all 2 _ rfl).1
 have q3:=(hT3.all 3 _ rfl).1
 have HR:=Hj hR
 have HT3:=Hj hT3
 clear hR hT3
 go_wp2_with fail
 have KI:=Hj (Uh HGR wr ((Uh HS).1.below (Uh HB3)) ((Uh HS).2.below (Uh HB3)))
 unfold patV at KI
 refine (Uh KI).mono ?_
 rintro _ w4 ⟨x,d,y,z,rfl,hS4,hC4,b4,hS4l,hC4l⟩
 have HLL:=Hj (And.intro hS4l hC4l)
 have HWR:=Hj (Uh HO3).lt
 have hR4:=(Uh HR).below b4
 have hT4:=(Uh HT3).below b4
 have hO4:=(Uh HO3).below b4
 have bw4:=(Uh HB3).trans (b4.mono (Uh HB3).size)
 clear KI b4 s0 q0 q1 q2 q3
 try dsimp only
 repeat ((fail_if_success (with_reducible (show Code.wp _ _ _ _ (World.alloc w4 (Obj.cells #[_,_,_,.slice y C.length z] _))))); (first | go_values | go_skip | go_guarded | go_step | go_upon | go_back))
 have hG:=BoxP.made w4 #[.int .i64 (m:Int),.int .i64 (m:Int),.slice x S.length d,.slice y C.length z] 25
 have bg:Below w4.heap.size w4 (w4.alloc (.cells #[.int .i64 (m:Int),.int .i64 (m:Int),.slice x S.length d,.slice y C.length z] 25)):=bAl
 have hR5:=hR4.below bg
 have hT5:=hT4.below bg
 have HO5:=Hj (hO4.below bg)
 have bw5:=bw4.trans (bg.mono bw4.size)
 have HSC:=Hj (And.intro (hS4.below bg) (hC4.below bg))
 clear bg bw4 hR4 hT4 hO4 hS4 hC4 hS4l hC4l
 generalize w4.alloc (.cells #[.int .i64 (m:Int),.int .i64 (m:Int),.slice x S.length d,.slice y C.length z] 25) = wg at *
 have s0:=(hR5.all 0 _ rfl).1
 have s1:=(hR5.all 1 _ rfl).1
 have s2:=(hR5.all 2 _ rfl).1
 have s3:=(hR5.all 3 _ rfl).1
 have s4:=(hR5.all 4 _ rfl).1
 have q0:=(hT5.all 0 _ rfl).1
 have q1:=(hT5.all 1 _ rfl).1
 have q2:=(hT5.all 2 _ rfl).1
 have q3:=(hT5.all 3 _ rfl).1
 have g0:=(hG.all 0 _ rfl).1
 have g1:=(hG.all 1 _ rfl).1
 have g2:=(hG.all 2 _ rfl).1
 have g3:=(hG.all 3 _ rfl).1
 have HB5:=Hj bw5
 clear bw5 hG hR5 hT5
 have o0:=((Uh HO5).all 0 _ rfl).1
 have r0:=((Uh HO5).all 0 _ rfl).2
 have o1:=((Uh HO5).all 1 _ rfl).1
 have r1:=((Uh HO5).all 1 _ rfl).2
 have o2:=((Uh HO5).all 2 _ rfl).1
 have r2:=((Uh HO5).all 2 _ rfl).2
 have o3:=((Uh HO5).all 3 _ rfl).1
 have r3:=((Uh HO5).all 3 _ rfl).2
 have o4:=((Uh HO5).all 4 _ rfl).1
 have r4:=((Uh HO5).all 4 _ rfl).2
 have o5:=((Uh HO5).all 5 _ rfl).1
 have r5:=((Uh HO5).all 5 _ rfl).2
 have o6:=((Uh HO5).all 6 _ rfl).1
 have r6:=((Uh HO5).all 6 _ rfl).2
 have o7:=((Uh HO5).all 7 _ rfl).1
 have r7:=((Uh HO5).all 7 _ rfl).2
 have o8:=((Uh HO5).all 8 _ rfl).1
 have r8:=((Uh HO5).all 8 _ rfl).2
 have o9:=((Uh HO5).all 9 _ rfl).1
 have r9:=((Uh HO5).all 9 _ rfl).2
 have o10:=((Uh HO5).all 10 _ rfl).1
 have r10:=((Uh HO5).all 10 _ rfl).2
 have o11:=((Uh HO5).all 11 _ rfl).1
 have r11:=((Uh HO5).all 11 _ rfl).2
 have o12:=((Uh HO5).all 12 _ rfl).1
 have r12:=((Uh HO5).all 12 _ rfl).2
 go_wp2_with fail
 have hf:=((((((((((((((Uh HO5).put 0 ((.func (.func 98) #[] #[]))).put 1 ((.func (.func G1) #[] #[]))).put 2 ((.func (.func G2) #[] #[]))).put 3 ((.func (.func G3) #[] #[]))).put 4 ((.bool wd))).put 5 (.int .i64 (R:Int))).put 6 (.int .i64 (width:Int))).put 7 (.slice a1 n1 c1)).put 8 (.slice a2 n2 c2)).put 9 (.int .i64 (m:Int))).put 10 (.int .i64 (m:Int))).put 11 (.slice x S.length d)).put 12 (.slice y C.length z))
 have t0:=(hf.all 0 _ rfl).1
 have t1:=(hf.all 1 _ rfl).1
 have t2:=(hf.all 2 _ rfl).1
 have t3:=(hf.all 3 _ rfl).1
 have t4:=(hf.all 4 _ rfl).1
 have t5:=(hf.all 5 _ rfl).1
 have t6:=(hf.all 6 _ rfl).1
 have t7:=(hf.all 7 _ rfl).1
 have t8:=(hf.all 8 _ rfl).1
 have t9:=(hf.all 9 _ rfl).1
 have t10:=(hf.all 10 _ rfl).1
 have t11:=(hf.all 11 _ rfl).1
 have t12:=(hf.all 12 _ rfl).1
 have cc:Chg (fun j => j = wb.heap.size) wg (((((((((((((wg.setCell ⟨wb.heap.size,0,none⟩ ((.func (.func 98) #[] #[]))).setCell ⟨wb.heap.size,1,none⟩ ((.func (.func G1) #[] #[]))).setCell ⟨wb.heap.size,2,none⟩ ((.func (.func G2) #[] #[]))).setCell ⟨wb.heap.size,3,none⟩ ((.func (.func G3) #[] #[]))).setCell ⟨wb.heap.size,4,none⟩ ((.bool wd))).setCell ⟨wb.heap.size,5,none⟩ (.int .i64 (R:Int))).setCell ⟨wb.heap.size,6,none⟩ (.int .i64 (width:Int))).setCell ⟨wb.heap.size,7,none⟩ (.slice a1 n1 c1)).setCell ⟨wb.heap.size,8,none⟩ (.slice a2 n2 c2)).setCell ⟨wb.heap.size,9,none⟩ (.int .i64 (m:Int))).setCell ⟨wb.heap.size,10,none⟩ (.int .i64 (m:Int))).setCell ⟨wb.heap.size,11,none⟩ (.slice x S.length d)).setCell ⟨wb.heap.size,12,none⟩ (.slice y C.length z)):=(((((((((((((Chg.of_set (S:=fun j => j = wb.heap.size) _ _ _ _ rfl).trans (Chg.of_set (S:=fun j => j = wb.heap.size) _ _ _ _ rfl)).trans (Chg.of_set (S:=fun j => j = wb.heap.size) _ _ _ _ rfl)).trans (Chg.of_set (S:=fun j => j = wb.heap.size) _ _ _ _ rfl)).trans (Chg.of_set (S:=fun j => j = wb.heap.size) _ _ _ _ rfl)).trans (Chg.of_set (S:=fun j => j = wb.heap.size) _ _ _ _ rfl)).trans (Chg.of_set (S:=fun j => j = wb.heap.size) _ _ _ _ rfl)).trans (Chg.of_set (S:=fun j => j = wb.heap.size) _ _ _ _ rfl)).trans (Chg.of_set (S:=fun j => j = wb.heap.size) _ _ _ _ rfl)).trans (Chg.of_set (S:=fun j => j = wb.heap.size) _ _ _ _ rfl)).trans (Chg.of_set (S:=fun j => j = wb.heap.size) _ _ _ _ rfl)).trans (Chg.of_set (S:=fun j => j = wb.heap.size) _ _ _ _ rfl)).trans (Chg.of_set (S:=fun j => j = wb.heap.size) _ _ _ _ rfl))
 generalize (((((((((((((wg.setCell ⟨wb.heap.size,0,none⟩ ((.func (.func 98) #[] #[]))).setCell ⟨wb.heap.size,1,none⟩ ((.func (.func G1) #[] #[]))).setCell ⟨wb.heap.size,2,none⟩ ((.func (.func G2) #[] #[]))).setCell ⟨wb.heap.size,3,none⟩ ((.func (.func G3) #[] #[]))).setCell ⟨wb.heap.size,4,none⟩ ((.bool wd))).setCell ⟨wb.heap.size,5,none⟩ (.int .i64 (R:Int))).setCell ⟨wb.heap.size,6,none⟩ (.int .i64 (width:Int))).setCell ⟨wb.heap.size,7,none⟩ (.slice a1 n1 c1)).setCell ⟨wb.heap.size,8,none⟩ (.slice a2 n2 c2)).setCell ⟨wb.heap.size,9,none⟩ (.int .i64 (m:Int))).setCell ⟨wb.heap.size,10,none⟩ (.int .i64 (m:Int))).setCell ⟨wb.heap.size,11,none⟩ (.slice x S.length d)).setCell ⟨wb.heap.size,12,none⟩ (.slice y C.length z)) = wf at *
 refine bodyPost_ret (by simp [results,Tryz.results34,go_sem,t0,t1,t2,t3,t4,t5,t6,t7,t8,t9,t10,t11,t12]; try rfl) rfl ?_
 have hcb:Chg (fun j => j = wb.heap.size) wg wf:=cc
 have hlt:=(Uh HSC).1
 exact ⟨x,d,y,z,rfl,(Uh HSC).1.chg cc (fun z hz hne e => by have:=(Uh HLL).1 z hz hne; have:=Uh HWB; have:=Uh HWR; omega),(Uh HSC).2.chg cc (fun z hz hne e => by have:=(Uh HLL).2 z hz hne; have:=Uh HWB; have:=Uh HWR; omega),(Uh HB5).trans (cc.below (Uh HB5).size (fun j hj e => by have:=Uh HWB; omega))⟩
end Go.Proofs.YtgjokididdffhaaGreat
