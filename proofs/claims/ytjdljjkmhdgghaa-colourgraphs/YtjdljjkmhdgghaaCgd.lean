/- Cgd -/
import Derived.Test.YtjdljjkmhdgghaaCgc
namespace Go.Proofs.Ytjdljjkmhdgghaa
open Go.RowKit Go.Deep
set_option linter.unusedVariables false
set_option maxRecDepth 100000 in
set_option maxHeartbeats 16000000 in
theorem citself_no (rows width:Int) (a1 a2:Option Addr) (n1 c1 n2 c2:Nat) (st cols:List Int) (w:World) (h1:SlI w a1 n1 c1 st) (h2:SlI w a2 n2 c2 cols) (hb1:n1 ≤ 17592186044000) (hb2:n2 ≤ 17592186044000) (hm:¬ MayP rows width st cols) :
  Calls Try.prog 21 #[patV rows width a1 n1 c1 a2 n2 c2] w fun e w' => e = .returned (.tuple #[.agg #[.int .i64 0,.int .i64 0,.slice none 0 0,.slice none 0 0],.int .i64 180]) ∧ Below w.heap.size w w':=by
 obtain ⟨wb,hwb⟩:∃ x,w.alloc (.cells #[.int .i64 rows,.int .i64 width,.slice a1 n1 c1,.slice a2 n2 c2] 24) = x:=⟨_,rfl⟩
 have bb:Below w.heap.size w wb:=by rw [← hwb]; exact bAl
 have hT:=BoxP.made w #[.int .i64 rows,.int .i64 width,.slice a1 n1 c1,.slice a2 n2 c2] 24
 rw [hwb] at hT
 have hO0:=BoxP.made wb #[.int .i64 0,.int .i64 0,.slice none 0 0,.slice none 0 0] 24
 obtain ⟨wo,hwo⟩:∃ x,wb.alloc (.cells #[.int .i64 0,.int .i64 0,.slice none 0 0,.slice none 0 0] 24) = x:=⟨_,rfl⟩
 have bo:Below wb.heap.size wb wo:=by rw [← hwo]; exact bAl
 rw [hwo] at hO0
 have hT1:=hT.below bo
 have p0:=(hT1.all 0 _ rfl).1
 have p1:=(hT1.all 1 _ rfl).1
 have p2:=(hT1.all 2 _ rfl).1
 have p3:=(hT1.all 3 _ rfl).1
 have bw:=bb.trans (bo.mono bb.size)
 have HT:=Hj hT1
 have HO:=Hj hO0
 have HB:=Hj bw
 have HWB:=Hj bb.size
 have HS:=Hj (And.intro h1 h2)
 have KM:=Hj (smay_any rows width a1 a2 n1 c1 n2 c2 st cols wo (h1.below bw) (h2.below bw) (by omega) (by omega))
 unfold patV at KM
 have HTQ:=Hj (show TruQ false (MayP rows width st cols) from ⟨fun e => absurd e (by decide),fun h => absurd h hm⟩)
 clear hT hT1 hO0 bb bo bw h1 h2 hm
 unfold patV
 go_enter Try.func21,Try.ntmps21
 go_wp2_with fail
 refine (Uh KM).mono ?_
 intro e w2 hq
 obtain ⟨rfl,b2⟩:=hq.known (Uh HTQ)
 have hT2:=(Uh HT).below b2
 have q0:=(hT2.all 0 _ rfl).1
 have q1:=(hT2.all 1 _ rfl).1
 have q2:=(hT2.all 2 _ rfl).1
 have q3:=(hT2.all 3 _ rfl).1
 have bw2:=(Uh HB).trans (b2.mono (Uh HB).size)
 have hO2:=(Uh HO).below b2
 have o0:=(hO2.all 0 _ rfl).1
 have o1:=(hO2.all 1 _ rfl).1
 have o2:=(hO2.all 2 _ rfl).1
 have o3:=(hO2.all 3 _ rfl).1
 have r0:=(hO2.all 0 _ rfl).2
 have r1:=(hO2.all 1 _ rfl).2
 have r2:=(hO2.all 2 _ rfl).2
 have r3:=(hO2.all 3 _ rfl).2
 have HO2:=Hj hO2
 have HB2:=Hj bw2
 clear hq KM b2 hT2 hO2 bw2 p0 p1 p2 p3
 go_wp2_with fail
 have hf:=((((Uh HO2).put 0 (.int .i64 0)).put 1 (.int .i64 0)).put 2 (.slice none 0 0)).put 3 (.slice none 0 0)
 have t0:=(hf.all 0 _ rfl).1
 have t1:=(hf.all 1 _ rfl).1
 have t2:=(hf.all 2 _ rfl).1
 have t3:=(hf.all 3 _ rfl).1
 have cc:Chg (fun j => j = wb.heap.size) w2 ((((w2.setCell ⟨wb.heap.size,0,none⟩ (.int .i64 0)).setCell ⟨wb.heap.size,1,none⟩ (.int .i64 0)).setCell ⟨wb.heap.size,2,none⟩ (.slice none 0 0)).setCell ⟨wb.heap.size,3,none⟩ (.slice none 0 0)):=(((Chg.of_set (S:=fun j => j = wb.heap.size) _ _ _ _ rfl).trans (Chg.of_set (S:=fun j => j = wb.heap.size) _ _ _ _ rfl)).trans (Chg.of_set (S:=fun j => j = wb.heap.size) _ _ _ _ rfl)).trans (Chg.of_set (S:=fun j => j = wb.heap.size) _ _ _ _ rfl)
 generalize (((w2.setCell ⟨wb.heap.size,0,none⟩ (.int .i64 0)).setCell ⟨wb.heap.size,1,none⟩ (.int .i64 0)).setCell ⟨wb.heap.size,2,none⟩ (.slice none 0 0)).setCell ⟨wb.heap.size,3,none⟩ (.slice none 0 0) = wf at *
 refine bodyPost_ret (by simp [results,Try.results21,go_sem,t0,t1,t2,t3]; try rfl) rfl ?_
 exact ⟨rfl,(Uh HB2).trans (cc.below (Uh HB2).size (fun j hj e => by have:=Uh HWB; omega))⟩
set_option maxRecDepth 100000 in
set_option maxHeartbeats 16000000 in
theorem citself_asym (R width:Nat) (a1 a2:Option Addr) (n1 c1 n2 c2:Nat) (st cols:List Int) (w:World) (h1:SlI w a1 n1 c1 st) (h2:SlI w a2 n2 c2 cols) (hb1:n1 ≤ 17592186044000) (hb2:n2 ≤ 17592186044000) (hm:MayP (R:Int) (width:Int) st cols) (hsy:¬ (R = width ∧ SyP st cols R)) :
  Calls Try.prog 21 #[patV (R:Int) (width:Int) a1 n1 c1 a2 n2 c2] w fun e w' => e = .returned (.tuple #[.agg #[.int .i64 0,.int .i64 0,.slice none 0 0,.slice none 0 0],.int .i64 220]) ∧ Below w.heap.size w w':=by
 obtain ⟨wb,hwb⟩:∃ x,w.alloc (.cells #[.int .i64 (R:Int),.int .i64 (width:Int),.slice a1 n1 c1,.slice a2 n2 c2] 24) = x:=⟨_,rfl⟩
 have bb:Below w.heap.size w wb:=by rw [← hwb]; exact bAl
 have hT:=BoxP.made w #[.int .i64 (R:Int),.int .i64 (width:Int),.slice a1 n1 c1,.slice a2 n2 c2] 24
 rw [hwb] at hT
 have hO0:=BoxP.made wb #[.int .i64 0,.int .i64 0,.slice none 0 0,.slice none 0 0] 24
 obtain ⟨wo,hwo⟩:∃ x,wb.alloc (.cells #[.int .i64 0,.int .i64 0,.slice none 0 0,.slice none 0 0] 24) = x:=⟨_,rfl⟩
 have bo:Below wb.heap.size wb wo:=by rw [← hwo]; exact bAl
 rw [hwo] at hO0
 have hT1:=hT.below bo
 have p0:=(hT1.all 0 _ rfl).1
 have p1:=(hT1.all 1 _ rfl).1
 have p2:=(hT1.all 2 _ rfl).1
 have p3:=(hT1.all 3 _ rfl).1
 have bw:=bb.trans (bo.mono bb.size)
 have HT:=Hj hT1
 have HO:=Hj hO0
 have HB:=Hj bw
 have HWB:=Hj bb.size
 have HS:=Hj (And.intro h1 h2)
 have KM:=Hj (smay_any (R:Int) (width:Int) a1 a2 n1 c1 n2 c2 st cols wo (h1.below bw) (h2.below bw) (by omega) (by omega))
 unfold patV at KM
 have HTQ:=Hj (show TruQ true (MayP (R:Int) (width:Int) st cols) from ⟨fun _ => hm,fun _ => rfl⟩)
 have HM:=Hj hm
 have HSY:=Hj hsy
 clear hT hT1 hO0 bb bo bw h1 h2 hm hsy
 unfold patV
 go_enter Try.func21,Try.ntmps21
 go_wp2_with fail
 refine (Uh KM).mono ?_
 intro e w2 hq
 obtain ⟨rfl,b2⟩:=hq.known (Uh HTQ)
 have hT2:=(Uh HT).below b2
 have q0:=(hT2.all 0 _ rfl).1
 have q1:=(hT2.all 1 _ rfl).1
 have q2:=(hT2.all 2 _ rfl).1
 have q3:=(hT2.all 3 _ rfl).1
 have bw2:=(Uh HB).trans (b2.mono (Uh HB).size)
 have hO2:=(Uh HO).below b2
 have KS:=Hj (show Calls Try.prog 42 #[patV (R:Int) (width:Int) a1 n1 c1 a2 n2 c2] w2 fun e w' => e = .returned (.bool false) ∧ Below w2.heap.size w2 w' from by
  by_cases hRw:R = width
  ·subst hRw
   exact ssym_any R a1 a2 n1 c1 n2 c2 st cols w2 ((Uh HS).1.below bw2) ((Uh HS).2.below bw2) hb1 hb2 (Uh HM) false ⟨fun e => absurd e (by decide),fun h => absurd ⟨rfl,h⟩ (Uh HSY)⟩
  ·exact ssym_no R width a1 a2 n1 c1 n2 c2 st cols w2 ((Uh HS).1.below bw2) ((Uh HS).2.below bw2) hb1 hb2 (Uh HM) hRw)
 unfold patV at KS
 have HT2:=Hj hT2
 have HO2:=Hj hO2
 have HB2:=Hj bw2
 clear hq KM b2 hT2 hO2 bw2 p0 p1 p2 p3
 go_wp2_with fail
 refine (Uh KS).mono ?_
 rintro _ w3 ⟨rfl,b3⟩
 have bw3:=(Uh HB2).trans (b3.mono (Uh HB2).size)
 have hO3:=(Uh HO2).below b3
 have o0:=(hO3.all 0 _ rfl).1
 have o1:=(hO3.all 1 _ rfl).1
 have o2:=(hO3.all 2 _ rfl).1
 have o3:=(hO3.all 3 _ rfl).1
 have r0:=(hO3.all 0 _ rfl).2
 have r1:=(hO3.all 1 _ rfl).2
 have r2:=(hO3.all 2 _ rfl).2
 have r3:=(hO3.all 3 _ rfl).2
 have HO3:=Hj hO3
 have HB3:=Hj bw3
 clear KS b3 hO3 bw3 q0 q1 q2 q3
 go_wp2_with fail
 have hf:=((((Uh HO3).put 0 (.int .i64 0)).put 1 (.int .i64 0)).put 2 (.slice none 0 0)).put 3 (.slice none 0 0)
 have t0:=(hf.all 0 _ rfl).1
 have t1:=(hf.all 1 _ rfl).1
 have t2:=(hf.all 2 _ rfl).1
 have t3:=(hf.all 3 _ rfl).1
 have cc:Chg (fun j => j = wb.heap.size) w3 ((((w3.setCell ⟨wb.heap.size,0,none⟩ (.int .i64 0)).setCell ⟨wb.heap.size,1,none⟩ (.int .i64 0)).setCell ⟨wb.heap.size,2,none⟩ (.slice none 0 0)).setCell ⟨wb.heap.size,3,none⟩ (.slice none 0 0)):=(((Chg.of_set (S:=fun j => j = wb.heap.size) _ _ _ _ rfl).trans (Chg.of_set (S:=fun j => j = wb.heap.size) _ _ _ _ rfl)).trans (Chg.of_set (S:=fun j => j = wb.heap.size) _ _ _ _ rfl)).trans (Chg.of_set (S:=fun j => j = wb.heap.size) _ _ _ _ rfl)
 generalize (((w3.setCell ⟨wb.heap.size,0,none⟩ (.int .i64 0)).setCell ⟨wb.heap.size,1,none⟩ (.int .i64 0)).setCell ⟨wb.heap.size,2,none⟩ (.slice none 0 0)).setCell ⟨wb.heap.size,3,none⟩ (.slice none 0 0) = wf at *
 refine bodyPost_ret (by simp [results,Try.results21,go_sem,t0,t1,t2,t3]; try rfl) rfl ?_
 exact ⟨rfl,(Uh HB3).trans (cc.below (Uh HB3).size (fun j hj e => by have:=Uh HWB; omega))⟩
set_option maxRecDepth 100000 in
set_option maxHeartbeats 16000000 in
theorem citself_diag (R:Nat) (a1 a2:Option Addr) (n1 c1 n2 c2:Nat) (st cols:List Int) (w:World) (h1:SlI w a1 n1 c1 st) (h2:SlI w a2 n2 c2 cols) (hb1:n1 ≤ 17592186044000) (hb2:n2 ≤ 17592186044000) (hm:MayP (R:Int) (R:Int) st cols) (hsy:SyP st cols R) (hdi:DiP st cols R) :
  Calls Try.prog 21 #[patV (R:Int) (R:Int) a1 n1 c1 a2 n2 c2] w fun e w' => e = .returned (.tuple #[.agg #[.int .i64 0,.int .i64 0,.slice none 0 0,.slice none 0 0],.int .i64 220]) ∧ Below w.heap.size w w':=by
 obtain ⟨wb,hwb⟩:∃ x,w.alloc (.cells #[.int .i64 (R:Int),.int .i64 (R:Int),.slice a1 n1 c1,.slice a2 n2 c2] 24) = x:=⟨_,rfl⟩
 have bb:Below w.heap.size w wb:=by rw [← hwb]; exact bAl
 have hT:=BoxP.made w #[.int .i64 (R:Int),.int .i64 (R:Int),.slice a1 n1 c1,.slice a2 n2 c2] 24
 rw [hwb] at hT
 have hO0:=BoxP.made wb #[.int .i64 0,.int .i64 0,.slice none 0 0,.slice none 0 0] 24
 obtain ⟨wo,hwo⟩:∃ x,wb.alloc (.cells #[.int .i64 0,.int .i64 0,.slice none 0 0,.slice none 0 0] 24) = x:=⟨_,rfl⟩
 have bo:Below wb.heap.size wb wo:=by rw [← hwo]; exact bAl
 rw [hwo] at hO0
 have hT1:=hT.below bo
 have p0:=(hT1.all 0 _ rfl).1
 have p1:=(hT1.all 1 _ rfl).1
 have p2:=(hT1.all 2 _ rfl).1
 have p3:=(hT1.all 3 _ rfl).1
 have bw:=bb.trans (bo.mono bb.size)
 have HT:=Hj hT1
 have HO:=Hj hO0
 have HB:=Hj bw
 have HWB:=Hj bb.size
 have HS:=Hj (And.intro h1 h2)
 have KM:=Hj (smay_any (R:Int) (R:Int) a1 a2 n1 c1 n2 c2 st cols wo (h1.below bw) (h2.below bw) (by omega) (by omega))
 unfold patV at KM
 have HTQ:=Hj (show TruQ true (MayP (R:Int) (R:Int) st cols) from ⟨fun _ => hm,fun _ => rfl⟩)
 have HM:=Hj hm
 have HSY:=Hj (And.intro hsy hdi)
 clear hT hT1 hO0 bb bo bw h1 h2 hm hsy hdi
 unfold patV
 go_enter Try.func21,Try.ntmps21
 go_wp2_with fail
 refine (Uh KM).mono ?_
 intro e w2 hq
 obtain ⟨rfl,b2⟩:=hq.known (Uh HTQ)
 have hT2:=(Uh HT).below b2
 have q0:=(hT2.all 0 _ rfl).1
 have q1:=(hT2.all 1 _ rfl).1
 have q2:=(hT2.all 2 _ rfl).1
 have q3:=(hT2.all 3 _ rfl).1
 have bw2:=(Uh HB).trans (b2.mono (Uh HB).size)
 have hO2:=(Uh HO).below b2
 have KS:=Hj (ssym_any R a1 a2 n1 c1 n2 c2 st cols w2 ((Uh HS).1.below bw2) ((Uh HS).2.below bw2) hb1 hb2 (Uh HM) true ⟨fun _ => (Uh HSY).1,fun _ => rfl⟩)
 unfold patV at KS
 have HT2:=Hj hT2
 have HO2:=Hj hO2
 have HB2:=Hj bw2
 clear hq KM b2 hT2 hO2 bw2 p0 p1 p2 p3
 go_wp2_with fail
 refine (Uh KS).mono ?_
 rintro _ w3 ⟨rfl,b3⟩
 have bw3:=(Uh HB2).trans (b3.mono (Uh HB2).size)
 have hT3:=(Uh HT2).below b3
 clear q0 q1 q2 q3
 have q0:=(hT3.all 0 _ rfl).1
 have q1:=(hT3.all 1 _ rfl).1
 have q2:=(hT3.all 2 _ rfl).1
 have q3:=(hT3.all 3 _ rfl).1
 have KD:=Hj (chasdiag_any R R a1 a2 n1 c1 n2 c2 st cols w3 ((Uh HS).1.below bw3) ((Uh HS).2.below bw3) (by omega) (by omega) (Uh HM) true ⟨fun _ => (Uh HSY).2,fun _ => rfl⟩)
 unfold patV at KD
 have HO3:=Hj ((Uh HO2).below b3)
 have HB3:=Hj bw3
 clear KS b3 hT3 bw3
 go_wp2_with fail
 refine (Uh KD).mono ?_
 rintro _ w4 ⟨rfl,b4⟩
 have hO4:=(Uh HO3).below b4
 have o0:=(hO4.all 0 _ rfl).1
 have o1:=(hO4.all 1 _ rfl).1
 have o2:=(hO4.all 2 _ rfl).1
 have o3:=(hO4.all 3 _ rfl).1
 have r0:=(hO4.all 0 _ rfl).2
 have r1:=(hO4.all 1 _ rfl).2
 have r2:=(hO4.all 2 _ rfl).2
 have r3:=(hO4.all 3 _ rfl).2
 have HO4:=Hj hO4
 have HB4:=Hj ((Uh HB3).trans (b4.mono (Uh HB3).size))
 clear KD b4 hO4 q0 q1 q2 q3
 go_wp2_with fail
 have hf:=((((Uh HO4).put 0 (.int .i64 0)).put 1 (.int .i64 0)).put 2 (.slice none 0 0)).put 3 (.slice none 0 0)
 have t0:=(hf.all 0 _ rfl).1
 have t1:=(hf.all 1 _ rfl).1
 have t2:=(hf.all 2 _ rfl).1
 have t3:=(hf.all 3 _ rfl).1
 have cc:Chg (fun j => j = wb.heap.size) w4 ((((w4.setCell ⟨wb.heap.size,0,none⟩ (.int .i64 0)).setCell ⟨wb.heap.size,1,none⟩ (.int .i64 0)).setCell ⟨wb.heap.size,2,none⟩ (.slice none 0 0)).setCell ⟨wb.heap.size,3,none⟩ (.slice none 0 0)):=(((Chg.of_set (S:=fun j => j = wb.heap.size) _ _ _ _ rfl).trans (Chg.of_set (S:=fun j => j = wb.heap.size) _ _ _ _ rfl)).trans (Chg.of_set (S:=fun j => j = wb.heap.size) _ _ _ _ rfl)).trans (Chg.of_set (S:=fun j => j = wb.heap.size) _ _ _ _ rfl)
 generalize (((w4.setCell ⟨wb.heap.size,0,none⟩ (.int .i64 0)).setCell ⟨wb.heap.size,1,none⟩ (.int .i64 0)).setCell ⟨wb.heap.size,2,none⟩ (.slice none 0 0)).setCell ⟨wb.heap.size,3,none⟩ (.slice none 0 0) = wf at *
 refine bodyPost_ret (by simp [results,Try.results21,go_sem,t0,t1,t2,t3]; try rfl) rfl ?_
 exact ⟨rfl,(Uh HB4).trans (cc.below (Uh HB4).size (fun j hj e => by have:=Uh HWB; omega))⟩
set_option maxRecDepth 100000 in
set_option maxHeartbeats 16000000 in
theorem cnearf_no (rows width:Int) (a1 a2:Option Addr) (n1 c1 n2 c2:Nat) (st cols:List Int) (w:World) (h1:SlI w a1 n1 c1 st) (h2:SlI w a2 n2 c2 cols) (hb1:n1 ≤ 17592186044000) (hb2:n2 ≤ 17592186044000) (er:Int) (her:er ≠ 0) (hK:∀ W,Below w.heap.size w W → Calls Try.prog 21 #[patV rows width a1 n1 c1 a2 n2 c2] W fun e w' => e = .returned (.tuple #[.agg #[.int .i64 0,.int .i64 0,.slice none 0 0,.slice none 0 0],.int .i64 er]) ∧ Below W.heap.size W w') :
  Calls Try.prog 8 #[patV rows width a1 n1 c1 a2 n2 c2] w fun e w' => GqP w w' e 0 [] [] er:=by
 obtain ⟨wb,hwb⟩:∃ x,w.alloc (.cells #[.int .i64 rows,.int .i64 width,.slice a1 n1 c1,.slice a2 n2 c2] 24) = x:=⟨_,rfl⟩
 have bb:Below w.heap.size w wb:=by rw [← hwb]; exact bAl
 have hT:=BoxP.made w #[.int .i64 rows,.int .i64 width,.slice a1 n1 c1,.slice a2 n2 c2] 24
 rw [hwb] at hT
 have hO0:=BoxP.made wb #[.int .i64 0,.int .i64 0,.slice none 0 0,.slice none 0 0] 24
 obtain ⟨wo,hwo⟩:∃ x,wb.alloc (.cells #[.int .i64 0,.int .i64 0,.slice none 0 0,.slice none 0 0] 24) = x:=⟨_,rfl⟩
 have bo:Below wb.heap.size wb wo:=by rw [← hwo]; exact bAl
 rw [hwo] at hO0
 have hT1:=hT.below bo
 have p0:=(hT1.all 0 _ rfl).1
 have p1:=(hT1.all 1 _ rfl).1
 have p2:=(hT1.all 2 _ rfl).1
 have p3:=(hT1.all 3 _ rfl).1
 have bw:=bb.trans (bo.mono bb.size)
 have HT:=Hj hT1
 have HO:=Hj hO0
 have HB:=Hj bw
 have HWB:=Hj bb.size
 have HS:=Hj (And.intro h1 h2)
 have KI:=Hj (hK wo bw)
 unfold patV at KI
 have her2:(er == 0) = false:=by simp [her]
 clear hT hT1 hO0 bb bo bw h1 h2 hK
 unfold patV
 go_enter Try.func8,Try.ntmps8
 go_wp2_with fail
 refine (Uh KI).mono ?_
 rintro _ w2 ⟨rfl,b2⟩
 have hO2:=(Uh HO).below b2
 have bz:Below w2.heap.size w2 (w2.alloc (.cells #[.int .i64 0,.int .i64 0,.slice none 0 0,.slice none 0 0] 24)):=bAl
 have hOz:=hO2.below bz
 have o0:=(hOz.all 0 _ rfl).1
 have o1:=(hOz.all 1 _ rfl).1
 have o2:=(hOz.all 2 _ rfl).1
 have o3:=(hOz.all 3 _ rfl).1
 have r0:=(hOz.all 0 _ rfl).2
 have r1:=(hOz.all 1 _ rfl).2
 have r2:=(hOz.all 2 _ rfl).2
 have r3:=(hOz.all 3 _ rfl).2
 have HOz:=Hj hOz
 have bw2:=(Uh HB).trans (b2.mono (Uh HB).size)
 have HB2:=Hj (bw2.trans (bz.mono bw2.size))
 clear b2 hO2 hOz bz bw2 KI p0 p1 p2 p3
 go_wp2_with fail
 have hf:=((((Uh HOz).put 0 (.int .i64 0)).put 1 (.int .i64 0)).put 2 (.slice none 0 0)).put 3 (.slice none 0 0)
 have t0:=(hf.all 0 _ rfl).1
 have t1:=(hf.all 1 _ rfl).1
 have t2:=(hf.all 2 _ rfl).1
 have t3:=(hf.all 3 _ rfl).1
 have cc:Chg (fun j => j = wb.heap.size) (w2.alloc (.cells #[.int .i64 0,.int .i64 0,.slice none 0 0,.slice none 0 0] 24)) (((((w2.alloc (.cells #[.int .i64 0,.int .i64 0,.slice none 0 0,.slice none 0 0] 24)).setCell ⟨wb.heap.size,0,none⟩ (.int .i64 0)).setCell ⟨wb.heap.size,1,none⟩ (.int .i64 0)).setCell ⟨wb.heap.size,2,none⟩ (.slice none 0 0)).setCell ⟨wb.heap.size,3,none⟩ (.slice none 0 0)):=(((Chg.of_set (S:=fun j => j = wb.heap.size) _ _ _ _ rfl).trans (Chg.of_set (S:=fun j => j = wb.heap.size) _ _ _ _ rfl)).trans (Chg.of_set (S:=fun j => j = wb.heap.size) _ _ _ _ rfl)).trans (Chg.of_set (S:=fun j => j = wb.heap.size) _ _ _ _ rfl)
 generalize ((((w2.alloc (.cells #[.int .i64 0,.int .i64 0,.slice none 0 0,.slice none 0 0] 24)).setCell ⟨wb.heap.size,0,none⟩ (.int .i64 0)).setCell ⟨wb.heap.size,1,none⟩ (.int .i64 0)).setCell ⟨wb.heap.size,2,none⟩ (.slice none 0 0)).setCell ⟨wb.heap.size,3,none⟩ (.slice none 0 0) = wf at *
 refine bodyPost_ret (by simp [results,Try.results8,go_sem,t0,t1,t2,t3]; try rfl) rfl ?_
 have h9:=Uh HWB
 refine ⟨none,0,none,0,rfl,SlI.nil _,SlI.nil _,(Uh HB2).trans (cc.below (Uh HB2).size (fun j hj e => by omega)),fun z hz => ?_,fun z hz => ?_⟩ <;> cases hz
set_option maxRecDepth 100000 in
set_option maxHeartbeats 16000000 in
theorem cnearf_yes (R:Nat) (a1 a2:Option Addr) (n1 c1 n2 c2:Nat) (st cols:List Int) (w:World) (h1:SlI w a1 n1 c1 st) (h2:SlI w a2 n2 c2 cols) (hb1:n1 ≤ 17592186044000) (hb2:n2 ≤ 17592186044000) (hm:MayP (R:Int) (R:Int) st cols) (hg:GraP st cols R R) (P:Nat → Nat → Prop) (hP:∀ u v,u < R → v < R → ((NrP st cols R (u * 128 + v) ∧ u ≠ v) ↔ P u v)) :
  Calls Try.prog 8 #[patV (R:Int) (R:Int) a1 n1 c1 a2 n2 c2] w fun e w' => GqP w w' e R (grS P R R) (grC P R R) 0:=by
 obtain ⟨wb,hwb⟩:∃ x,w.alloc (.cells #[.int .i64 (R:Int),.int .i64 (R:Int),.slice a1 n1 c1,.slice a2 n2 c2] 24) = x:=⟨_,rfl⟩
 have bb:Below w.heap.size w wb:=by rw [← hwb]; exact bAl
 have hT:=BoxP.made w #[.int .i64 (R:Int),.int .i64 (R:Int),.slice a1 n1 c1,.slice a2 n2 c2] 24
 rw [hwb] at hT
 have hO0:=BoxP.made wb #[.int .i64 0,.int .i64 0,.slice none 0 0,.slice none 0 0] 24
 obtain ⟨wo,hwo⟩:∃ x,wb.alloc (.cells #[.int .i64 0,.int .i64 0,.slice none 0 0,.slice none 0 0] 24) = x:=⟨_,rfl⟩
 have bo:Below wb.heap.size wb wo:=by rw [← hwo]; exact bAl
 rw [hwo] at hO0
 have hT1:=hT.below bo
 have p0:=(hT1.all 0 _ rfl).1
 have p1:=(hT1.all 1 _ rfl).1
 have p2:=(hT1.all 2 _ rfl).1
 have p3:=(hT1.all 3 _ rfl).1
 have bw:=bb.trans (bo.mono bb.size)
 have HT:=Hj hT1
 have HO:=Hj hO0
 have HB:=Hj bw
 have HWB:=Hj bb.size
 have HS:=Hj (And.intro h1 h2)
 have KI:=Hj (citself_yes R R a1 a2 n1 c1 n2 c2 st cols wo (h1.below bw) (h2.below bw) hb1 hb2 hm hg)
 unfold patV at KI
 have HM:=Hj hm
 have HP:=Hj hP
 obtain ⟨S,hS⟩:∃ S,grS P R R = S:=⟨_,rfl⟩
 obtain ⟨C,hC⟩:∃ C,grC P R R = C:=⟨_,rfl⟩
 have HSC:=Hj (And.intro hS hC)
 rw [hS,hC]
 clear hT hT1 hO0 bb bo bw h1 h2 hm hg hP hS hC
 unfold patV
 go_enter Try.func8,Try.ntmps8
 go_wp2_with fail
 refine (Uh KI).mono ?_
 rintro _ w2 ⟨rfl,b2⟩
 obtain ⟨wz,hwz⟩:∃ x,w2.alloc (.cells #[.int .i64 (R:Int),.int .i64 (R:Int),.slice a1 n1 c1,.slice a2 n2 c2] 24) = x:=⟨_,rfl⟩
 have bz:Below w2.heap.size w2 wz:=by rw [← hwz]; exact bAl
 have bo2:=b2.trans (bz.mono b2.size)
 have hTz:=(Uh HT).below bo2
 have q0:=(hTz.all 0 _ rfl).1
 have q1:=(hTz.all 1 _ rfl).1
 have q2:=(hTz.all 2 _ rfl).1
 have q3:=(hTz.all 3 _ rfl).1
 have HOz:=Hj ((Uh HO).below bo2)
 have bw2:=(Uh HB).trans (bo2.mono (Uh HB).size)
 have KN:=Hj (cnear_any R R a1 a2 n1 c1 n2 c2 st cols P wz ((Uh HS).1.below bw2) ((Uh HS).2.below bw2) (by omega) (by omega) (Uh HM) (Uh HP))
 unfold patV at KN
 have HB2:=Hj bw2
 clear b2 bo2 hTz bz bw2 KI p0 p1 p2 p3
 go_wp2_with fail
 refine (Uh KN).mono ?_
 rintro _ wk ⟨x1,d1,x2,d2,rfl,g1,g2,bk,f1,f2⟩
 rw [(Uh HSC).1] at g1
 rw [(Uh HSC).2] at g2
 rw [(Uh HSC).1,(Uh HSC).2]
 have hOk:=(Uh HOz).below bk
 have o0:=(hOk.all 0 _ rfl).1
 have o1:=(hOk.all 1 _ rfl).1
 have o2:=(hOk.all 2 _ rfl).1
 have o3:=(hOk.all 3 _ rfl).1
 have r0:=(hOk.all 0 _ rfl).2
 have r1:=(hOk.all 1 _ rfl).2
 have r2:=(hOk.all 2 _ rfl).2
 have r3:=(hOk.all 3 _ rfl).2
 have HOk:=Hj hOk
 have HG:=Hj (And.intro g1 g2)
 have HFr:=Hj (And.intro f1 f2)
 have HBK:=Hj bk
 clear hOk g1 g2 f1 f2 bk KN q0 q1 q2 q3
 go_wp2_with fail
 have hf:=((((Uh HOk).put 0 (.int .i64 (R:Int))).put 1 (.int .i64 (R:Int))).put 2 (.slice x1 S.length d1)).put 3 (.slice x2 C.length d2)
 have t0:=(hf.all 0 _ rfl).1
 have t1:=(hf.all 1 _ rfl).1
 have t2:=(hf.all 2 _ rfl).1
 have t3:=(hf.all 3 _ rfl).1
 have cc:Chg (fun j => j = wb.heap.size) wk ((((wk.setCell ⟨wb.heap.size,0,none⟩ (.int .i64 (R:Int))).setCell ⟨wb.heap.size,1,none⟩ (.int .i64 (R:Int))).setCell ⟨wb.heap.size,2,none⟩ (.slice x1 S.length d1)).setCell ⟨wb.heap.size,3,none⟩ (.slice x2 C.length d2)):=(((Chg.of_set (S:=fun j => j = wb.heap.size) _ _ _ _ rfl).trans (Chg.of_set (S:=fun j => j = wb.heap.size) _ _ _ _ rfl)).trans (Chg.of_set (S:=fun j => j = wb.heap.size) _ _ _ _ rfl)).trans (Chg.of_set (S:=fun j => j = wb.heap.size) _ _ _ _ rfl)
 generalize (((wk.setCell ⟨wb.heap.size,0,none⟩ (.int .i64 (R:Int))).setCell ⟨wb.heap.size,1,none⟩ (.int .i64 (R:Int))).setCell ⟨wb.heap.size,2,none⟩ (.slice x1 S.length d1)).setCell ⟨wb.heap.size,3,none⟩ (.slice x2 C.length d2) = wf at *
 refine bodyPost_ret (by simp [results,Try.results8,go_sem,t0,t1,t2,t3]; try rfl) rfl ?_
 have h9:=Uh HWB
 have h8:=(Uh HOz).lt
 have h6:=(Uh HB2).size
 refine ⟨x1,d1,x2,d2,rfl,(Uh HG).1.chg cc (fun z hz _ e => ?_),(Uh HG).2.chg cc (fun z hz _ e => ?_),?_,fun z hz => ?_,fun z hz => ?_⟩
 ·have:=(Uh HFr).1 z hz; omega
 ·have:=(Uh HFr).2 z hz; omega
 ·exact ((Uh HB2).trans ((Uh HBK).mono h6)).trans (cc.below (Nat.le_trans h6 (Uh HBK).size) (fun j hj e => by omega))
 ·have:=(Uh HFr).1 z hz; omega
 ·have:=(Uh HFr).2 z hz; omega
end Go.Proofs.Ytjdljjkmhdgghaa
