/- Cgh -/
import Derived.Test.YtgjokididdffhaaGreatCgg
import Derived.Test.YtgjokididdffhaaGreatSp3
import Derived.Test.YtgjokididdffhaaGreatCgd
import Derived.Test.YtgjokididdffhaaGreatRq0
import Derived.Test.YtgjokididdffhaaGreatDa1
import Derived.StillTailTactics
namespace Go.Proofs.YtgjokididdffhaaGreat
open Go.RowKit Go.Deep
set_option linter.unusedVariables false
set_option maxRecDepth 100000 in
set_option maxHeartbeats 16000000 in
theorem wopenG_no (R width:Nat) (a1 a2:Option Addr) (n1 c1 n2 c2:Nat) (st cols:List Int) (w:World) (h1:SlI w a1 n1 c1 st) (h2:SlI w a2 n2 c2 cols) (hb1:n1 ≤ 17592186044416) (hb2:n2 ≤ 17592186044416) (hne:R ≠ width) :
  Calls Tryz.prog 46 #[patV (R:Int) (width:Int) a1 n1 c1 a2 n2 c2] w fun e w' => e = .returned (.tuple #[.agg #[.int .i64 0,.slice none 0 0],.bool false]) ∧ Below w.heap.size w w':=by
 obtain ⟨wb,hwb⟩:∃ x,w.alloc (.cells #[.int .i64 (R:Int),.int .i64 (width:Int),.slice a1 n1 c1,.slice a2 n2 c2] 25) = x:=⟨_,rfl⟩
 have bb:Below w.heap.size w wb:=by rw [← hwb]; exact bAl
 have hT:=BoxP.made w #[.int .i64 (R:Int),.int .i64 (width:Int),.slice a1 n1 c1,.slice a2 n2 c2] 25
 rw [hwb] at hT
 have hO0:=BoxP.made wb #[.int .i64 0,.slice none 0 0] 45
 obtain ⟨wo,hwo⟩:∃ x,wb.alloc (.cells #[.int .i64 0,.slice none 0 0] 45) = x:=⟨_,rfl⟩
 have bo:Below wb.heap.size wb wo:=by rw [← hwo]; exact bAl
 rw [hwo] at hO0
 have hT1:=hT.below bo
 have p0:=(hT1.all 0 _ rfl).1
 have p1:=(hT1.all 1 _ rfl).1
 have p2:=(hT1.all 2 _ rfl).1
 have p3:=(hT1.all 3 _ rfl).1
 have bw:=bb.trans (bo.mono bb.size)
 have HT:=Hj hT1
 have HO:=Hj hO0
 have HB:=Hj bw
 have HWB:=Hj bb.size
 have HS:=Hj (And.intro h1 h2)
 have o0:=(hO0.all 0 _ rfl).1
 have o1:=(hO0.all 1 _ rfl).1
 have r0:=(hO0.all 0 _ rfl).2
 have r1:=(hO0.all 1 _ rfl).2
 have hne1:((R:Int) != (width:Int)) = true:=by simp; omega
 have hne2:((R:Int) == (width:Int)) = false:=by simp; omega
 have HOx:=Hj hO0
 clear hT hT1 hO0 bb bo bw h1 h2 hne
 unfold patV
 go_enter Tryz.func46,Tryz.ntmps46
 go_wp2_with fail
 have hf:=((Uh HOx).put 0 (.int .i64 0)).put 1 (.slice none 0 0)
 have t0:=(hf.all 0 _ rfl).1
 have t1:=(hf.all 1 _ rfl).1
 have cc:Chg (fun j => j = wb.heap.size) wo ((wo.setCell ⟨wb.heap.size,0,none⟩ (.int .i64 0)).setCell ⟨wb.heap.size,1,none⟩ (.slice none 0 0)):=(Chg.of_set (S:=fun j => j = wb.heap.size) _ _ _ _ rfl).trans (Chg.of_set (S:=fun j => j = wb.heap.size) _ _ _ _ rfl)
 generalize (wo.setCell ⟨wb.heap.size,0,none⟩ (.int .i64 0)).setCell ⟨wb.heap.size,1,none⟩ (.slice none 0 0) = wf at *
 refine bodyPost_ret (by simp [results,Tryz.results46,go_sem,t0,t1]; try rfl) rfl ?_
 have h9:=Uh HWB
 exact ⟨rfl,(Uh HB).trans (cc.below (Uh HB).size (fun j hj e => by omega))⟩
set_option maxRecDepth 100000 in
set_option maxHeartbeats 16000000 in
theorem wthings_no (kd rows width:Int) (a1 a2:Option Addr) (n1 c1 n2 c2:Nat) (st cols:List Int) (w:World) (h1:SlI w a1 n1 c1 st) (h2:SlI w a2 n2 c2 cols) (hb1:n1 ≤ 17592186044416) (hb2:n2 ≤ 17592186044416) (hm:¬ MayP rows width st cols) :
  Calls Tryz.prog 21 #[.int .i64 kd,patV rows width a1 n1 c1 a2 n2 c2] w fun e w' => e = .returned (.tuple #[.agg #[.int .i64 0,.slice none 0 0],.int .i64 180]) ∧ Below w.heap.size w w':=by
 obtain ⟨wb,hwb⟩:∃ x,w.alloc (.cells #[.int .i64 rows,.int .i64 width,.slice a1 n1 c1,.slice a2 n2 c2] 25) = x:=⟨_,rfl⟩
 have bb:Below w.heap.size w wb:=by rw [← hwb]; exact bAl
 have hT:=BoxP.made w #[.int .i64 rows,.int .i64 width,.slice a1 n1 c1,.slice a2 n2 c2] 25
 rw [hwb] at hT
 have hO0:=BoxP.made wb #[.int .i64 0,.slice none 0 0] 45
 obtain ⟨wo,hwo⟩:∃ x,wb.alloc (.cells #[.int .i64 0,.slice none 0 0] 45) = x:=⟨_,rfl⟩
 have bo:Below wb.heap.size wb wo:=by rw [← hwo]; exact bAl
 rw [hwo] at hO0
 have hT1:=hT.below bo
 have p0:=(hT1.all 0 _ rfl).1
 have p1:=(hT1.all 1 _ rfl).1
 have p2:=(hT1.all 2 _ rfl).1
 have p3:=(hT1.all 3 _ rfl).1
 have bw:=bb.trans (bo.mono bb.size)
 have HT:=Hj hT1
 have HO:=Hj hO0
 have HB:=Hj bw
 have HWB:=Hj bb.size
 have HS:=Hj (And.intro h1 h2)
 have KM:=Hj (wsmay_any rows width a1 a2 n1 c1 n2 c2 st cols wo (h1.below bw) (h2.below bw) hb1 hb2)
 unfold patV at KM
 have HTQ:=Hj (show TruQ false (MayP rows width st cols) from ⟨fun e => absurd e (by decide),fun h => absurd h hm⟩)
 clear hT hT1 hO0 bb bo bw h1 h2 hm
 unfold patV
 go_enter Tryz.func21,Tryz.ntmps21
 go_wp2_with fail
 refine (Uh KM).mono ?_
 intro e w2 hq
 obtain ⟨rfl,b2⟩:=hq.known (Uh HTQ)
 have hT2:=(Uh HT).below b2
 have q0:=(hT2.all 0 _ rfl).1
 have q1:=(hT2.all 1 _ rfl).1
 have q2:=(hT2.all 2 _ rfl).1
 have q3:=(hT2.all 3 _ rfl).1
 have bw2:=(Uh HB).trans (b2.mono (Uh HB).size)
 have hO2:=(Uh HO).below b2
 have o0:=(hO2.all 0 _ rfl).1
 have o1:=(hO2.all 1 _ rfl).1
 have r0:=(hO2.all 0 _ rfl).2
 have r1:=(hO2.all 1 _ rfl).2
 have HO2:=Hj hO2
 have HB2:=Hj bw2
 clear hq KM b2 hT2 hO2 bw2 p0 p1 p2 p3
 go_wp2_with fail
 have hf:=((Uh HO2).put 0 (.int .i64 0)).put 1 (.slice none 0 0)
 have t0:=(hf.all 0 _ rfl).1
 have t1:=(hf.all 1 _ rfl).1
 have cc:Chg (fun j => j = wb.heap.size) w2 ((w2.setCell ⟨wb.heap.size,0,none⟩ (.int .i64 0)).setCell ⟨wb.heap.size,1,none⟩ (.slice none 0 0)):=(Chg.of_set (S:=fun j => j = wb.heap.size) _ _ _ _ rfl).trans (Chg.of_set (S:=fun j => j = wb.heap.size) _ _ _ _ rfl)
 generalize (w2.setCell ⟨wb.heap.size,0,none⟩ (.int .i64 0)).setCell ⟨wb.heap.size,1,none⟩ (.slice none 0 0) = wf at *
 refine bodyPost_ret (by simp [results,Tryz.results21,go_sem,t0,t1]; try rfl) rfl ?_
 have h9:=Uh HWB
 exact ⟨rfl,(Uh HB2).trans (cc.below (Uh HB2).size (fun j hj e => by omega))⟩
set_option maxRecDepth 100000 in
set_option maxHeartbeats 16000000 in
theorem wthings_bad (R width:Nat) (a1 a2:Option Addr) (n1 c1 n2 c2:Nat) (st cols:List Int) (w:World) (h1:SlI w a1 n1 c1 st) (h2:SlI w a2 n2 c2 cols) (hb1:n1 ≤ 17592186044416) (hb2:n2 ≤ 17592186044416) (hm:MayP (R:Int) (width:Int) st cols) (hg:¬ GraP st cols R width) :
  Calls Tryz.prog 21 #[.int .i64 1,patV (R:Int) (width:Int) a1 n1 c1 a2 n2 c2] w fun e w' => e = .returned (.tuple #[.agg #[.int .i64 0,.slice none 0 0],.int .i64 220]) ∧ Below w.heap.size w w':=by
 obtain ⟨wb,hwb⟩:∃ x,w.alloc (.cells #[.int .i64 (R:Int),.int .i64 (width:Int),.slice a1 n1 c1,.slice a2 n2 c2] 25) = x:=⟨_,rfl⟩
 have bb:Below w.heap.size w wb:=by rw [← hwb]; exact bAl
 have hT:=BoxP.made w #[.int .i64 (R:Int),.int .i64 (width:Int),.slice a1 n1 c1,.slice a2 n2 c2] 25
 rw [hwb] at hT
 have hO0:=BoxP.made wb #[.int .i64 0,.slice none 0 0] 45
 obtain ⟨wo,hwo⟩:∃ x,wb.alloc (.cells #[.int .i64 0,.slice none 0 0] 45) = x:=⟨_,rfl⟩
 have bo:Below wb.heap.size wb wo:=by rw [← hwo]; exact bAl
 rw [hwo] at hO0
 have hT1:=hT.below bo
 have p0:=(hT1.all 0 _ rfl).1
 have p1:=(hT1.all 1 _ rfl).1
 have p2:=(hT1.all 2 _ rfl).1
 have p3:=(hT1.all 3 _ rfl).1
 have bw:=bb.trans (bo.mono bb.size)
 have HT:=Hj hT1
 have HO:=Hj hO0
 have HB:=Hj bw
 have HWB:=Hj bb.size
 have HS:=Hj (And.intro h1 h2)
 have KM:=Hj (wsmay_any (R:Int) (width:Int) a1 a2 n1 c1 n2 c2 st cols wo (h1.below bw) (h2.below bw) hb1 hb2)
 unfold patV at KM
 have HTQ:=Hj (show TruQ true (MayP (R:Int) (width:Int) st cols) from ⟨fun _ => hm,fun _ => rfl⟩)
 have HM:=Hj hm
 have HGR:=Hj hg
 clear hT hT1 hO0 bb bo bw h1 h2 hm hg
 unfold patV
 go_enter Tryz.func21,Tryz.ntmps21
 go_wp2_with fail
 refine (Uh KM).mono ?_
 intro e w2 hq
 obtain ⟨rfl,b2⟩:=hq.known (Uh HTQ)
 have hT2:=(Uh HT).below b2
 have q0:=(hT2.all 0 _ rfl).1
 have q1:=(hT2.all 1 _ rfl).1
 have q2:=(hT2.all 2 _ rfl).1
 have q3:=(hT2.all 3 _ rfl).1
 have bw2:=(Uh HB).trans (b2.mono (Uh HB).size)
 have hO2:=(Uh HO).below b2
 have KO:=Hj (show Calls Tryz.prog 46 #[patV (R:Int) (width:Int) a1 n1 c1 a2 n2 c2] w2 fun e w' => e = .returned (.tuple #[.agg #[.int .i64 0,.slice none 0 0],.bool false]) ∧ Below w2.heap.size w2 w' from by
  by_cases hRw:R = width
  ·subst hRw
   exact (wopenG_any R a1 a2 n1 c1 n2 c2 st cols w2 ((Uh HS).1.below bw2) ((Uh HS).2.below bw2) hb1 hb2 (Uh HM) false ⟨fun e => absurd e (by decide),fun h => absurd h (Uh HGR)⟩).mono (fun e w' (h:OgP _ _ _ _ _ _ _) => ⟨h.2.2 rfl,h.1⟩)
  ·exact wopenG_no R width a1 a2 n1 c1 n2 c2 st cols w2 ((Uh HS).1.below bw2) ((Uh HS).2.below bw2) hb1 hb2 hRw)
 unfold patV at KO
 have HO2:=Hj hO2
 have HB2:=Hj bw2
 clear hq KM b2 hT2 hO2 bw2 p0 p1 p2 p3
 go_wp2_with fail
 refine (Uh KO).mono ?_
 rintro _ w3 ⟨rfl,b3⟩
 have bz:Below w3.heap.size w3 (w3.alloc (.cells #[.int .i64 0,.slice none 0 0] 45)):=bAl
 have b2z:=b3.trans (bz.mono b3.size)
 have hO3:=(Uh HO2).below b2z
 have o0:=(hO3.all 0 _ rfl).1
 have o1:=(hO3.all 1 _ rfl).1
 have r0:=(hO3.all 0 _ rfl).2
 have r1:=(hO3.all 1 _ rfl).2
 have HO3:=Hj hO3
 have HB3:=Hj ((Uh HB2).trans (b2z.mono (Uh HB2).size))
 clear KO b3 bz b2z hO3 q0 q1 q2 q3
 go_wp2_with fail
 have hf:=((Uh HO3).put 0 (.int .i64 0)).put 1 (.slice none 0 0)
 have t0:=(hf.all 0 _ rfl).1
 have t1:=(hf.all 1 _ rfl).1
 have cc:Chg (fun j => j = wb.heap.size) (w3.alloc (.cells #[.int .i64 0,.slice none 0 0] 45)) (((w3.alloc (.cells #[.int .i64 0,.slice none 0 0] 45)).setCell ⟨wb.heap.size,0,none⟩ (.int .i64 0)).setCell ⟨wb.heap.size,1,none⟩ (.slice none 0 0)):=(Chg.of_set (S:=fun j => j = wb.heap.size) _ _ _ _ rfl).trans (Chg.of_set (S:=fun j => j = wb.heap.size) _ _ _ _ rfl)
 generalize ((w3.alloc (.cells #[.int .i64 0,.slice none 0 0] 45)).setCell ⟨wb.heap.size,0,none⟩ (.int .i64 0)).setCell ⟨wb.heap.size,1,none⟩ (.slice none 0 0) = wf at *
 refine bodyPost_ret (by simp [results,Tryz.results21,go_sem,t0,t1]; try rfl) rfl ?_
 have h9:=Uh HWB
 exact ⟨rfl,(Uh HB3).trans (cc.below (Uh HB3).size (fun j hj e => by omega))⟩
def TgP (w w':World) (e:Ending) (R m:Nat) (f:Nat → Bool):Prop:=∃ b,w.heap.size ≤ b ∧ e = .returned (.tuple #[grV R b m,.int .i64 0]) ∧ RoV w' b m (fun x => .bool (f x)) ∧ Below w.heap.size w w'
set_option maxRecDepth 100000 in
set_option maxHeartbeats 16000000 in
theorem wthings_yes (R:Nat) (a1 a2:Option Addr) (n1 c1 n2 c2:Nat) (st cols:List Int) (w:World) (h1:SlI w a1 n1 c1 st) (h2:SlI w a2 n2 c2 cols) (hb1:n1 ≤ 17592186044416) (hb2:n2 ≤ 17592186044416) (hm:MayP (R:Int) (R:Int) st cols) (hg:GraP st cols R R) :
  Calls Tryz.prog 21 #[.int .i64 1,patV (R:Int) (R:Int) a1 n1 c1 a2 n2 c2] w fun e w' => TgP w w' e R (R * R) (fun x => tb (Vis R R st cols cols.length x)):=by
 obtain ⟨wb,hwb⟩:∃ x,w.alloc (.cells #[.int .i64 (R:Int),.int .i64 (R:Int),.slice a1 n1 c1,.slice a2 n2 c2] 25) = x:=⟨_,rfl⟩
 have bb:Below w.heap.size w wb:=by rw [← hwb]; exact bAl
 have hT:=BoxP.made w #[.int .i64 (R:Int),.int .i64 (R:Int),.slice a1 n1 c1,.slice a2 n2 c2] 25
 rw [hwb] at hT
 have hO0:=BoxP.made wb #[.int .i64 0,.slice none 0 0] 45
 obtain ⟨wo,hwo⟩:∃ x,wb.alloc (.cells #[.int .i64 0,.slice none 0 0] 45) = x:=⟨_,rfl⟩
 have bo:Below wb.heap.size wb wo:=by rw [← hwo]; exact bAl
 rw [hwo] at hO0
 have hT1:=hT.below bo
 have p0:=(hT1.all 0 _ rfl).1
 have p1:=(hT1.all 1 _ rfl).1
 have p2:=(hT1.all 2 _ rfl).1
 have p3:=(hT1.all 3 _ rfl).1
 have bw:=bb.trans (bo.mono bb.size)
 have HT:=Hj hT1
 have HO:=Hj hO0
 have HB:=Hj bw
 have HWB:=Hj bb.size
 have HS:=Hj (And.intro h1 h2)
 have KM:=Hj (wsmay_any (R:Int) (R:Int) a1 a2 n1 c1 n2 c2 st cols wo (h1.below bw) (h2.below bw) hb1 hb2)
 unfold patV at KM
 have HTQ:=Hj (show TruQ true (MayP (R:Int) (R:Int) st cols) from ⟨fun _ => hm,fun _ => rfl⟩)
 have HM:=Hj hm
 have HGR:=Hj hg
 obtain ⟨nn,hnn⟩:∃ nn,R * R = nn:=⟨_,rfl⟩
 have HNN:=Hj hnn
 rw [hnn]
 clear hnn
 clear hT hT1 hO0 bb bo bw h1 h2 hm hg
 unfold patV
 go_enter Tryz.func21,Tryz.ntmps21
 go_wp2_with fail
 refine (Uh KM).mono ?_
 intro e w2 hq
 obtain ⟨rfl,b2⟩:=hq.known (Uh HTQ)
 have hT2:=(Uh HT).below b2
 have q0:=(hT2.all 0 _ rfl).1
 have q1:=(hT2.all 1 _ rfl).1
 have q2:=(hT2.all 2 _ rfl).1
 have q3:=(hT2.all 3 _ rfl).1
 have bw2:=(Uh HB).trans (b2.mono (Uh HB).size)
 have hO2:=(Uh HO).below b2
 have KO:=Hj ((wopenG_any R a1 a2 n1 c1 n2 c2 st cols w2 ((Uh HS).1.below bw2) ((Uh HS).2.below bw2) hb1 hb2 (Uh HM) true ⟨fun _ => Uh HGR,fun _ => rfl⟩).mono (fun e w' (h:OgP _ _ _ _ _ _ _) => (show (∃ b,w2.heap.size ≤ b ∧ e = .returned (.tuple #[grV R b (R * R),.bool true]) ∧ RoV w' b (R * R) (fun x => .bool (tb (Vis R R st cols cols.length x)))) ∧ Below w2.heap.size w2 w' from ⟨h.2.1 rfl,h.1⟩)))
 rw [Uh HNN] at KO
 unfold patV grV at KO
 have HO2:=Hj hO2
 have HB2:=Hj bw2
 clear hq KM b2 hT2 hO2 bw2 p0 p1 p2 p3
 go_wp2_with fail
 refine (Uh KO).mono ?_
 rintro _ w3 ⟨⟨b,hbn,rfl,hRo⟩,b3⟩
 obtain ⟨wz,hwz⟩:∃ x,w3.alloc (.cells #[.int .i64 (R:Int),.slice (some ⟨b,0,none⟩) nn nn] 45) = x:=⟨_,rfl⟩
 have bz:Below w3.heap.size w3 wz:=by rw [← hwz]; exact bAl
 have hZ:=BoxP.made w3 #[.int .i64 (R:Int),.slice (some ⟨b,0,none⟩) nn nn] 45
 rw [hwz] at hZ
 have z0:=(hZ.all 0 _ rfl).1
 have z1:=(hZ.all 1 _ rfl).1
 have b2z:=b3.trans (bz.mono b3.size)
 have hO3:=(Uh HO2).below b2z
 have o0:=(hO3.all 0 _ rfl).1
 have o1:=(hO3.all 1 _ rfl).1
 have r0:=(hO3.all 0 _ rfl).2
 have r1:=(hO3.all 1 _ rfl).2
 have HO3:=Hj hO3
 have HRo:=Hj (hRo.below bz)
 have HB3:=Hj ((Uh HB2).trans (b2z.mono (Uh HB2).size))
 have HBn:=Hj (show wb.heap.size < b ∧ w.heap.size ≤ b from by have:=(Uh HO2).lt; have:=Uh HWB; omega)
 clear KO hRo b3 bz b2z hZ hO3 q0 q1 q2 q3 hbn
 go_wp2_with fail
 have hf:=((Uh HO3).put 0 (.int .i64 (R:Int))).put 1 (.slice (some ⟨b,0,none⟩) nn nn)
 have t0:=(hf.all 0 _ rfl).1
 have t1:=(hf.all 1 _ rfl).1
 have cc:Chg (fun j => j = wb.heap.size) wz ((wz.setCell ⟨wb.heap.size,0,none⟩ (.int .i64 (R:Int))).setCell ⟨wb.heap.size,1,none⟩ (.slice (some ⟨b,0,none⟩) nn nn)):=(Chg.of_set (S:=fun j => j = wb.heap.size) _ _ _ _ rfl).trans (Chg.of_set (S:=fun j => j = wb.heap.size) _ _ _ _ rfl)
 generalize (wz.setCell ⟨wb.heap.size,0,none⟩ (.int .i64 (R:Int))).setCell ⟨wb.heap.size,1,none⟩ (.slice (some ⟨b,0,none⟩) nn nn) = wf at *
 refine bodyPost_ret (by simp [results,Tryz.results21,go_sem,t0,t1]; try rfl) rfl ?_
 have h9:=Uh HWB
 exact ⟨b,(Uh HBn).2,rfl,(Uh HRo).chg cc (fun e => by have:=(Uh HBn).1; omega),(Uh HB3).trans (cc.below (Uh HB3).size (fun j hj e => by omega))⟩
def NeP (st cols:List Int) (R u v:Nat):Prop:=u ≠ v ∧ (InC st cols v u ∨ ∃ j,j < R ∧ InC st cols j u ∧ InC st cols v j)
def NeQ (st cols:List Int) (R u v x:Nat):Prop:=∃ a b,a < R ∧ b < R ∧ x = a * R + b ∧ (a < u ∨ a = u ∧ b < v) ∧ NeP st cols R a b
theorem NeQ.first (st cols:List Int) (R x:Nat):¬ NeQ st cols R 0 0 x:=by
 rintro ⟨a,b,_,_,_,h,_⟩
 omega
theorem NeQ.nextU {st cols:List Int} {R u x:Nat}:NeQ st cols R (u + 1) 0 x ↔ NeQ st cols R u R x:=by
 constructor
 ·rintro ⟨a,b,h1,h2,h3,h4,h5⟩
  exact ⟨a,b,h1,h2,h3,by omega,h5⟩
 ·rintro ⟨a,b,h1,h2,h3,h4,h5⟩
  exact ⟨a,b,h1,h2,h3,by omega,h5⟩
theorem NeQ.at {st cols:List Int} {R u v:Nat} (hu:u < R) (hv:v < R):NeQ st cols R u (v + 1) (u * R + v) ↔ NeP st cols R u v:=by
 constructor
 ·rintro ⟨a,b,h1,h2,h3,h4,h5⟩
  obtain ⟨rfl,rfl⟩:=idx_one hv h2 h3
  exact h5
 ·intro h
  exact ⟨u,v,hu,hv,rfl,.inr ⟨rfl,by omega⟩,h⟩
theorem NeQ.other {st cols:List Int} {R u v x:Nat} (hx:x ≠ u * R + v):NeQ st cols R u (v + 1) x ↔ NeQ st cols R u v x:=by
 constructor
 ·rintro ⟨a,b,h1,h2,h3,h4,h5⟩
  refine ⟨a,b,h1,h2,h3,?_,h5⟩
  by_cases e:a = u ∧ b = v
  ·obtain ⟨rfl,rfl⟩:=e
   exact absurd h3 hx
  ·omega
 ·rintro ⟨a,b,h1,h2,h3,h4,h5⟩
  exact ⟨a,b,h1,h2,h3,by omega,h5⟩
theorem NeQ.last {st cols:List Int} {R u v:Nat} (hu:u < R) (hv:v < R):NeQ st cols R R 0 (u * R + v) ↔ NeP st cols R u v:=by
 constructor
 ·rintro ⟨a,b,h1,h2,h3,h4,h5⟩
  obtain ⟨rfl,rfl⟩:=idx_one hv h2 h3
  exact h5
 ·intro h
  exact ⟨u,v,hu,hv,rfl,.inl hu,h⟩
theorem NrP.ne {st cols:List Int} {R:Nat} (hm:MayP (R:Int) (R:Int) st cols) (hg:GraP st cols R R) {u v:Nat} (hu:u < R) (hv:v < R):(NrP st cols R (u * 128 + v) ∧ u ≠ v) ↔ NeP st cols R u v:=by
 have hf:=hm.head.fit
 have sym:∀ a b,a < R → b < R → (InC st cols a b ↔ InC st cols b a):=fun a b ha hb => ⟨hg.2.1 a b ha hb,hg.2.1 b a hb ha⟩
 unfold NeP
 constructor
 ·rintro ⟨⟨i,hi,h⟩,hne⟩
  refine ⟨hne,?_⟩
  rcases h with h | ⟨t,ht,h⟩
  ·rw [MeP.mem (rowL_rng hm hi) (by omega),rowL_mem hm hi,rowL_mem hm hi] at h
   exact .inr ⟨i,hi,(sym u i hu hi).1 h.1,h.2⟩
  ·have hr:=rowL_rng hm hi t ht
   have e1:i = u:=by omega
   subst e1
   left
   refine (rowL_mem hm hi).1 (mem_getD.2 ⟨t,ht,by omega⟩)
 ·rintro ⟨hne,h⟩
  refine ⟨?_,hne⟩
  rcases h with h | ⟨j,hj,h1,h2⟩
  ·obtain ⟨t,ht,e⟩:=mem_getD.1 ((rowL_mem hm hu).2 h)
   exact ⟨u,hu,.inr ⟨t,ht,by rw [e]; simp⟩⟩
  ·refine ⟨j,hj,.inl ?_⟩
   rw [MeP.mem (rowL_rng hm hj) (by omega),rowL_mem hm hj,rowL_mem hm hj]
   exact ⟨(sym j u hj hu).1 h1,h2⟩
def givO:Obj:=.cells #[.slice none 0 0,.slice none 0 0,.slice none 0 0,.slice none 0 0,.slice none 0 0,.slice none 0 0,.slice none 0 0,.slice none 0 0,.slice none 0 0,.slice none 0 0,.slice none 0 0,.slice none 0 0,.slice none 0 0,.slice none 0 0,.slice none 0 0,.slice none 0 0,.slice none 0 0,.slice none 0 0,.slice none 0 0,.slice none 0 0] 65
theorem nil20 (i:Nat) (h:i < 20):(#[.slice none 0 0,.slice none 0 0,.slice none 0 0,.slice none 0 0,.slice none 0 0,.slice none 0 0,.slice none 0 0,.slice none 0 0,.slice none 0 0,.slice none 0 0,.slice none 0 0,.slice none 0 0,.slice none 0 0,.slice none 0 0,.slice none 0 0,.slice none 0 0,.slice none 0 0,.slice none 0 0,.slice none 0 0,.slice none 0 0]:Array Value)[i]? = some (.slice none 0 0):=by
 have:(#[.slice none 0 0,.slice none 0 0,.slice none 0 0,.slice none 0 0,.slice none 0 0,.slice none 0 0,.slice none 0 0,.slice none 0 0,.slice none 0 0,.slice none 0 0,.slice none 0 0,.slice none 0 0,.slice none 0 0,.slice none 0 0,.slice none 0 0,.slice none 0 0,.slice none 0 0,.slice none 0 0,.slice none 0 0,.slice none 0 0]:Array Value) = Array.replicate 20 (.slice none 0 0):=rfl
 rw [this,Array.getElem?_replicate,if_pos h]
theorem GivI.made (w:World):GivI (w.alloc givO) w.heap.size (.slice none 0 0) (.slice none 0 0) [] (fun _ => .slice none 0 0):=by
 refine ⟨⟨_,alloc_block w _,rfl,rfl,rfl,fun i _ h20 => nil20 i h20⟩,⟨rfl,.inl ⟨rfl,rfl⟩⟩,⟨rfl,.inl ⟨rfl,rfl⟩⟩,fun k e => by simp [Value.ownBlock] at e,fun e he => by cases he⟩
set_option maxRecDepth 20000 in
set_option maxHeartbeats 1000000 in
theorem num12_any (x:Int) (w:World):Calls Tryz.prog 11 #[.int .i64 x] w fun e w' => e = .returned (.int .i64 x) ∧ w' = w:=by
 go_enter Tryz.func11,Tryz.ntmps11
 go_wp2_with fail
 try go_ret
 exact ⟨rfl,rfl⟩
structure PaB (W:World) (B:Nat) (v0 v1:Value) (X n:Nat) (S C:List Int) (a1:Option Addr) (c1:Nat) (a2:Option Addr) (c2:Nat):Prop where
 box:BoxP W X [.int .i64 (n:Int),.int .i64 (n:Int),.slice a1 S.length c1,.slice a2 C.length c2]
 s1:SlI W a1 S.length c1 S
 s2:SlI W a2 C.length c2 C
 nx:¬ Own B v0 v1 X
 n1:∀ z,a1 = some z → S ≠ [] → ¬ Own B v0 v1 z.block
 n2:∀ z,a2 = some z → C ≠ [] → ¬ Own B v0 v1 z.block
theorem PaB.below {W W':World} {B:Nat} {v0 v1:Value} {X n:Nat} {S C:List Int} {a1:Option Addr} {c1:Nat} {a2:Option Addr} {c2:Nat} (h:PaB W B v0 v1 X n S C a1 c1 a2 c2) (k:Below W.heap.size W W'):PaB W' B v0 v1 X n S C a1 c1 a2 c2 :=
 ⟨h.box.below k,h.s1.below k,h.s2.below k,h.nx,h.n1,h.n2⟩
theorem PaB.made {W W':World} {B:Nat} {v0 v1:Value} {es:List EntI} {rs:Nat → Value} {n:Nat} {S C:List Int} {a1:Option Addr} {c1:Nat} {a2:Option Addr} {c2:Nat} (hg:GivI W B v0 v1 es rs) (s1:SlI W' a1 S.length c1 S) (s2:SlI W' a2 C.length c2 C) (k:Below W.heap.size W W') (f1:∀ z,a1 = some z → W.heap.size ≤ z.block) (f2:∀ z,a2 = some z → W.heap.size ≤ z.block) :
  PaB (W'.alloc (.cells #[.int .i64 (n:Int),.int .i64 (n:Int),.slice a1 S.length c1,.slice a2 C.length c2] 25)) B v0 v1 W'.heap.size n S C a1 c1 a2 c2:=by
 have ba:Below W'.heap.size W' (W'.alloc (.cells #[.int .i64 (n:Int),.int .i64 (n:Int),.slice a1 S.length c1,.slice a2 C.length c2] 25)):=bAl
 refine ⟨BoxP.made W' _ _,s1.below ba,s2.below ba,fun e => ?_,fun z hz _ e => ?_,fun z hz _ e => ?_⟩
 ·have:=hg.own_lt e; have:=k.size; omega
 ·have:=hg.own_lt e; have:=f1 z hz; omega
 ·have:=hg.own_lt e; have:=f2 z hz; omega
def PlQ (rs cs:List Int) (k r c:Nat):Prop:=∃ i,i < k ∧ rs.getD i 0 = (r:Int) ∧ cs.getD i 0 = (c:Int)
theorem idx_inj {N a b c d:Nat} (hb:b < N) (hd:d < N) (h:a * N + b = c * N + d):a = c ∧ b = d:=by
 have h1:(a * N + b) / N = a:=by rw [Nat.mul_comm,Nat.mul_add_div (by omega),Nat.div_eq_of_lt hb,Nat.add_zero]
 have h2:(c * N + d) / N = c:=by rw [Nat.mul_comm,Nat.mul_add_div (by omega),Nat.div_eq_of_lt hd,Nat.add_zero]
 have:a = c:=by rw [← h1,← h2,h]
 subst this
 exact ⟨rfl,by omega⟩
set_option maxRecDepth 100000 in
set_option maxHeartbeats 16000000 in
theorem wbuild_any (R N n:Nat) (ar:Option Addr) (dr:Nat) (ac:Option Addr) (dc:Nat) (rs cs:List Int) (w:World) (hR:R ≤ 128) (hN:N ≤ 128) (h1:SlI w ar n dr rs) (h2:SlI w ac n dc cs) (hn:n ≤ 17592186044000) (hin:∀ i,i < n → 0 ≤ rs.getD i 0 ∧ rs.getD i 0 < (R:Int) ∧ 0 ≤ cs.getD i 0 ∧ cs.getD i 0 < (N:Int)) :
  Calls Tryz.prog 48 #[.int .i64 (R:Int),.int .i64 (N:Int),.slice ar n dr,.slice ac n dc] w fun e w' => ∃ a1 c1 a2 c2,e = .returned (.tuple #[.agg #[.int .i64 (R:Int),.int .i64 (N:Int),.slice a1 (grS (PlQ rs cs n) N R).length c1,.slice a2 (grC (PlQ rs cs n) N R).length c2],.int .i64 0]) ∧ SlI w' a1 (grS (PlQ rs cs n) N R).length c1 (grS (PlQ rs cs n) N R) ∧ SlI w' a2 (grC (PlQ rs cs n) N R).length c2 (grC (PlQ rs cs n) N R) ∧ Below w.heap.size w w' ∧ (∀ z,a1 = some z → w.heap.size ≤ z.block) ∧ (∀ z,a2 = some z → w.heap.size ≤ z.block):=by
 have HS:=Hj (And.intro h1 h2)
 have HIN:=Hj hin
 obtain ⟨m,hm⟩:∃ m,R * N = m:=⟨_,rfl⟩
 have hm2:m ≤ 16384:=by rw [← hm]; exact Nat.mul_le_mul hR hN
 have HM:=Hj hm
 have d1:decide ((R:Int) ≥ 0) = true:=by simp
 have d2:decide ((N:Int) ≥ 0) = true:=by simp
 have i1:(R:Int) ≥ 0:=by omega
 have i2:(N:Int) ≥ 0:=by omega
 have i3:(R:Int) ≤ 128:=by omega
 have i4:(N:Int) ≤ 128:=by omega
 have e0:((n:Int) != (n:Int)) = false:=by simp
 have KE:=Hj (fun W => wempty_any R N W hR hN)
 rw [hm] at KE
 unfold gridV at KE
 have hO0:=BoxP.made w #[.int .i64 0,.int .i64 0,.slice none 0 0,.slice none 0 0] 25
 obtain ⟨wo,hwo⟩:∃ x,w.alloc (.cells #[.int .i64 0,.int .i64 0,.slice none 0 0,.slice none 0 0] 25) = x:=⟨_,rfl⟩
 have bo:Below w.heap.size w wo:=by rw [← hwo]; exact bAl
 rw [hwo] at hO0
 have hlo:=hO0.lt
 have HO0:=Hj hO0
 have HBO:=Hj bo
 obtain ⟨S,hS⟩:∃ S,grS (PlQ rs cs n) N R = S:=⟨_,rfl⟩
 obtain ⟨C,hC⟩:∃ C,grC (PlQ rs cs n) N R = C:=⟨_,rfl⟩
 have HSC:=Hj (And.intro hS hC)
 rw [hS,hC]
 clear h1 h2 hin hm hO0 bo hS hC
 go_enter Tryz.func48,Tryz.ntmps48
 go_wp2_with fail
 refine (sized_any (R:Int) (N:Int) wo).mono ?_
 rintro _ ws ⟨⟨b,rfl,hb⟩,rfl⟩
 obtain rfl:b = true:=hb.2 ⟨by omega,by omega,by omega,by omega⟩
 clear hb
 go_wp2_with fail
 refine (Uh KE ws).mono ?_
 rintro _ w2 ⟨gb,rfl,hge,hlt,hRo,b2⟩
 have HB2:=Hj ((Uh HBO).trans (b2.mono (Uh HBO).size))
 have HGB:=Hj (show ws.heap.size ≤ gb ∧ gb < w2.heap.size from ⟨hge,hlt⟩)
 have HO2:=Hj ((Uh HO0).below b2)
 clear KE
 try dsimp only
 repeat ((fail_if_success (with_reducible (show Code.wp _ _ _ _ (World.alloc w2 (Obj.cells #[_,_,.slice (some ⟨gb,0,none⟩) m m] _))))); (first | go_values | go_skip | go_guarded | go_step | go_upon | go_back))
 have hG:=BoxP.made w2 #[.int .i64 (R:Int),.int .i64 (N:Int),.slice (some ⟨gb,0,none⟩) m m] 131
 have bg:Below w2.heap.size w2 (w2.alloc (.cells #[.int .i64 (R:Int),.int .i64 (N:Int),.slice (some ⟨gb,0,none⟩) m m] 131)):=bAl
 have hb3:=(Uh HB2).trans (bg.mono (Uh HB2).size)
 have HRo:=Hj (hRo.below bg)
 have HO3:=Hj ((Uh HO2).below bg)
 clear b2 bg hRo hge hlt
 generalize w2.alloc (.cells #[.int .i64 (R:Int),.int .i64 (N:Int),.slice (some ⟨gb,0,none⟩) m m] 131) = w3 at *
 have HB3:=Hj hb3
 have HNx:=Hj (show ∀ W,Chg (fun j => j = gb) w3 W → BoxP W w2.heap.size [.int .i64 (R:Int),.int .i64 (N:Int),.slice (some ⟨gb,0,none⟩) m m] ∧ BoxP W w.heap.size [.int .i64 0,.int .i64 0,.slice none 0 0,.slice none 0 0] ∧ SlI W ar n dr rs ∧ SlI W ac n dc cs ∧ Below w.heap.size w W from fun W c => by
  have h1:=Uh HGB
  have h2:=(Uh HBO).size
  have hlt:∀ (j:Nat),j < w.heap.size → ¬ (j = gb):=fun j hj => by omega
  have hbW:=hb3.trans (c.below hb3.size (fun j hj e => by omega))
  exact ⟨hG.chg c (fun e => by omega),(Uh HO3).chg c (fun e => by have e:w.heap.size = gb:=e; omega),(Uh HS).1.below hbW,(Uh HS).2.below hbW,hbW⟩)
 clear hG hb3
 go_wp2_with fail
 go_loopw [11] (fun iv wr => ∃ i:Nat,i ≤ n ∧ iv = .int .i64 (i:Int) ∧ Hid (RoV wr gb m (fun x => .bool (tb (∃ r c,r < R ∧ c < N ∧ x = r * N + c ∧ PlQ rs cs i r c)))) ∧ Hid (Chg (fun j => j = gb) w3 wr)) (fun iv _ => n - (intOf iv).toNat)
 case atStart => exact ⟨0,Nat.zero_le _,rfl,Hj ((Uh HRo).congr (fun x hx => by rw [tb_no (fun ⟨r,c,_,_,_,i,hi,_⟩ => by omega)])),Hj (Chg.refl _ _)⟩
 case round =>
  obtain ⟨i,hi,rfl,HR,HC⟩:=hrel
  have hx:=Uh HNx wr (Uh HC)
  have p0:=(hx.1.all 0 _ rfl).1
  have p1:=(hx.1.all 1 _ rfl).1
  have p2:=(hx.1.all 2 _ rfl).1
  by_cases hlt:i < n
  ·have hlt':(i:Int) < (n:Int):=by omega
   obtain ⟨br,or_,e1,hr1⟩:=hx.2.2.1.at (by omega)
   obtain ⟨bc,oc,e2,hc1⟩:=hx.2.2.2.1.at (by omega)
   subst e1 e2
   have s0:=hr1 i hlt
   have s1:=hc1 i hlt
   obtain ⟨g1,g2,g3,g4⟩:=Uh HIN i hlt
   obtain ⟨r,hr⟩:∃ r:Nat,rs.getD i 0 = (r:Int):=⟨(rs.getD i 0).toNat,by omega⟩
   obtain ⟨c,hc⟩:∃ c:Nat,cs.getD i 0 = (c:Int):=⟨(cs.getD i 0).toNat,by omega⟩
   rw [hr] at s0 g1 g2
   rw [hc] at s1 g3 g4
   have hrR:r < R:=by omega
   have hcN:c < N:=by omega
   have hidx:r * N + c < m:=by rw [← Uh HM]; exact idx_lt hrR hcN
   have q0:=(Uh HR (r * N + c) hidx).1
   have q1:=(Uh HR (r * N + c) hidx).2
   have HN2:=Hj (show RoV (wr.setCell ⟨gb,r * N + c,none⟩ (.bool true)) gb m (fun x => .bool (tb (∃ r c,r < R ∧ c < N ∧ x = r * N + c ∧ PlQ rs cs (i + 1) r c))) from ((Uh HR).put (r * N + c) (.bool true) hidx).congr (fun x hx => by
    by_cases e:x = r * N + c
    ·rw [if_pos e,tb_yes ⟨r,c,hrR,hcN,e,i,by omega,hr,hc⟩]
    ·rw [if_neg e]
     congr 1
     refine tb_congr ⟨fun ⟨a,b,h1,h2,h3,j,h4,h5⟩ => ⟨a,b,h1,h2,h3,j,by omega,h5⟩,fun ⟨a,b,h1,h2,h3,j,h4,h5,h6⟩ => ⟨a,b,h1,h2,h3,j,?_,h5,h6⟩⟩
     by_cases e2:j = i
     ·subst e2
      rw [hr] at h5
      rw [hc] at h6
      exfalso
      have e5:a = r:=by omega
      have e6:b = c:=by omega
      subst e5 e6
      exact e h3
     ·omega))
   have HC2:=Hj ((Uh HC).trans (Chg.of_set (S:=fun j => j = gb) wr gb (r * N + c) (.bool true) rfl))
   obtain ⟨q,hq⟩:∃ q,r * N = q:=⟨_,rfl⟩
   obtain ⟨x,hx9⟩:∃ x,q + c = x:=⟨_,rfl⟩
   have hw1:IntKind.i64.wrap ((r:Int) * (N:Int)) = (q:Int):=by
    have:(r:Int) * (N:Int) = ((r * N:Nat):Int):=by push_cast; rfl
    rw [this,IntKind.wrap_i64,hq]; omega
   have hw2:IntKind.i64.wrap ((q:Int) + (c:Int)) = (x:Int):=by rw [IntKind.wrap_i64]; omega
   rw [hq,hx9] at q0 q1 HN2 HC2 hidx
   have hxm:(x:Int) < (m:Int):=by omega
   clear hq hx9
   have k1:¬ (r:Int) < 0:=by omega
   have k2:¬ (r:Int) ≥ (R:Int):=by omega
   have k3:¬ (c:Int) < 0:=by omega
   have k4:¬ (c:Int) ≥ (N:Int):=by omega
   have d3:decide (R ≤ r) = false:=by simp; omega
   have d4:decide (N ≤ c) = false:=by simp; omega
   clear hx hr1 hc1 hr hc
   go_wp2_with fail
   refine wp_region_still_tail 14 (by kernel_rfl) (by kernel_rfl) ?_
   simp only [List.take_succ_cons,List.take_zero,List.drop_succ_cons,List.drop_zero]
   repeat still_step
   refine wpStill_nil ?_
   go_wp2_with fail
   exact ⟨⟨i + 1,by omega,by (first | rfl | go_num),Hj ((Uh HN2).below (Below.refl _ _).drew),Hj ((Uh HC2).trans (Chg.of_drew _))⟩,by simp [intOf]; omega⟩
  ·obtain rfl:i = n:=by omega
   have hlt':¬ (i:Int) < (i:Int):=by omega
   have KS:=Hj (show ∀ W,Below wr.heap.size wr W → Calls Tryz.prog 79 #[gridV R N gb m] W fun e w' => GpQ W w' e R N S C from fun W b => by
    rw [← (Uh HSC).1,← (Uh HSC).2]
    exact wshut9_any R N gb m (fun x => tb (∃ r c,r < R ∧ c < N ∧ x = r * N + c ∧ PlQ rs cs i r c)) (PlQ rs cs i) W hR hN (Uh HM) ((Uh HR).below b) (fun u v hu hv => tb_iff.trans ⟨fun ⟨a,b,h1,h2,h3,h4⟩ => by
     obtain ⟨e1,e2⟩:=idx_inj hv h2 h3
     subst e1 e2
     exact h4,fun h => ⟨u,v,hu,hv,rfl,h⟩⟩))
   unfold gridV at KS
   have HOr:=Hj hx.2.1
   have HBr:=Hj hx.2.2.2.2
   clear hx
   have k0:=p0
   have k1:=p1
   have k2:=p2
   have hsb:=World.block_lt_of_cell? _ _ p0
   clear p0 p1 p2
   go_wp2_with fail
   refine (Uh KS wr (Below.refl _ _)).mono ?_
   rintro _ wk ⟨x1,d1,x2,d2,rfl,g1,g2,bk,f1,f2⟩
   have HG:=Hj (And.intro g1 g2)
   have HFr:=Hj (And.intro f1 f2)
   have HBK:=Hj bk
   have HOk:=Hj ((Uh HOr).below bk)
   have o0:=((Uh HOk).all 0 _ rfl).1
   have o1:=((Uh HOk).all 1 _ rfl).1
   have o2:=((Uh HOk).all 2 _ rfl).1
   have o3:=((Uh HOk).all 3 _ rfl).1
   have y0:=((Uh HOk).all 0 _ rfl).2
   have y1:=((Uh HOk).all 1 _ rfl).2
   have y2:=((Uh HOk).all 2 _ rfl).2
   have y3:=((Uh HOk).all 3 _ rfl).2
   clear g1 g2 f1 f2 bk k0 k1 k2 KS
   go_wp2_with fail
   have hf:=((((Uh HOk).put 0 (.int .i64 (R:Int))).put 1 (.int .i64 (N:Int))).put 2 (.slice x1 S.length d1)).put 3 (.slice x2 C.length d2)
   have t0:=(hf.all 0 _ rfl).1
   have t1:=(hf.all 1 _ rfl).1
   have t2:=(hf.all 2 _ rfl).1
   have t3:=(hf.all 3 _ rfl).1
   have cc:Chg (fun j => j = w.heap.size) wk ((((wk.setCell ⟨w.heap.size,0,none⟩ (.int .i64 (R:Int))).setCell ⟨w.heap.size,1,none⟩ (.int .i64 (N:Int))).setCell ⟨w.heap.size,2,none⟩ (.slice x1 S.length d1)).setCell ⟨w.heap.size,3,none⟩ (.slice x2 C.length d2)):=(((Chg.of_set (S:=fun j => j = w.heap.size) _ _ _ _ rfl).trans (Chg.of_set (S:=fun j => j = w.heap.size) _ _ _ _ rfl)).trans (Chg.of_set (S:=fun j => j = w.heap.size) _ _ _ _ rfl)).trans (Chg.of_set (S:=fun j => j = w.heap.size) _ _ _ _ rfl)
   generalize (((wk.setCell ⟨w.heap.size,0,none⟩ (.int .i64 (R:Int))).setCell ⟨w.heap.size,1,none⟩ (.int .i64 (N:Int))).setCell ⟨w.heap.size,2,none⟩ (.slice x1 S.length d1)).setCell ⟨w.heap.size,3,none⟩ (.slice x2 C.length d2) = wf at *
   refine bodyPost_ret (by simp [results,Tryz.results48,go_sem,t0,t1,t2,t3]; try rfl) rfl ?_
   have h7:=(Uh HOr).lt
   have h6:=(Uh HBr).size
   refine ⟨x1,d1,x2,d2,rfl,(Uh HG).1.chg cc (fun z hz _ e => ?_),(Uh HG).2.chg cc (fun z hz _ e => ?_),?_,fun z hz => ?_,fun z hz => ?_⟩
   ·have:=(Uh HFr).1 z hz; have e:z.block = w.heap.size:=e; omega
   ·have:=(Uh HFr).2 z hz; have e:z.block = w.heap.size:=e; omega
   ·have hk:=(Uh HBr).trans ((Uh HBK).mono h6)
    exact hk.trans (cc.below hk.size (fun j hj e => by have e:j = w.heap.size:=e; omega))
   ·have:=(Uh HFr).1 z hz; omega
   ·have:=(Uh HFr).2 z hz; omega
end Go.Proofs.YtgjokididdffhaaGreat
