/- Cj2 -/
import Derived.Test.YtgjokididdffhaaGreatDa2
import Derived.Test.YtgjokididdffhaaGreatRq0
namespace Go.Proofs.YtgjokididdffhaaGreat
open Go.RowKit Go.Deep
set_option linter.unusedVariables false
set_option maxRecDepth 100000 in
set_option maxHeartbeats 16000000 in
theorem wthings_bad4 (R width:Nat) (a1 a2:Option Addr) (n1 c1 n2 c2:Nat) (st cols:List Int) (w:World) (h1:SlI w a1 n1 c1 st) (h2:SlI w a2 n2 c2 cols) (hb1:n1 ≤ 17592186044416) (hb2:n2 ≤ 17592186044416) (hm:MayP (R:Int) (width:Int) st cols) (hg:¬ GraP st cols R width) :
  Calls Tryz.prog 21 #[.int .i64 4,patV (R:Int) (width:Int) a1 n1 c1 a2 n2 c2] w fun e w' => e = .returned (.tuple #[.agg #[.int .i64 0,.slice none 0 0],.int .i64 220]) ∧ Below w.heap.size w w':=by
 obtain ⟨wb,hwb⟩:∃ x,w.alloc (.cells #[.int .i64 (R:Int),.int .i64 (width:Int),.slice a1 n1 c1,.slice a2 n2 c2] 25) = x:=⟨_,rfl⟩
 have bb:Below w.heap.size w wb:=by rw [← hwb]; exact bAl
 have hT:=BoxP.made w #[.int .i64 (R:Int),.int .i64 (width:Int),.slice a1 n1 c1,.slice a2 n2 c2] 25
 rw [hwb] at hT
 have hO0:=BoxP.made wb #[.int .i64 0,.slice none 0 0] 45
 obtain ⟨wo,hwo⟩:∃ x,wb.alloc (.cells #[.int .i64 0,.slice none 0 0] 45) = x:=⟨_,rfl⟩
 have bo:Below wb.heap.size wb wo:=by rw [← hwo]; exact bAl
 rw [hwo] at hO0
 have hT1:=hT.below bo
 have p0:=(hT1.all 0 _ rfl).1
 have p1:=(hT1.all 1 _ rfl).1
 have p2:=(hT1.all 2 _ rfl).1
 have p3:=(hT1.all 3 _ rfl).1
 have bw:=bb.trans (bo.mono bb.size)
 have HT:=Hj hT1
 have HO:=Hj hO0
 have HB:=Hj bw
 have HWB:=Hj bb.size
 have HS:=Hj (And.intro h1 h2)
 have KM:=Hj (wsmay_any (R:Int) (width:Int) a1 a2 n1 c1 n2 c2 st cols wo (h1.below bw) (h2.below bw) hb1 hb2)
 unfold patV at KM
 have HTQ:=Hj (show TruQ true (MayP (R:Int) (width:Int) st cols) from ⟨fun _ => hm,fun _ => rfl⟩)
 have HM:=Hj hm
 have HGR:=Hj hg
 clear hT hT1 hO0 bb bo bw h1 h2 hm hg
 unfold patV
 go_enter Tryz.func21,Tryz.ntmps21
 go_wp2_with fail
 refine (Uh KM).mono ?_
 intro e w2 hq
 obtain ⟨rfl,b2⟩:=hq.known (Uh HTQ)
 have hT2:=(Uh HT).below b2
 have q0:=(hT2.all 0 _ rfl).1
 have q1:=(hT2.all 1 _ rfl).1
 have q2:=(hT2.all 2 _ rfl).1
 have q3:=(hT2.all 3 _ rfl).1
 have bw2:=(Uh HB).trans (b2.mono (Uh HB).size)
 have hO2:=(Uh HO).below b2
 have KO:=Hj (show Calls Tryz.prog 46 #[patV (R:Int) (width:Int) a1 n1 c1 a2 n2 c2] w2 fun e w' => e = .returned (.tuple #[.agg #[.int .i64 0,.slice none 0 0],.bool false]) ∧ Below w2.heap.size w2 w' from by
  by_cases hRw:R = width
  ·subst hRw
   exact (wopenG_any R a1 a2 n1 c1 n2 c2 st cols w2 ((Uh HS).1.below bw2) ((Uh HS).2.below bw2) hb1 hb2 (Uh HM) false ⟨fun e => absurd e (by decide),fun h => absurd h (Uh HGR)⟩).mono (fun e w' (h:OgP _ _ _ _ _ _ _) => ⟨h.2.2 rfl,h.1⟩)
  ·exact wopenG_no R width a1 a2 n1 c1 n2 c2 st cols w2 ((Uh HS).1.below bw2) ((Uh HS).2.below bw2) hb1 hb2 hRw)
 unfold patV at KO
 have HO2:=Hj hO2
 have HB2:=Hj bw2
 clear hq KM b2 hT2 hO2 bw2 p0 p1 p2 p3
 go_wp2_with fail
 refine (Uh KO).mono ?_
 rintro _ w3 ⟨rfl,b3⟩
 have bz:Below w3.heap.size w3 (w3.alloc (.cells #[.int .i64 0,.slice none 0 0] 45)):=bAl
 have b2z:=b3.trans (bz.mono b3.size)
 have hO3:=(Uh HO2).below b2z
 have o0:=(hO3.all 0 _ rfl).1
 have o1:=(hO3.all 1 _ rfl).1
 have r0:=(hO3.all 0 _ rfl).2
 have r1:=(hO3.all 1 _ rfl).2
 have HO3:=Hj hO3
 have HB3:=Hj ((Uh HB2).trans (b2z.mono (Uh HB2).size))
 clear KO b3 bz b2z hO3 q0 q1 q2 q3
 go_wp2_with fail
 have hf:=((Uh HO3).put 0 (.int .i64 0)).put 1 (.slice none 0 0)
 have t0:=(hf.all 0 _ rfl).1
 have t1:=(hf.all 1 _ rfl).1
 have cc:Chg (fun j => j = wb.heap.size) (w3.alloc (.cells #[.int .i64 0,.slice none 0 0] 45)) (((w3.alloc (.cells #[.int .i64 0,.slice none 0 0] 45)).setCell ⟨wb.heap.size,0,none⟩ (.int .i64 0)).setCell ⟨wb.heap.size,1,none⟩ (.slice none 0 0)):=(Chg.of_set (S:=fun j => j = wb.heap.size) _ _ _ _ rfl).trans (Chg.of_set (S:=fun j => j = wb.heap.size) _ _ _ _ rfl)
 generalize ((w3.alloc (.cells #[.int .i64 0,.slice none 0 0] 45)).setCell ⟨wb.heap.size,0,none⟩ (.int .i64 0)).setCell ⟨wb.heap.size,1,none⟩ (.slice none 0 0) = wf at *
 refine bodyPost_ret (by simp [results,Tryz.results21,go_sem,t0,t1]; try rfl) rfl ?_
 have h9:=Uh HWB
 exact ⟨rfl,(Uh HB3).trans (cc.below (Uh HB3).size (fun j hj e => by omega))⟩
set_option maxRecDepth 100000 in
set_option maxHeartbeats 16000000 in
theorem wthings_yes4 (R:Nat) (a1 a2:Option Addr) (n1 c1 n2 c2:Nat) (st cols:List Int) (w:World) (h1:SlI w a1 n1 c1 st) (h2:SlI w a2 n2 c2 cols) (hb1:n1 ≤ 17592186044416) (hb2:n2 ≤ 17592186044416) (hm:MayP (R:Int) (R:Int) st cols) (hg:GraP st cols R R) :
  Calls Tryz.prog 21 #[.int .i64 4,patV (R:Int) (R:Int) a1 n1 c1 a2 n2 c2] w fun e w' => TgP w w' e R (R * R) (fun x => tb (Vis R R st cols cols.length x)):=by
 obtain ⟨wb,hwb⟩:∃ x,w.alloc (.cells #[.int .i64 (R:Int),.int .i64 (R:Int),.slice a1 n1 c1,.slice a2 n2 c2] 25) = x:=⟨_,rfl⟩
 have bb:Below w.heap.size w wb:=by rw [← hwb]; exact bAl
 have hT:=BoxP.made w #[.int .i64 (R:Int),.int .i64 (R:Int),.slice a1 n1 c1,.slice a2 n2 c2] 25
 rw [hwb] at hT
 have hO0:=BoxP.made wb #[.int .i64 0,.slice none 0 0] 45
 obtain ⟨wo,hwo⟩:∃ x,wb.alloc (.cells #[.int .i64 0,.slice none 0 0] 45) = x:=⟨_,rfl⟩
 have bo:Below wb.heap.size wb wo:=by rw [← hwo]; exact bAl
 rw [hwo] at hO0
 have hT1:=hT.below bo
 have p0:=(hT1.all 0 _ rfl).1
 have p1:=(hT1.all 1 _ rfl).1
 have p2:=(hT1.all 2 _ rfl).1
 have p3:=(hT1.all 3 _ rfl).1
 have bw:=bb.trans (bo.mono bb.size)
 have HT:=Hj hT1
 have HO:=Hj hO0
 have HB:=Hj bw
 have HWB:=Hj bb.size
 have HS:=Hj (And.intro h1 h2)
 have KM:=Hj (wsmay_any (R:Int) (R:Int) a1 a2 n1 c1 n2 c2 st cols wo (h1.below bw) (h2.below bw) hb1 hb2)
 unfold patV at KM
 have HTQ:=Hj (show TruQ true (MayP (R:Int) (R:Int) st cols) from ⟨fun _ => hm,fun _ => rfl⟩)
 have HM:=Hj hm
 have HGR:=Hj hg
 obtain ⟨nn,hnn⟩:∃ nn,R * R = nn:=⟨_,rfl⟩
 have HNN:=Hj hnn
 rw [hnn]
 clear hnn
 clear hT hT1 hO0 bb bo bw h1 h2 hm hg
 unfold patV
 go_enter Tryz.func21,Tryz.ntmps21
 go_wp2_with fail
 refine (Uh KM).mono ?_
 intro e w2 hq
 obtain ⟨rfl,b2⟩:=hq.known (Uh HTQ)
 have hT2:=(Uh HT).below b2
 have q0:=(hT2.all 0 _ rfl).1
 have q1:=(hT2.all 1 _ rfl).1
 have q2:=(hT2.all 2 _ rfl).1
 have q3:=(hT2.all 3 _ rfl).1
 have bw2:=(Uh HB).trans (b2.mono (Uh HB).size)
 have hO2:=(Uh HO).below b2
 have KO:=Hj ((wopenG_any R a1 a2 n1 c1 n2 c2 st cols w2 ((Uh HS).1.below bw2) ((Uh HS).2.below bw2) hb1 hb2 (Uh HM) true ⟨fun _ => Uh HGR,fun _ => rfl⟩).mono (fun e w' (h:OgP _ _ _ _ _ _ _) => (show (∃ b,w2.heap.size ≤ b ∧ e = .returned (.tuple #[grV R b (R * R),.bool true]) ∧ RoV w' b (R * R) (fun x => .bool (tb (Vis R R st cols cols.length x)))) ∧ Below w2.heap.size w2 w' from ⟨h.2.1 rfl,h.1⟩)))
 rw [Uh HNN] at KO
 unfold patV grV at KO
 have HO2:=Hj hO2
 have HB2:=Hj bw2
 clear hq KM b2 hT2 hO2 bw2 p0 p1 p2 p3
 go_wp2_with fail
 refine (Uh KO).mono ?_
 rintro _ w3 ⟨⟨b,hbn,rfl,hRo⟩,b3⟩
 obtain ⟨wz,hwz⟩:∃ x,w3.alloc (.cells #[.int .i64 (R:Int),.slice (some ⟨b,0,none⟩) nn nn] 45) = x:=⟨_,rfl⟩
 have bz:Below w3.heap.size w3 wz:=by rw [← hwz]; exact bAl
 have hZ:=BoxP.made w3 #[.int .i64 (R:Int),.slice (some ⟨b,0,none⟩) nn nn] 45
 rw [hwz] at hZ
 have z0:=(hZ.all 0 _ rfl).1
 have z1:=(hZ.all 1 _ rfl).1
 have b2z:=b3.trans (bz.mono b3.size)
 have hO3:=(Uh HO2).below b2z
 have o0:=(hO3.all 0 _ rfl).1
 have o1:=(hO3.all 1 _ rfl).1
 have r0:=(hO3.all 0 _ rfl).2
 have r1:=(hO3.all 1 _ rfl).2
 have HO3:=Hj hO3
 have HRo:=Hj (hRo.below bz)
 have HB3:=Hj ((Uh HB2).trans (b2z.mono (Uh HB2).size))
 have HBn:=Hj (show wb.heap.size < b ∧ w.heap.size ≤ b from by have:=(Uh HO2).lt; have:=Uh HWB; omega)
 clear KO hRo b3 bz b2z hZ hO3 q0 q1 q2 q3 hbn
 go_wp2_with fail
 have hf:=((Uh HO3).put 0 (.int .i64 (R:Int))).put 1 (.slice (some ⟨b,0,none⟩) nn nn)
 have t0:=(hf.all 0 _ rfl).1
 have t1:=(hf.all 1 _ rfl).1
 have cc:Chg (fun j => j = wb.heap.size) wz ((wz.setCell ⟨wb.heap.size,0,none⟩ (.int .i64 (R:Int))).setCell ⟨wb.heap.size,1,none⟩ (.slice (some ⟨b,0,none⟩) nn nn)):=(Chg.of_set (S:=fun j => j = wb.heap.size) _ _ _ _ rfl).trans (Chg.of_set (S:=fun j => j = wb.heap.size) _ _ _ _ rfl)
 generalize (wz.setCell ⟨wb.heap.size,0,none⟩ (.int .i64 (R:Int))).setCell ⟨wb.heap.size,1,none⟩ (.slice (some ⟨b,0,none⟩) nn nn) = wf at *
 refine bodyPost_ret (by simp [results,Tryz.results21,go_sem,t0,t1]; try rfl) rfl ?_
 have h9:=Uh HWB
 exact ⟨b,(Uh HBn).2,rfl,(Uh HRo).chg cc (fun e => by have:=(Uh HBn).1; omega),(Uh HB3).trans (cc.below (Uh HB3).size (fun j hj e => by omega))⟩
set_option maxRecDepth 100000 in
set_option maxHeartbeats 16000000 in
theorem wthings_bad5 (R width:Nat) (a1 a2:Option Addr) (n1 c1 n2 c2:Nat) (st cols:List Int) (w:World) (h1:SlI w a1 n1 c1 st) (h2:SlI w a2 n2 c2 cols) (hb1:n1 ≤ 17592186044416) (hb2:n2 ≤ 17592186044416) (hm:MayP (R:Int) (width:Int) st cols) (hg:¬ GraP st cols R width) :
  Calls Tryz.prog 21 #[.int .i64 5,patV (R:Int) (width:Int) a1 n1 c1 a2 n2 c2] w fun e w' => e = .returned (.tuple #[.agg #[.int .i64 0,.slice none 0 0],.int .i64 220]) ∧ Below w.heap.size w w':=by
 obtain ⟨wb,hwb⟩:∃ x,w.alloc (.cells #[.int .i64 (R:Int),.int .i64 (width:Int),.slice a1 n1 c1,.slice a2 n2 c2] 25) = x:=⟨_,rfl⟩
 have bb:Below w.heap.size w wb:=by rw [← hwb]; exact bAl
 have hT:=BoxP.made w #[.int .i64 (R:Int),.int .i64 (width:Int),.slice a1 n1 c1,.slice a2 n2 c2] 25
 rw [hwb] at hT
 have hO0:=BoxP.made wb #[.int .i64 0,.slice none 0 0] 45
 obtain ⟨wo,hwo⟩:∃ x,wb.alloc (.cells #[.int .i64 0,.slice none 0 0] 45) = x:=⟨_,rfl⟩
 have bo:Below wb.heap.size wb wo:=by rw [← hwo]; exact bAl
 rw [hwo] at hO0
 have hT1:=hT.below bo
 have p0:=(hT1.all 0 _ rfl).1
 have p1:=(hT1.all 1 _ rfl).1
 have p2:=(hT1.all 2 _ rfl).1
 have p3:=(hT1.all 3 _ rfl).1
 have bw:=bb.trans (bo.mono bb.size)
 have HT:=Hj hT1
 have HO:=Hj hO0
 have HB:=Hj bw
 have HWB:=Hj bb.size
 have HS:=Hj (And.intro h1 h2)
 have KM:=Hj (wsmay_any (R:Int) (width:Int) a1 a2 n1 c1 n2 c2 st cols wo (h1.below bw) (h2.below bw) hb1 hb2)
 unfold patV at KM
 have HTQ:=Hj (show TruQ true (MayP (R:Int) (width:Int) st cols) from ⟨fun _ => hm,fun _ => rfl⟩)
 have HM:=Hj hm
 have HGR:=Hj hg
 clear hT hT1 hO0 bb bo bw h1 h2 hm hg
 unfold patV
 go_enter Tryz.func21,Tryz.ntmps21
 go_wp2_with fail
 refine (Uh KM).mono ?_
 intro e w2 hq
 obtain ⟨rfl,b2⟩:=hq.known (Uh HTQ)
 have hT2:=(Uh HT).below b2
 have q0:=(hT2.all 0 _ rfl).1
 have q1:=(hT2.all 1 _ rfl).1
 have q2:=(hT2.all 2 _ rfl).1
 have q3:=(hT2.all 3 _ rfl).1
 have bw2:=(Uh HB).trans (b2.mono (Uh HB).size)
 have hO2:=(Uh HO).below b2
 have KO:=Hj (show Calls Tryz.prog 46 #[patV (R:Int) (width:Int) a1 n1 c1 a2 n2 c2] w2 fun e w' => e = .returned (.tuple #[.agg #[.int .i64 0,.slice none 0 0],.bool false]) ∧ Below w2.heap.size w2 w' from by
  by_cases hRw:R = width
  ·subst hRw
   exact (wopenG_any R a1 a2 n1 c1 n2 c2 st cols w2 ((Uh HS).1.below bw2) ((Uh HS).2.below bw2) hb1 hb2 (Uh HM) false ⟨fun e => absurd e (by decide),fun h => absurd h (Uh HGR)⟩).mono (fun e w' (h:OgP _ _ _ _ _ _ _) => ⟨h.2.2 rfl,h.1⟩)
  ·exact wopenG_no R width a1 a2 n1 c1 n2 c2 st cols w2 ((Uh HS).1.below bw2) ((Uh HS).2.below bw2) hb1 hb2 hRw)
 unfold patV at KO
 have HO2:=Hj hO2
 have HB2:=Hj bw2
 clear hq KM b2 hT2 hO2 bw2 p0 p1 p2 p3
 go_wp2_with fail
 refine (Uh KO).mono ?_
 rintro _ w3 ⟨rfl,b3⟩
 have bz:Below w3.heap.size w3 (w3.alloc (.cells #[.int .i64 0,.slice none 0 0] 45)):=bAl
 have b2z:=b3.trans (bz.mono b3.size)
 have hO3:=(Uh HO2).below b2z
 have o0:=(hO3.all 0 _ rfl).1
 have o1:=(hO3.all 1 _ rfl).1
 have r0:=(hO3.all 0 _ rfl).2
 have r1:=(hO3.all 1 _ rfl).2
 have HO3:=Hj hO3
 have HB3:=Hj ((Uh HB2).trans (b2z.mono (Uh HB2).size))
 clear KO b3 bz b2z hO3 q0 q1 q2 q3
 go_wp2_with fail
 have hf:=((Uh HO3).put 0 (.int .i64 0)).put 1 (.slice none 0 0)
 have t0:=(hf.all 0 _ rfl).1
 have t1:=(hf.all 1 _ rfl).1
 have cc:Chg (fun j => j = wb.heap.size) (w3.alloc (.cells #[.int .i64 0,.slice none 0 0] 45)) (((w3.alloc (.cells #[.int .i64 0,.slice none 0 0] 45)).setCell ⟨wb.heap.size,0,none⟩ (.int .i64 0)).setCell ⟨wb.heap.size,1,none⟩ (.slice none 0 0)):=(Chg.of_set (S:=fun j => j = wb.heap.size) _ _ _ _ rfl).trans (Chg.of_set (S:=fun j => j = wb.heap.size) _ _ _ _ rfl)
 generalize ((w3.alloc (.cells #[.int .i64 0,.slice none 0 0] 45)).setCell ⟨wb.heap.size,0,none⟩ (.int .i64 0)).setCell ⟨wb.heap.size,1,none⟩ (.slice none 0 0) = wf at *
 refine bodyPost_ret (by simp [results,Tryz.results21,go_sem,t0,t1]; try rfl) rfl ?_
 have h9:=Uh HWB
 exact ⟨rfl,(Uh HB3).trans (cc.below (Uh HB3).size (fun j hj e => by omega))⟩
set_option maxRecDepth 100000 in
set_option maxHeartbeats 16000000 in
theorem wthings_yes5 (R:Nat) (a1 a2:Option Addr) (n1 c1 n2 c2:Nat) (st cols:List Int) (w:World) (h1:SlI w a1 n1 c1 st) (h2:SlI w a2 n2 c2 cols) (hb1:n1 ≤ 17592186044416) (hb2:n2 ≤ 17592186044416) (hm:MayP (R:Int) (R:Int) st cols) (hg:GraP st cols R R) :
  Calls Tryz.prog 21 #[.int .i64 5,patV (R:Int) (R:Int) a1 n1 c1 a2 n2 c2] w fun e w' => TgP w w' e R (R * R) (fun x => tb (Vis R R st cols cols.length x)):=by
 obtain ⟨wb,hwb⟩:∃ x,w.alloc (.cells #[.int .i64 (R:Int),.int .i64 (R:Int),.slice a1 n1 c1,.slice a2 n2 c2] 25) = x:=⟨_,rfl⟩
 have bb:Below w.heap.size w wb:=by rw [← hwb]; exact bAl
 have hT:=BoxP.made w #[.int .i64 (R:Int),.int .i64 (R:Int),.slice a1 n1 c1,.slice a2 n2 c2] 25
 rw [hwb] at hT
 have hO0:=BoxP.made wb #[.int .i64 0,.slice none 0 0] 45
 obtain ⟨wo,hwo⟩:∃ x,wb.alloc (.cells #[.int .i64 0,.slice none 0 0] 45) = x:=⟨_,rfl⟩
 have bo:Below wb.heap.size wb wo:=by rw [← hwo]; exact bAl
 rw [hwo] at hO0
 have hT1:=hT.below bo
 have p0:=(hT1.all 0 _ rfl).1
 have p1:=(hT1.all 1 _ rfl).1
 have p2:=(hT1.all 2 _ rfl).1
 have p3:=(hT1.all 3 _ rfl).1
 have bw:=bb.trans (bo.mono bb.size)
 have HT:=Hj hT1
 have HO:=Hj hO0
 have HB:=Hj bw
 have HWB:=Hj bb.size
 have HS:=Hj (And.intro h1 h2)
 have KM:=Hj (wsmay_any (R:Int) (R:Int) a1 a2 n1 c1 n2 c2 st cols wo (h1.below bw) (h2.below bw) hb1 hb2)
 unfold patV at KM
 have HTQ:=Hj (show TruQ true (MayP (R:Int) (R:Int) st cols) from ⟨fun _ => hm,fun _ => rfl⟩)
 have HM:=Hj hm
 have HGR:=Hj hg
 obtain ⟨nn,hnn⟩:∃ nn,R * R = nn:=⟨_,rfl⟩
 have HNN:=Hj hnn
 rw [hnn]
 clear hnn
 clear hT hT1 hO0 bb bo bw h1 h2 hm hg
 unfold patV
 go_enter Tryz.func21,Tryz.ntmps21
 go_wp2_with fail
 refine (Uh KM).mono ?_
 intro e w2 hq
 obtain ⟨rfl,b2⟩:=hq.known (Uh HTQ)
 have hT2:=(Uh HT).below b2
 have q0:=(hT2.all 0 _ rfl).1
 have q1:=(hT2.all 1 _ rfl).1
 have q2:=(hT2.all 2 _ rfl).1
 have q3:=(hT2.all 3 _ rfl).1
 have bw2:=(Uh HB).trans (b2.mono (Uh HB).size)
 have hO2:=(Uh HO).below b2
 have KO:=Hj ((wopenG_any R a1 a2 n1 c1 n2 c2 st cols w2 ((Uh HS).1.below bw2) ((Uh HS).2.below bw2) hb1 hb2 (Uh HM) true ⟨fun _ => Uh HGR,fun _ => rfl⟩).mono (fun e w' (h:OgP _ _ _ _ _ _ _) => (show (∃ b,w2.heap.size ≤ b ∧ e = .returned (.tuple #[grV R b (R * R),.bool true]) ∧ RoV w' b (R * R) (fun x => .bool (tb (Vis R R st cols cols.length x)))) ∧ Below w2.heap.size w2 w' from ⟨h.2.1 rfl,h.1⟩)))
 rw [Uh HNN] at KO
 unfold patV grV at KO
 have HO2:=Hj hO2
 have HB2:=Hj bw2
 clear hq KM b2 hT2 hO2 bw2 p0 p1 p2 p3
 go_wp2_with fail
 refine (Uh KO).mono ?_
 rintro _ w3 ⟨⟨b,hbn,rfl,hRo⟩,b3⟩
 obtain ⟨wz,hwz⟩:∃ x,w3.alloc (.cells #[.int .i64 (R:Int),.slice (some ⟨b,0,none⟩) nn nn] 45) = x:=⟨_,rfl⟩
 have bz:Below w3.heap.size w3 wz:=by rw [← hwz]; exact bAl
 have hZ:=BoxP.made w3 #[.int .i64 (R:Int),.slice (some ⟨b,0,none⟩) nn nn] 45
 rw [hwz] at hZ
 have z0:=(hZ.all 0 _ rfl).1
 have z1:=(hZ.all 1 _ rfl).1
 have b2z:=b3.trans (bz.mono b3.size)
 have hO3:=(Uh HO2).below b2z
 have o0:=(hO3.all 0 _ rfl).1
 have o1:=(hO3.all 1 _ rfl).1
 have r0:=(hO3.all 0 _ rfl).2
 have r1:=(hO3.all 1 _ rfl).2
 have HO3:=Hj hO3
 have HRo:=Hj (hRo.below bz)
 have HB3:=Hj ((Uh HB2).trans (b2z.mono (Uh HB2).size))
 have HBn:=Hj (show wb.heap.size < b ∧ w.heap.size ≤ b from by have:=(Uh HO2).lt; have:=Uh HWB; omega)
 clear KO hRo b3 bz b2z hZ hO3 q0 q1 q2 q3 hbn
 go_wp2_with fail
 have hf:=((Uh HO3).put 0 (.int .i64 (R:Int))).put 1 (.slice (some ⟨b,0,none⟩) nn nn)
 have t0:=(hf.all 0 _ rfl).1
 have t1:=(hf.all 1 _ rfl).1
 have cc:Chg (fun j => j = wb.heap.size) wz ((wz.setCell ⟨wb.heap.size,0,none⟩ (.int .i64 (R:Int))).setCell ⟨wb.heap.size,1,none⟩ (.slice (some ⟨b,0,none⟩) nn nn)):=(Chg.of_set (S:=fun j => j = wb.heap.size) _ _ _ _ rfl).trans (Chg.of_set (S:=fun j => j = wb.heap.size) _ _ _ _ rfl)
 generalize (wz.setCell ⟨wb.heap.size,0,none⟩ (.int .i64 (R:Int))).setCell ⟨wb.heap.size,1,none⟩ (.slice (some ⟨b,0,none⟩) nn nn) = wf at *
 refine bodyPost_ret (by simp [results,Tryz.results21,go_sem,t0,t1]; try rfl) rfl ?_
 have h9:=Uh HWB
 exact ⟨b,(Uh HBn).2,rfl,(Uh HRo).chg cc (fun e => by have:=(Uh HBn).1; omega),(Uh HB3).trans (cc.below (Uh HB3).size (fun j hj e => by omega))⟩
def TgQ (w w':World) (e:Ending) (m mm:Nat) (f:Nat → Bool):Prop:=∃ b,e = .returned (.tuple #[grV m b mm,.int .i64 0]) ∧ RoV w' b mm (fun x => .bool (f x)) ∧ Below w.heap.size w w'
set_option maxRecDepth 100000 in
set_option maxHeartbeats 16000000 in
theorem wthings_off (kd:Int) (hx1:(kd == 1) = false) (hx2:(kd == 2) = false) (hx3:(kd == 3) = false) (hx4:(kd == 4) = false) (hx5:(kd == 5) = false) (R width:Nat) (a1 a2:Option Addr) (n1 c1 n2 c2:Nat) (st cols:List Int) (w:World) (h1:SlI w a1 n1 c1 st) (h2:SlI w a2 n2 c2 cols) (hb1:n1 ≤ 17592186044416) (hb2:n2 ≤ 17592186044416) (hm:MayP (R:Int) (width:Int) st cols) :
  Calls Tryz.prog 21 #[.int .i64 kd,patV (R:Int) (width:Int) a1 n1 c1 a2 n2 c2] w fun e w' => e = .returned (.tuple #[.agg #[.int .i64 0,.slice none 0 0],.int .i64 242]) ∧ Below w.heap.size w w':=by
 obtain ⟨wb,hwb⟩:∃ x,w.alloc (.cells #[.int .i64 (R:Int),.int .i64 (width:Int),.slice a1 n1 c1,.slice a2 n2 c2] 25) = x:=⟨_,rfl⟩
 have bb:Below w.heap.size w wb:=by rw [← hwb]; exact bAl
 have hT:=BoxP.made w #[.int .i64 (R:Int),.int .i64 (width:Int),.slice a1 n1 c1,.slice a2 n2 c2] 25
 rw [hwb] at hT
 have hO0:=BoxP.made wb #[.int .i64 0,.slice none 0 0] 45
 obtain ⟨wo,hwo⟩:∃ x,wb.alloc (.cells #[.int .i64 0,.slice none 0 0] 45) = x:=⟨_,rfl⟩
 have bo:Below wb.heap.size wb wo:=by rw [← hwo]; exact bAl
 rw [hwo] at hO0
 have hT1:=hT.below bo
 have p0:=(hT1.all 0 _ rfl).1
 have p1:=(hT1.all 1 _ rfl).1
 have p2:=(hT1.all 2 _ rfl).1
 have p3:=(hT1.all 3 _ rfl).1
 have bw:=bb.trans (bo.mono bb.size)
 have HT:=Hj hT1
 have HO:=Hj hO0
 have HB:=Hj bw
 have HWB:=Hj bb.size
 have HS:=Hj (And.intro h1 h2)
 have KM:=Hj (wsmay_any (R:Int) (width:Int) a1 a2 n1 c1 n2 c2 st cols wo (h1.below bw) (h2.below bw) hb1 hb2)
 unfold patV at KM
 have HTQ:=Hj (show TruQ true (MayP (R:Int) (width:Int) st cols) from ⟨fun _ => hm,fun _ => rfl⟩)
 have HM:=Hj hm
 clear hT hT1 hO0 bb bo bw h1 h2 hm
 unfold patV
 go_enter Tryz.func21,Tryz.ntmps21
 go_wp2_with fail
 refine (Uh KM).mono ?_
 intro e w2 hq
 obtain ⟨rfl,b2⟩:=hq.known (Uh HTQ)
 have hT2:=(Uh HT).below b2
 have q0:=(hT2.all 0 _ rfl).1
 have q1:=(hT2.all 1 _ rfl).1
 have q2:=(hT2.all 2 _ rfl).1
 have q3:=(hT2.all 3 _ rfl).1
 have bw2:=(Uh HB).trans (b2.mono (Uh HB).size)
 have hO2:=(Uh HO).below b2
 have HB3:=Hj bw2
 have hO3:=hO2
 have o0:=(hO3.all 0 _ rfl).1
 have o1:=(hO3.all 1 _ rfl).1
 have r0:=(hO3.all 0 _ rfl).2
 have r1:=(hO3.all 1 _ rfl).2
 have HO3:=Hj hO3
 clear hq KM b2 hT2 hO2 bw2 p0 p1 p2 p3 hO3 q0 q1 q2 q3
 go_wp2_with fail
 have hf:=((Uh HO3).put 0 (.int .i64 0)).put 1 (.slice none 0 0)
 have t0:=(hf.all 0 _ rfl).1
 have t1:=(hf.all 1 _ rfl).1
 have cc:Chg (fun j => j = wb.heap.size) w2 ((w2.setCell ⟨wb.heap.size,0,none⟩ (.int .i64 0)).setCell ⟨wb.heap.size,1,none⟩ (.slice none 0 0)):=(Chg.of_set (S:=fun j => j = wb.heap.size) _ _ _ _ rfl).trans (Chg.of_set (S:=fun j => j = wb.heap.size) _ _ _ _ rfl)
 generalize (w2.setCell ⟨wb.heap.size,0,none⟩ (.int .i64 0)).setCell ⟨wb.heap.size,1,none⟩ (.slice none 0 0) = wf at *
 refine bodyPost_ret (by simp [results,Tryz.results21,go_sem,t0,t1]; try rfl) rfl ?_
 have h9:=Uh HWB
 exact ⟨rfl,(Uh HB3).trans (cc.below (Uh HB3).size (fun j hj e => by omega))⟩
set_option maxRecDepth 100000 in
set_option maxHeartbeats 16000000 in
theorem wthings_cols (R width:Nat) (a1 a2:Option Addr) (n1 c1 n2 c2:Nat) (st cols:List Int) (w:World) (h1:SlI w a1 n1 c1 st) (h2:SlI w a2 n2 c2 cols) (hb1:n1 ≤ 17592186044416) (hb2:n2 ≤ 17592186044416) (hm:MayP (R:Int) (width:Int) st cols) :
  Calls Tryz.prog 21 #[.int .i64 2,patV (R:Int) (width:Int) a1 n1 c1 a2 n2 c2] w fun e w' => TgQ w w' e width (width * width) (fun x => tb (LnQ (fun j u v => InC st cols u j ∧ InC st cols v j) width R width 0 0 x)):=by
 obtain ⟨nn,hnn⟩:∃ nn,width * width = nn:=⟨_,rfl⟩
 have HNN:=Hj hnn
 rw [hnn]
 clear hnn
 obtain ⟨wb,hwb⟩:∃ x,w.alloc (.cells #[.int .i64 (R:Int),.int .i64 (width:Int),.slice a1 n1 c1,.slice a2 n2 c2] 25) = x:=⟨_,rfl⟩
 have bb:Below w.heap.size w wb:=by rw [← hwb]; exact bAl
 have hT:=BoxP.made w #[.int .i64 (R:Int),.int .i64 (width:Int),.slice a1 n1 c1,.slice a2 n2 c2] 25
 rw [hwb] at hT
 have hO0:=BoxP.made wb #[.int .i64 0,.slice none 0 0] 45
 obtain ⟨wo,hwo⟩:∃ x,wb.alloc (.cells #[.int .i64 0,.slice none 0 0] 45) = x:=⟨_,rfl⟩
 have bo:Below wb.heap.size wb wo:=by rw [← hwo]; exact bAl
 rw [hwo] at hO0
 have hT1:=hT.below bo
 have p0:=(hT1.all 0 _ rfl).1
 have p1:=(hT1.all 1 _ rfl).1
 have p2:=(hT1.all 2 _ rfl).1
 have p3:=(hT1.all 3 _ rfl).1
 have bw:=bb.trans (bo.mono bb.size)
 have HT:=Hj hT1
 have HO:=Hj hO0
 have HB:=Hj bw
 have HWB:=Hj bb.size
 have HS:=Hj (And.intro h1 h2)
 have KM:=Hj (wsmay_any (R:Int) (width:Int) a1 a2 n1 c1 n2 c2 st cols wo (h1.below bw) (h2.below bw) hb1 hb2)
 unfold patV at KM
 have HTQ:=Hj (show TruQ true (MayP (R:Int) (width:Int) st cols) from ⟨fun _ => hm,fun _ => rfl⟩)
 have HM:=Hj hm
 clear hT hT1 hO0 bb bo bw h1 h2 hm
 unfold patV
 go_enter Tryz.func21,Tryz.ntmps21
 go_wp2_with fail
 refine (Uh KM).mono ?_
 intro e w2 hq
 obtain ⟨rfl,b2⟩:=hq.known (Uh HTQ)
 have hT2:=(Uh HT).below b2
 have q0:=(hT2.all 0 _ rfl).1
 have q1:=(hT2.all 1 _ rfl).1
 have q2:=(hT2.all 2 _ rfl).1
 have q3:=(hT2.all 3 _ rfl).1
 have bw2:=(Uh HB).trans (b2.mono (Uh HB).size)
 have hO2:=(Uh HO).below b2
 have KO:=Hj (wlines_cols R width a1 a2 n1 c1 n2 c2 st cols w2 ((Uh HS).1.below bw2) ((Uh HS).2.below bw2) hb1 hb2 (Uh HM))
 rw [Uh HNN] at KO
 unfold patV grV at KO
 have HO2:=Hj hO2
 have HB2:=Hj bw2
 clear hq KM b2 hT2 hO2 bw2 p0 p1 p2 p3
 go_wp2_with fail
 refine (Uh KO).mono ?_
 rintro _ w3 ⟨b,rfl,hRo,b3⟩
 have hO3:=(Uh HO2).below b3
 have o0:=(hO3.all 0 _ rfl).1
 have o1:=(hO3.all 1 _ rfl).1
 have r0:=(hO3.all 0 _ rfl).2
 have r1:=(hO3.all 1 _ rfl).2
 have HO3:=Hj hO3
 have HBn:=Hj (show nn ≠ 0 → b ≠ wb.heap.size from fun h0 e => by
  have:=(hRo 0 (by omega)).1
  rw [e,o0] at this
  simp at this)
 have HRo:=Hj hRo
 have HB3:=Hj ((Uh HB2).trans (b3.mono (Uh HB2).size))
 clear KO hRo b3 hO3 q0 q1 q2 q3
 go_wp2_with fail
 have hf:=((Uh HO3).put 0 (.int .i64 (width:Int))).put 1 (.slice (some ⟨b,0,none⟩) nn nn)
 have t0:=(hf.all 0 _ rfl).1
 have t1:=(hf.all 1 _ rfl).1
 have cc:Chg (fun j => j = wb.heap.size) w3 ((w3.setCell ⟨wb.heap.size,0,none⟩ (.int .i64 (width:Int))).setCell ⟨wb.heap.size,1,none⟩ (.slice (some ⟨b,0,none⟩) nn nn)):=(Chg.of_set (S:=fun j => j = wb.heap.size) _ _ _ _ rfl).trans (Chg.of_set (S:=fun j => j = wb.heap.size) _ _ _ _ rfl)
 generalize (w3.setCell ⟨wb.heap.size,0,none⟩ (.int .i64 (width:Int))).setCell ⟨wb.heap.size,1,none⟩ (.slice (some ⟨b,0,none⟩) nn nn) = wf at *
 refine bodyPost_ret (by simp [results,Tryz.results21,go_sem,t0,t1]; try rfl) rfl ?_
 have h9:=Uh HWB
 refine ⟨b,rfl,?_,(Uh HB3).trans (cc.below (Uh HB3).size (fun j hj e => by omega))⟩
 rcases Nat.eq_zero_or_pos nn with h0 | h0
 ·intro i hi; omega
 ·exact (Uh HRo).chg cc (Uh HBn (by omega))
set_option maxRecDepth 100000 in
set_option maxHeartbeats 16000000 in
theorem wthings_rows (R width:Nat) (a1 a2:Option Addr) (n1 c1 n2 c2:Nat) (st cols:List Int) (w:World) (h1:SlI w a1 n1 c1 st) (h2:SlI w a2 n2 c2 cols) (hb1:n1 ≤ 17592186044416) (hb2:n2 ≤ 17592186044416) (hm:MayP (R:Int) (width:Int) st cols) :
  Calls Tryz.prog 21 #[.int .i64 3,patV (R:Int) (width:Int) a1 n1 c1 a2 n2 c2] w fun e w' => TgQ w w' e R (R * R) (fun x => tb (LnQ (fun j u v => InC st cols j u ∧ InC st cols j v) R width R 0 0 x)):=by
 obtain ⟨nn,hnn⟩:∃ nn,R * R = nn:=⟨_,rfl⟩
 have HNN:=Hj hnn
 rw [hnn]
 clear hnn
 obtain ⟨wb,hwb⟩:∃ x,w.alloc (.cells #[.int .i64 (R:Int),.int .i64 (width:Int),.slice a1 n1 c1,.slice a2 n2 c2] 25) = x:=⟨_,rfl⟩
 have bb:Below w.heap.size w wb:=by rw [← hwb]; exact bAl
 have hT:=BoxP.made w #[.int .i64 (R:Int),.int .i64 (width:Int),.slice a1 n1 c1,.slice a2 n2 c2] 25
 rw [hwb] at hT
 have hO0:=BoxP.made wb #[.int .i64 0,.slice none 0 0] 45
 obtain ⟨wo,hwo⟩:∃ x,wb.alloc (.cells #[.int .i64 0,.slice none 0 0] 45) = x:=⟨_,rfl⟩
 have bo:Below wb.heap.size wb wo:=by rw [← hwo]; exact bAl
 rw [hwo] at hO0
 have hT1:=hT.below bo
 have p0:=(hT1.all 0 _ rfl).1
 have p1:=(hT1.all 1 _ rfl).1
 have p2:=(hT1.all 2 _ rfl).1
 have p3:=(hT1.all 3 _ rfl).1
 have bw:=bb.trans (bo.mono bb.size)
 have HT:=Hj hT1
 have HO:=Hj hO0
 have HB:=Hj bw
 have HWB:=Hj bb.size
 have HS:=Hj (And.intro h1 h2)
 have KM:=Hj (wsmay_any (R:Int) (width:Int) a1 a2 n1 c1 n2 c2 st cols wo (h1.below bw) (h2.below bw) hb1 hb2)
 unfold patV at KM
 have HTQ:=Hj (show TruQ true (MayP (R:Int) (width:Int) st cols) from ⟨fun _ => hm,fun _ => rfl⟩)
 have HM:=Hj hm
 clear hT hT1 hO0 bb bo bw h1 h2 hm
 unfold patV
 go_enter Tryz.func21,Tryz.ntmps21
 go_wp2_with fail
 refine (Uh KM).mono ?_
 intro e w2 hq
 obtain ⟨rfl,b2⟩:=hq.known (Uh HTQ)
 have hT2:=(Uh HT).below b2
 have q0:=(hT2.all 0 _ rfl).1
 have q1:=(hT2.all 1 _ rfl).1
 have q2:=(hT2.all 2 _ rfl).1
 have q3:=(hT2.all 3 _ rfl).1
 have bw2:=(Uh HB).trans (b2.mono (Uh HB).size)
 have hO2:=(Uh HO).below b2
 have KO:=Hj (wlines_rows R width a1 a2 n1 c1 n2 c2 st cols w2 ((Uh HS).1.below bw2) ((Uh HS).2.below bw2) hb1 hb2 (Uh HM))
 rw [Uh HNN] at KO
 unfold patV grV at KO
 have HO2:=Hj hO2
 have HB2:=Hj bw2
 clear hq KM b2 hT2 hO2 bw2 p0 p1 p2 p3
 go_wp2_with fail
 refine (Uh KO).mono ?_
 rintro _ w3 ⟨b,rfl,hRo,b3⟩
 have hO3:=(Uh HO2).below b3
 have o0:=(hO3.all 0 _ rfl).1
 have o1:=(hO3.all 1 _ rfl).1
 have r0:=(hO3.all 0 _ rfl).2
 have r1:=(hO3.all 1 _ rfl).2
 have HO3:=Hj hO3
 have HBn:=Hj (show nn ≠ 0 → b ≠ wb.heap.size from fun h0 e => by
  have:=(hRo 0 (by omega)).1
  rw [e,o0] at this
  simp at this)
 have HRo:=Hj hRo
 have HB3:=Hj ((Uh HB2).trans (b3.mono (Uh HB2).size))
 clear KO hRo b3 hO3 q0 q1 q2 q3
 go_wp2_with fail
 have hf:=((Uh HO3).put 0 (.int .i64 (R:Int))).put 1 (.slice (some ⟨b,0,none⟩) nn nn)
 have t0:=(hf.all 0 _ rfl).1
 have t1:=(hf.all 1 _ rfl).1
 have cc:Chg (fun j => j = wb.heap.size) w3 ((w3.setCell ⟨wb.heap.size,0,none⟩ (.int .i64 (R:Int))).setCell ⟨wb.heap.size,1,none⟩ (.slice (some ⟨b,0,none⟩) nn nn)):=(Chg.of_set (S:=fun j => j = wb.heap.size) _ _ _ _ rfl).trans (Chg.of_set (S:=fun j => j = wb.heap.size) _ _ _ _ rfl)
 generalize (w3.setCell ⟨wb.heap.size,0,none⟩ (.int .i64 (R:Int))).setCell ⟨wb.heap.size,1,none⟩ (.slice (some ⟨b,0,none⟩) nn nn) = wf at *
 refine bodyPost_ret (by simp [results,Tryz.results21,go_sem,t0,t1]; try rfl) rfl ?_
 have h9:=Uh HWB
 refine ⟨b,rfl,?_,(Uh HB3).trans (cc.below (Uh HB3).size (fun j hj e => by omega))⟩
 rcases Nat.eq_zero_or_pos nn with h0 | h0
 ·intro i hi; omega
 ·exact (Uh HRo).chg cc (Uh HBn (by omega))
end Go.Proofs.YtgjokididdffhaaGreat
