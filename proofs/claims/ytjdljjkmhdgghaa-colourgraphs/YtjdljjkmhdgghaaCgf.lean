/- Cgf -/
import Derived.Test.YtjdljjkmhdgghaaCge
namespace Go.Proofs.Ytjdljjkmhdgghaa
open Go.RowKit Go.Deep
set_option linter.unusedVariables false
set_option maxRecDepth 100000 in
set_option maxHeartbeats 16000000 in
theorem wLines_no (rows width:Int) (a1 a2:Option Addr) (n1 c1 n2 c2:Nat) (st cols:List Int) (w:World) (h1:SlI w a1 n1 c1 st) (h2:SlI w a2 n2 c2 cols) (hb1:n1 ≤ 17592186044416) (hb2:n2 ≤ 17592186044416) (fl:Bool) (hm:¬ MayP rows width st cols) :
  Calls Try.prog 6 #[patV rows width a1 n1 c1 a2 n2 c2,.bool fl] w fun e w' => GqP w w' e 0 [] [] 180:=by
 obtain ⟨wb,hwb⟩:∃ x,w.alloc (.cells #[.int .i64 rows,.int .i64 width,.slice a1 n1 c1,.slice a2 n2 c2] 24) = x:=⟨_,rfl⟩
 have bb:Below w.heap.size w wb:=by rw [← hwb]; exact bAl
 have hT:=BoxP.made w #[.int .i64 rows,.int .i64 width,.slice a1 n1 c1,.slice a2 n2 c2] 24
 rw [hwb] at hT
 have hO0:=BoxP.made wb #[.int .i64 0,.int .i64 0,.slice none 0 0,.slice none 0 0] 24
 obtain ⟨wo,hwo⟩:∃ x,wb.alloc (.cells #[.int .i64 0,.int .i64 0,.slice none 0 0,.slice none 0 0] 24) = x:=⟨_,rfl⟩
 have bo:Below wb.heap.size wb wo:=by rw [← hwo]; exact bAl
 rw [hwo] at hO0
 have hT1:=hT.below bo
 have p0:=(hT1.all 0 _ rfl).1
 have p1:=(hT1.all 1 _ rfl).1
 have p2:=(hT1.all 2 _ rfl).1
 have p3:=(hT1.all 3 _ rfl).1
 have bw:=bb.trans (bo.mono bb.size)
 have HT:=Hj hT1
 have HO:=Hj hO0
 have HB:=Hj bw
 have HWB:=Hj bb.size
 have HS:=Hj (And.intro h1 h2)
 have KM:=Hj (wsmay_any rows width a1 a2 n1 c1 n2 c2 st cols wo (h1.below bw) (h2.below bw) (by omega) (by omega))
 unfold patV at KM
 have HTQ:=Hj (show TruQ false (MayP rows width st cols) from ⟨fun e => absurd e (by decide),fun h => absurd h hm⟩)
 clear hT hT1 hO0 bb bo bw h1 h2 hm
 unfold patV
 go_enter Try.func6,Try.ntmps6
 go_wp2_with fail
 refine (Uh KM).mono ?_
 intro e w2 hq
 obtain ⟨rfl,b2⟩:=hq.known (Uh HTQ)
 have bw2:=(Uh HB).trans (b2.mono (Uh HB).size)
 have hO2:=(Uh HO).below b2
 have o0:=(hO2.all 0 _ rfl).1
 have o1:=(hO2.all 1 _ rfl).1
 have o2:=(hO2.all 2 _ rfl).1
 have o3:=(hO2.all 3 _ rfl).1
 have r0:=(hO2.all 0 _ rfl).2
 have r1:=(hO2.all 1 _ rfl).2
 have r2:=(hO2.all 2 _ rfl).2
 have r3:=(hO2.all 3 _ rfl).2
 have HO2:=Hj hO2
 have HB2:=Hj bw2
 clear hq KM b2 hO2 bw2 p0 p1 p2 p3
 go_wp2_with fail
 have hf:=((((Uh HO2).put 0 (.int .i64 0)).put 1 (.int .i64 0)).put 2 (.slice none 0 0)).put 3 (.slice none 0 0)
 have t0:=(hf.all 0 _ rfl).1
 have t1:=(hf.all 1 _ rfl).1
 have t2:=(hf.all 2 _ rfl).1
 have t3:=(hf.all 3 _ rfl).1
 have cc:Chg (fun j => j = wb.heap.size) w2 ((((w2.setCell ⟨wb.heap.size,0,none⟩ (.int .i64 0)).setCell ⟨wb.heap.size,1,none⟩ (.int .i64 0)).setCell ⟨wb.heap.size,2,none⟩ (.slice none 0 0)).setCell ⟨wb.heap.size,3,none⟩ (.slice none 0 0)):=(((Chg.of_set (S:=fun j => j = wb.heap.size) _ _ _ _ rfl).trans (Chg.of_set (S:=fun j => j = wb.heap.size) _ _ _ _ rfl)).trans (Chg.of_set (S:=fun j => j = wb.heap.size) _ _ _ _ rfl)).trans (Chg.of_set (S:=fun j => j = wb.heap.size) _ _ _ _ rfl)
 generalize (((w2.setCell ⟨wb.heap.size,0,none⟩ (.int .i64 0)).setCell ⟨wb.heap.size,1,none⟩ (.int .i64 0)).setCell ⟨wb.heap.size,2,none⟩ (.slice none 0 0)).setCell ⟨wb.heap.size,3,none⟩ (.slice none 0 0) = wf at *
 refine bodyPost_ret (by simp [results,Try.results6,go_sem,t0,t1,t2,t3]; try rfl) rfl ?_
 have h9:=Uh HWB
 refine ⟨none,0,none,0,rfl,SlI.nil _,SlI.nil _,(Uh HB2).trans (cc.below (Uh HB2).size (fun j hj e => by omega)),fun z hz => ?_,fun z hz => ?_⟩ <;> cases hz
set_option maxRecDepth 100000 in
set_option maxHeartbeats 16000000 in
theorem wLines_cols (R width:Nat) (a1 a2:Option Addr) (n1 c1 n2 c2:Nat) (st cols:List Int) (w:World) (h1:SlI w a1 n1 c1 st) (h2:SlI w a2 n2 c2 cols) (hb1:n1 ≤ 17592186044416) (hb2:n2 ≤ 17592186044416) (hm:MayP (R:Int) (width:Int) st cols) :
  Calls Try.prog 6 #[patV (R:Int) (width:Int) a1 n1 c1 a2 n2 c2,.bool false] w fun e w' => GqP w w' e width (grS (CoP st cols R) width width) (grC (CoP st cols R) width width) 0:=by
 obtain ⟨wb,hwb⟩:∃ x,w.alloc (.cells #[.int .i64 (R:Int),.int .i64 (width:Int),.slice a1 n1 c1,.slice a2 n2 c2] 24) = x:=⟨_,rfl⟩
 have bb:Below w.heap.size w wb:=by rw [← hwb]; exact bAl
 have hT:=BoxP.made w #[.int .i64 (R:Int),.int .i64 (width:Int),.slice a1 n1 c1,.slice a2 n2 c2] 24
 rw [hwb] at hT
 have hO0:=BoxP.made wb #[.int .i64 0,.int .i64 0,.slice none 0 0,.slice none 0 0] 24
 obtain ⟨wo,hwo⟩:∃ x,wb.alloc (.cells #[.int .i64 0,.int .i64 0,.slice none 0 0,.slice none 0 0] 24) = x:=⟨_,rfl⟩
 have bo:Below wb.heap.size wb wo:=by rw [← hwo]; exact bAl
 rw [hwo] at hO0
 have hT1:=hT.below bo
 have p0:=(hT1.all 0 _ rfl).1
 have p1:=(hT1.all 1 _ rfl).1
 have p2:=(hT1.all 2 _ rfl).1
 have p3:=(hT1.all 3 _ rfl).1
 have bw:=bb.trans (bo.mono bb.size)
 have HT:=Hj hT1
 have HO:=Hj hO0
 have HB:=Hj bw
 have HWB:=Hj bb.size
 have HS:=Hj (And.intro h1 h2)
 have KM:=Hj (wsmay_any (R:Int) (width:Int) a1 a2 n1 c1 n2 c2 st cols wo (h1.below bw) (h2.below bw) (by omega) (by omega))
 unfold patV at KM
 have HTQ:=Hj (show TruQ true (MayP (R:Int) (width:Int) st cols) from ⟨fun _ => hm,fun _ => rfl⟩)
 have HM:=Hj hm
 have hfit:=hm.head.fit
 have hn8:width ≤ 128:=by omega
 obtain ⟨S,hS⟩:∃ S,grS (CoP st cols R) width width = S:=⟨_,rfl⟩
 obtain ⟨C,hC⟩:∃ C,grC (CoP st cols R) width width = C:=⟨_,rfl⟩
 have HSC:=Hj (And.intro hS hC)
 rw [hS,hC]
 clear hT hT1 hO0 bb bo bw h1 h2 hm hfit hS hC
 unfold patV
 go_enter Try.func6,Try.ntmps6
 go_wp2_with fail
 refine (Uh KM).mono ?_
 intro e w2 hq
 obtain ⟨rfl,b2⟩:=hq.known (Uh HTQ)
 have hT2:=(Uh HT).below b2
 have q0:=(hT2.all 0 _ rfl).1
 have q1:=(hT2.all 1 _ rfl).1
 have q2:=(hT2.all 2 _ rfl).1
 have q3:=(hT2.all 3 _ rfl).1
 have bw2:=(Uh HB).trans (b2.mono (Uh HB).size)
 have KL:=Hj (wlines_cols R width a1 a2 n1 c1 n2 c2 st cols w2 ((Uh HS).1.below bw2) ((Uh HS).2.below bw2) hb1 hb2 (Uh HM))
 unfold patV grV at KL
 have HO2:=Hj ((Uh HO).below b2)
 have HB2:=Hj bw2
 clear hq KM b2 hT2 bw2 p0 p1 p2 p3
 go_wp2_with fail
 refine (Uh KL).mono ?_
 rintro _ w3 ⟨bx,rfl,hRo,b3⟩
 have KS:=Hj (wshut_any width bx (width * width) _ (CoP st cols R) w3 hn8 rfl hRo (fun u v hu hv => tb_iff.trans (LnQ.last hu hv)))
 unfold grV at KS
 have HO3:=Hj ((Uh HO2).below b3)
 have HB3:=Hj ((Uh HB2).trans (b3.mono (Uh HB2).size))
 clear KL hRo b3 q0 q1 q2 q3
 generalize width * width = nn at *
 go_wp2_with fail
 refine (Uh KS).mono ?_
 rintro _ wk ⟨x1,d1,x2,d2,rfl,g1,g2,bk,f1,f2⟩
 rw [(Uh HSC).1] at g1
 rw [(Uh HSC).2] at g2
 rw [(Uh HSC).1,(Uh HSC).2]
 have hOk:=(Uh HO3).below bk
 have o0:=(hOk.all 0 _ rfl).1
 have o1:=(hOk.all 1 _ rfl).1
 have o2:=(hOk.all 2 _ rfl).1
 have o3:=(hOk.all 3 _ rfl).1
 have r0:=(hOk.all 0 _ rfl).2
 have r1:=(hOk.all 1 _ rfl).2
 have r2:=(hOk.all 2 _ rfl).2
 have r3:=(hOk.all 3 _ rfl).2
 have HOk:=Hj hOk
 have HG:=Hj (And.intro g1 g2)
 have HFr:=Hj (And.intro f1 f2)
 have HBK:=Hj bk
 clear hOk g1 g2 f1 f2 bk KS
 go_wp2_with fail
 have hf:=((((Uh HOk).put 0 (.int .i64 (width:Int))).put 1 (.int .i64 (width:Int))).put 2 (.slice x1 S.length d1)).put 3 (.slice x2 C.length d2)
 have t0:=(hf.all 0 _ rfl).1
 have t1:=(hf.all 1 _ rfl).1
 have t2:=(hf.all 2 _ rfl).1
 have t3:=(hf.all 3 _ rfl).1
 have cc:Chg (fun j => j = wb.heap.size) wk ((((wk.setCell ⟨wb.heap.size,0,none⟩ (.int .i64 (width:Int))).setCell ⟨wb.heap.size,1,none⟩ (.int .i64 (width:Int))).setCell ⟨wb.heap.size,2,none⟩ (.slice x1 S.length d1)).setCell ⟨wb.heap.size,3,none⟩ (.slice x2 C.length d2)):=(((Chg.of_set (S:=fun j => j = wb.heap.size) _ _ _ _ rfl).trans (Chg.of_set (S:=fun j => j = wb.heap.size) _ _ _ _ rfl)).trans (Chg.of_set (S:=fun j => j = wb.heap.size) _ _ _ _ rfl)).trans (Chg.of_set (S:=fun j => j = wb.heap.size) _ _ _ _ rfl)
 generalize (((wk.setCell ⟨wb.heap.size,0,none⟩ (.int .i64 (width:Int))).setCell ⟨wb.heap.size,1,none⟩ (.int .i64 (width:Int))).setCell ⟨wb.heap.size,2,none⟩ (.slice x1 S.length d1)).setCell ⟨wb.heap.size,3,none⟩ (.slice x2 C.length d2) = wf at *
 refine bodyPost_ret (by simp [results,Try.results6,go_sem,t0,t1,t2,t3]; try rfl) rfl ?_
 have h9:=Uh HWB
 have h8:=(Uh HO3).lt
 have h6:=(Uh HB3).size
 refine ⟨x1,d1,x2,d2,rfl,(Uh HG).1.chg cc (fun z hz _ e => ?_),(Uh HG).2.chg cc (fun z hz _ e => ?_),?_,fun z hz => ?_,fun z hz => ?_⟩
 ·have:=(Uh HFr).1 z hz; omega
 ·have:=(Uh HFr).2 z hz; omega
 ·exact ((Uh HB3).trans ((Uh HBK).mono h6)).trans (cc.below (Nat.le_trans h6 (Uh HBK).size) (fun j hj e => by omega))
 ·have:=(Uh HFr).1 z hz; omega
 ·have:=(Uh HFr).2 z hz; omega
set_option maxRecDepth 100000 in
set_option maxHeartbeats 16000000 in
theorem wLines_rows (R width:Nat) (a1 a2:Option Addr) (n1 c1 n2 c2:Nat) (st cols:List Int) (w:World) (h1:SlI w a1 n1 c1 st) (h2:SlI w a2 n2 c2 cols) (hb1:n1 ≤ 17592186044416) (hb2:n2 ≤ 17592186044416) (hm:MayP (R:Int) (width:Int) st cols) :
  Calls Try.prog 6 #[patV (R:Int) (width:Int) a1 n1 c1 a2 n2 c2,.bool true] w fun e w' => GqP w w' e R (grS (RwP st cols width) R R) (grC (RwP st cols width) R R) 0:=by
 obtain ⟨wb,hwb⟩:∃ x,w.alloc (.cells #[.int .i64 (R:Int),.int .i64 (width:Int),.slice a1 n1 c1,.slice a2 n2 c2] 24) = x:=⟨_,rfl⟩
 have bb:Below w.heap.size w wb:=by rw [← hwb]; exact bAl
 have hT:=BoxP.made w #[.int .i64 (R:Int),.int .i64 (width:Int),.slice a1 n1 c1,.slice a2 n2 c2] 24
 rw [hwb] at hT
 have hO0:=BoxP.made wb #[.int .i64 0,.int .i64 0,.slice none 0 0,.slice none 0 0] 24
 obtain ⟨wo,hwo⟩:∃ x,wb.alloc (.cells #[.int .i64 0,.int .i64 0,.slice none 0 0,.slice none 0 0] 24) = x:=⟨_,rfl⟩
 have bo:Below wb.heap.size wb wo:=by rw [← hwo]; exact bAl
 rw [hwo] at hO0
 have hT1:=hT.below bo
 have p0:=(hT1.all 0 _ rfl).1
 have p1:=(hT1.all 1 _ rfl).1
 have p2:=(hT1.all 2 _ rfl).1
 have p3:=(hT1.all 3 _ rfl).1
 have bw:=bb.trans (bo.mono bb.size)
 have HT:=Hj hT1
 have HO:=Hj hO0
 have HB:=Hj bw
 have HWB:=Hj bb.size
 have HS:=Hj (And.intro h1 h2)
 have KM:=Hj (wsmay_any (R:Int) (width:Int) a1 a2 n1 c1 n2 c2 st cols wo (h1.below bw) (h2.below bw) (by omega) (by omega))
 unfold patV at KM
 have HTQ:=Hj (show TruQ true (MayP (R:Int) (width:Int) st cols) from ⟨fun _ => hm,fun _ => rfl⟩)
 have HM:=Hj hm
 have hfit:=hm.head.fit
 have hn8:R ≤ 128:=by omega
 obtain ⟨S,hS⟩:∃ S,grS (RwP st cols width) R R = S:=⟨_,rfl⟩
 obtain ⟨C,hC⟩:∃ C,grC (RwP st cols width) R R = C:=⟨_,rfl⟩
 have HSC:=Hj (And.intro hS hC)
 rw [hS,hC]
 clear hT hT1 hO0 bb bo bw h1 h2 hm hfit hS hC
 unfold patV
 go_enter Try.func6,Try.ntmps6
 go_wp2_with fail
 refine (Uh KM).mono ?_
 intro e w2 hq
 obtain ⟨rfl,b2⟩:=hq.known (Uh HTQ)
 have hT2:=(Uh HT).below b2
 have q0:=(hT2.all 0 _ rfl).1
 have q1:=(hT2.all 1 _ rfl).1
 have q2:=(hT2.all 2 _ rfl).1
 have q3:=(hT2.all 3 _ rfl).1
 have bw2:=(Uh HB).trans (b2.mono (Uh HB).size)
 have KL:=Hj (wlines_rows R width a1 a2 n1 c1 n2 c2 st cols w2 ((Uh HS).1.below bw2) ((Uh HS).2.below bw2) hb1 hb2 (Uh HM))
 unfold patV grV at KL
 have HO2:=Hj ((Uh HO).below b2)
 have HB2:=Hj bw2
 clear hq KM b2 hT2 bw2 p0 p1 p2 p3
 go_wp2_with fail
 refine (Uh KL).mono ?_
 rintro _ w3 ⟨bx,rfl,hRo,b3⟩
 have KS:=Hj (wshut_any R bx (R * R) _ (RwP st cols width) w3 hn8 rfl hRo (fun u v hu hv => tb_iff.trans (LnQ.last hu hv)))
 unfold grV at KS
 have HO3:=Hj ((Uh HO2).below b3)
 have HB3:=Hj ((Uh HB2).trans (b3.mono (Uh HB2).size))
 clear KL hRo b3 q0 q1 q2 q3
 generalize R * R = nn at *
 go_wp2_with fail
 refine (Uh KS).mono ?_
 rintro _ wk ⟨x1,d1,x2,d2,rfl,g1,g2,bk,f1,f2⟩
 rw [(Uh HSC).1] at g1
 rw [(Uh HSC).2] at g2
 rw [(Uh HSC).1,(Uh HSC).2]
 have hOk:=(Uh HO3).below bk
 have o0:=(hOk.all 0 _ rfl).1
 have o1:=(hOk.all 1 _ rfl).1
 have o2:=(hOk.all 2 _ rfl).1
 have o3:=(hOk.all 3 _ rfl).1
 have r0:=(hOk.all 0 _ rfl).2
 have r1:=(hOk.all 1 _ rfl).2
 have r2:=(hOk.all 2 _ rfl).2
 have r3:=(hOk.all 3 _ rfl).2
 have HOk:=Hj hOk
 have HG:=Hj (And.intro g1 g2)
 have HFr:=Hj (And.intro f1 f2)
 have HBK:=Hj bk
 clear hOk g1 g2 f1 f2 bk KS
 go_wp2_with fail
 have hf:=((((Uh HOk).put 0 (.int .i64 (R:Int))).put 1 (.int .i64 (R:Int))).put 2 (.slice x1 S.length d1)).put 3 (.slice x2 C.length d2)
 have t0:=(hf.all 0 _ rfl).1
 have t1:=(hf.all 1 _ rfl).1
 have t2:=(hf.all 2 _ rfl).1
 have t3:=(hf.all 3 _ rfl).1
 have cc:Chg (fun j => j = wb.heap.size) wk ((((wk.setCell ⟨wb.heap.size,0,none⟩ (.int .i64 (R:Int))).setCell ⟨wb.heap.size,1,none⟩ (.int .i64 (R:Int))).setCell ⟨wb.heap.size,2,none⟩ (.slice x1 S.length d1)).setCell ⟨wb.heap.size,3,none⟩ (.slice x2 C.length d2)):=(((Chg.of_set (S:=fun j => j = wb.heap.size) _ _ _ _ rfl).trans (Chg.of_set (S:=fun j => j = wb.heap.size) _ _ _ _ rfl)).trans (Chg.of_set (S:=fun j => j = wb.heap.size) _ _ _ _ rfl)).trans (Chg.of_set (S:=fun j => j = wb.heap.size) _ _ _ _ rfl)
 generalize (((wk.setCell ⟨wb.heap.size,0,none⟩ (.int .i64 (R:Int))).setCell ⟨wb.heap.size,1,none⟩ (.int .i64 (R:Int))).setCell ⟨wb.heap.size,2,none⟩ (.slice x1 S.length d1)).setCell ⟨wb.heap.size,3,none⟩ (.slice x2 C.length d2) = wf at *
 refine bodyPost_ret (by simp [results,Try.results6,go_sem,t0,t1,t2,t3]; try rfl) rfl ?_
 have h9:=Uh HWB
 have h8:=(Uh HO3).lt
 have h6:=(Uh HB3).size
 refine ⟨x1,d1,x2,d2,rfl,(Uh HG).1.chg cc (fun z hz _ e => ?_),(Uh HG).2.chg cc (fun z hz _ e => ?_),?_,fun z hz => ?_,fun z hz => ?_⟩
 ·have:=(Uh HFr).1 z hz; omega
 ·have:=(Uh HFr).2 z hz; omega
 ·exact ((Uh HB3).trans ((Uh HBK).mono h6)).trans (cc.below (Nat.le_trans h6 (Uh HBK).size) (fun j hj e => by omega))
 ·have:=(Uh HFr).1 z hz; omega
 ·have:=(Uh HFr).2 z hz; omega
end Go.Proofs.Ytjdljjkmhdgghaa
