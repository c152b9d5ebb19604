/- Rub -/
import Derived.Test.YtmmeiebbnjjijaaGreatDoorRua
import Derived.Test.YtmmeiebbnjjijaaGreatDoorRu3
import Derived.Test.YtmmeiebbnjjijaaGreatDoorWrf
import Derived.Test.YtmmeiebbnjjijaaGreatDoorRv4
import Derived.Test.YtmmeiebbnjjijaaGreatDoorRu8
namespace Go.Proofs.YtmmeiebbnjjijaaGreatDoor
open Go.RowKit Go.Deep
set_option linter.unusedVariables false
set_option maxRecDepth 100000 in
set_option maxHeartbeats 8000000 in
theorem rDot_no1 (a:Option Addr) (n c:Nat) (ps:List Nq) (a':Option Addr) (n' c':Nat) (qs:List Nq) (w:World) (h:SlQ w a n c ps) (h':SlQ w a' n' c' qs) (hn:n ≤ 140737488355328) (hn':n' ≤ 140737488355328) (hT:Tab64 w) (hm:mayQ ps = false) :
  Calls Tryz.prog 85 #[.slice a n c,.slice a' n' c'] w fun e w' => ResF w w' ((false,[],[]),40) e:=by
 unfold ResF
 dsimp only
 obtain ⟨wo,hwo⟩:∃ x,w.alloc (.cells #[.bool false,.slice none 0 0,.slice none 0 0] 25) = x:=⟨_,rfl⟩
 have hbo:Below w.heap.size w wo:=by rw [← hwo]; exact bAl
 have hO:=Out.made w
 rw [hwo] at hO
 have KA:=rmayAll_any a n c ps wo (h.below hbo) hn (hT.below hbo)
 rw [hm] at KA
 have HK:=Hd KA
 have HO:=Hd (And.intro hO hbo)
 clear KA  h h' hm  hO hbo hT
 go_enter Tryz.func85,Tryz.ntmps85
 go_wp2_with fail
 refine (Uh HK).mono ?_
 rintro _ w1 ⟨rfl,hb1⟩
 have hB1:=(Uh HO).2.trans (hb1.mono (Uh HO).2.size)
 have hO1:=(Uh HO).1.keep hb1
 have HX:=Hd (And.intro (ret_Q (w:=w) (gy:=false) hO1 (sl_nil _) (sl_nil _) (newAt_nil _) (newAt_nil _) hB1 (Nat.le_refl _)) (three_set w1 w.heap.size (.bool false) (.slice none 0 0) (.slice none 0 0) hO1.cells))
 obtain ⟨i0,o0⟩:=hO1.cells 0 (by decide)
 obtain ⟨i1,o1⟩:=hO1.cells 1 (by decide)
 obtain ⟨i2,o2⟩:=hO1.cells 2 (by decide)
 have f0:=hO1.fz 0 (by decide)
 have f1:=hO1.fz 1 (by decide)
 have f2:=hO1.fz 2 (by decide)
 clear HO hb1 hB1 hO1 HK
 go_wp2_with fail
 try go_region
 all_goals
  try go_wp2_with fail
  obtain ⟨hR,t0,t1,t2,cc⟩:=Uh HX
  generalize ((w1.setCell ⟨w.heap.size,0,none⟩ (.bool false)).setCell ⟨w.heap.size,1,none⟩ (.slice none 0 0)).setCell ⟨w.heap.size,2,none⟩ (.slice none 0 0) = wk at *
  refine bodyPost_ret (by simp [results,Tryz.results85,go_sem,t0,t1,t2]; try rfl) rfl ?_
  first | exact ⟨_,rfl,hR⟩ | exact ⟨_,rfl,hR.drewQ⟩
set_option maxRecDepth 100000 in
set_option maxHeartbeats 8000000 in
theorem rDot_no2 (a:Option Addr) (n c:Nat) (ps:List Nq) (a':Option Addr) (n' c':Nat) (qs:List Nq) (w:World) (h:SlQ w a n c ps) (h':SlQ w a' n' c' qs) (hn:n ≤ 140737488355328) (hn':n' ≤ 140737488355328) (hT:Tab64 w) (hm:mayQ ps = true) (hm':mayQ qs = false) :
  Calls Tryz.prog 85 #[.slice a n c,.slice a' n' c'] w fun e w' => ResF w w' ((false,[],[]),40) e:=by
 unfold ResF
 dsimp only
 obtain ⟨wo,hwo⟩:∃ x,w.alloc (.cells #[.bool false,.slice none 0 0,.slice none 0 0] 25) = x:=⟨_,rfl⟩
 have hbo:Below w.heap.size w wo:=by rw [← hwo]; exact bAl
 have hO:=Out.made w
 rw [hwo] at hO
 have KA:=rmayAll_any a n c ps wo (h.below hbo) hn (hT.below hbo)
 rw [hm] at KA
 have HK:=Hd KA
 have KB:=fun (W:World) (hb:Below wo.heap.size wo W) => rmayAll_any a' n' c' qs W ((h'.below hbo).below hb) hn' ((hT.below hbo).below hb)
 rw [hm'] at KB
 have HKB:=Hd KB
 have HO:=Hd (And.intro hO hbo)
 clear KA KB h h' hm hm' hO hbo hT
 go_enter Tryz.func85,Tryz.ntmps85
 go_wp2_with fail
 refine (Uh HK).mono ?_
 rintro _ w1 ⟨rfl,hb1⟩
 have HBA:=Hd hb1
 clear HK hb1
 go_wp2_with fail
 refine (Uh HKB w1 (Uh HBA)).mono ?_
 rintro _ wj ⟨rfl,hbj⟩
 have hb1:=(Uh HBA).trans (hbj.mono (Uh HBA).size)
 have hB1:=(Uh HO).2.trans (hb1.mono (Uh HO).2.size)
 have hO1:=(Uh HO).1.keep hb1
 have HX:=Hd (And.intro (ret_Q (w:=w) (gy:=false) hO1 (sl_nil _) (sl_nil _) (newAt_nil _) (newAt_nil _) hB1 (Nat.le_refl _)) (three_set wj w.heap.size (.bool false) (.slice none 0 0) (.slice none 0 0) hO1.cells))
 obtain ⟨i0,o0⟩:=hO1.cells 0 (by decide)
 obtain ⟨i1,o1⟩:=hO1.cells 1 (by decide)
 obtain ⟨i2,o2⟩:=hO1.cells 2 (by decide)
 have f0:=hO1.fz 0 (by decide)
 have f1:=hO1.fz 1 (by decide)
 have f2:=hO1.fz 2 (by decide)
 clear HO hb1 hB1 hO1 HBA HKB hbj
 go_wp2_with fail
 try go_region
 all_goals
  try go_wp2_with fail
  obtain ⟨hR,t0,t1,t2,cc⟩:=Uh HX
  generalize ((wj.setCell ⟨w.heap.size,0,none⟩ (.bool false)).setCell ⟨w.heap.size,1,none⟩ (.slice none 0 0)).setCell ⟨w.heap.size,2,none⟩ (.slice none 0 0) = wk at *
  refine bodyPost_ret (by simp [results,Tryz.results85,go_sem,t0,t1,t2]; try rfl) rfl ?_
  first | exact ⟨_,rfl,hR⟩ | exact ⟨_,rfl,hR.drewQ⟩
set_option maxRecDepth 100000 in
set_option maxHeartbeats 8000000 in
theorem rDot_no3 (a:Option Addr) (n c:Nat) (ps:List Nq) (a':Option Addr) (n' c':Nat) (qs:List Nq) (w:World) (h:SlQ w a n c ps) (h':SlQ w a' n' c' qs) (hn:n ≤ 140737488355328) (hn':n' ≤ 140737488355328) (hT:Tab64 w) (hm:mayQ ps = true) (hm':mayQ qs = true) (hne:(((n:Int) != (n':Int)) = true)) :
  Calls Tryz.prog 85 #[.slice a n c,.slice a' n' c'] w fun e w' => ResF w w' ((false,[],[]),1) e:=by
 unfold ResF
 dsimp only
 obtain ⟨wo,hwo⟩:∃ x,w.alloc (.cells #[.bool false,.slice none 0 0,.slice none 0 0] 25) = x:=⟨_,rfl⟩
 have hbo:Below w.heap.size w wo:=by rw [← hwo]; exact bAl
 have hO:=Out.made w
 rw [hwo] at hO
 have KA:=rmayAll_any a n c ps wo (h.below hbo) hn (hT.below hbo)
 rw [hm] at KA
 have HK:=Hd KA
 have KB:=fun (W:World) (hb:Below wo.heap.size wo W) => rmayAll_any a' n' c' qs W ((h'.below hbo).below hb) hn' ((hT.below hbo).below hb)
 rw [hm'] at KB
 have HKB:=Hd KB
 have HO:=Hd (And.intro hO hbo)
 clear KA KB h h' hm hm' hO hbo hT
 go_enter Tryz.func85,Tryz.ntmps85
 go_wp2_with fail
 refine (Uh HK).mono ?_
 rintro _ w1 ⟨rfl,hb1⟩
 have HBA:=Hd hb1
 clear HK hb1
 go_wp2_with fail
 refine (Uh HKB w1 (Uh HBA)).mono ?_
 rintro _ wj ⟨rfl,hbj⟩
 have hb1:=(Uh HBA).trans (hbj.mono (Uh HBA).size)
 have hB1:=(Uh HO).2.trans (hb1.mono (Uh HO).2.size)
 have hO1:=(Uh HO).1.keep hb1
 have HX:=Hd (And.intro (ret_Q (w:=w) (gy:=false) hO1 (sl_nil _) (sl_nil _) (newAt_nil _) (newAt_nil _) hB1 (Nat.le_refl _)) (three_set wj w.heap.size (.bool false) (.slice none 0 0) (.slice none 0 0) hO1.cells))
 obtain ⟨i0,o0⟩:=hO1.cells 0 (by decide)
 obtain ⟨i1,o1⟩:=hO1.cells 1 (by decide)
 obtain ⟨i2,o2⟩:=hO1.cells 2 (by decide)
 have f0:=hO1.fz 0 (by decide)
 have f1:=hO1.fz 1 (by decide)
 have f2:=hO1.fz 2 (by decide)
 clear HO hb1 hB1 hO1 HBA HKB hbj
 go_wp2_with fail
 try go_region
 all_goals
  try go_wp2_with fail
  obtain ⟨hR,t0,t1,t2,cc⟩:=Uh HX
  generalize ((wj.setCell ⟨w.heap.size,0,none⟩ (.bool false)).setCell ⟨w.heap.size,1,none⟩ (.slice none 0 0)).setCell ⟨w.heap.size,2,none⟩ (.slice none 0 0) = wk at *
  refine bodyPost_ret (by simp [results,Tryz.results85,go_sem,t0,t1,t2]; try rfl) rfl ?_
  first | exact ⟨_,rfl,hR⟩ | exact ⟨_,rfl,hR.drewQ⟩
theorem rDot_any (a:Option Addr) (n c:Nat) (ps:List Nq) (a':Option Addr) (n' c':Nat) (qs:List Nq) (w:World) (h:SlQ w a n c ps) (h':SlQ w a' n' c' qs) (hn:n ≤ 140737488355328) (hn':n' ≤ 140737488355328) (hT:Tab64 w) :
  Calls Tryz.prog 85 #[.slice a n c,.slice a' n' c'] w fun e w' => ResF w w' (dotQ ps qs) e:=by
 unfold dotQ
 cases hm:mayQ ps
 ·simp only [Bool.false_and,Bool.false_eq_true,if_false]
  exact rDot_no1 a n c ps a' n' c' qs w h h' hn hn' hT hm
 ·cases hm':mayQ qs
  ·simp only [Bool.and_false,Bool.false_eq_true,if_false]
   exact rDot_no2 a n c ps a' n' c' qs w h h' hn hn' hT hm hm'
  ·simp only [Bool.and_self,if_true]
   have l1:=h.len
   have l2:=h'.len
   by_cases hl:ps.length = qs.length
   ·rw [if_pos hl]
    obtain rfl:n' = n:=by omega
    exact rDot_yes a _ c ps a' c' qs w h h' hn hT hm hm'
   ·rw [if_neg hl]
    exact rDot_no3 a n c ps a' n' c' qs w h h' hn hn' hT hm hm' (by simp; omega)
set_option maxRecDepth 100000 in
set_option maxHeartbeats 8000000 in
theorem rSum_any (a:Option Addr) (n c:Nat) (ps:List Nq) (w:World) (h:SlQ w a n c ps) (hn:n ≤ 140737488355328) (hT:Tab64 w) :
  Calls Tryz.prog 81 #[.slice a n c] w fun e w' => ResF w w' (foldQ AddF [] ps) e:=by
 obtain ⟨wo,hwo⟩:∃ q,w.alloc (.cells #[.bool false,.slice none 0 0,.slice none 0 0] 25) = q:=⟨_,rfl⟩
 have hbo:Below w.heap.size w wo:=by rw [← hwo]; exact bAl
 have hO:=Out.made w
 rw [hwo] at hO
 have HK:=Hd (fun (W:World) (hb:Below wo.heap.size wo W) (az bz:Option Addr) (nz cz mz dz:Nat) (hx:Sl W az nz cz []) (hy:Sl W bz mz dz [1]) (na:NewAt wo.heap.size az) (nb:NewAt wo.heap.size bz) => (show Calls Tryz.prog 126 #[.agg #[.bool false,.slice az nz cz,.slice bz mz dz],.slice a n c,.func (.func 95) #[] #[]] W fun e w' => FdP W w' wo.heap.size (foldQ AddF [] ps) e from by
  unfold foldQ
  cases hm:mayQ ps
  ·simp only [Bool.false_eq_true,if_false]
   exact foldNo_any false az bz nz cz mz dz a n c ps _ W wo.heap.size ((h.below hbo).below hb) hn ((hT.below hbo).below hb) hm
  ·simp only [if_true]
   exact foldAdd_any false az bz nz cz mz dz [] [1] a n c ps W wo.heap.size hx hy (fun x hx => by cases hx) (ok_one (by decide)) zero_may na nb hb.size ((h.below hbo).below hb) hn ((hT.below hbo).below hb) hm))
 obtain ⟨⟨⟨SG,LN,LD⟩,ER⟩,hFF⟩:∃ r,foldQ AddF [] ps = r:=⟨_,rfl⟩
 rw [hFF] at HK ⊢
 unfold ResF
 dsimp only
 have HO:=Hd (And.intro hO hbo)
 clear hO hbo h hT hFF
 go_enter Tryz.func81,Tryz.ntmps81
 go_wp2_with fail
 refine (ratWhole_any false none 0 0 wo).mono ?_
 rintro _ w1 ⟨bz,mz,dz,rfl,sy,ny,hb⟩
 unfold ratV
 have HW:=Hd hb
 have HZ:=Hd (And.intro (sl_nil w1) (And.intro sy (And.intro (newAt_nil wo.heap.size) ny)))
 clear sy ny hb
 have hd0:(false && decide (0 < 0)) = false:=rfl
 go_wp2_with fail
 refine (Uh HK w1 (Uh HW) none bz 0 0 mz dz (Uh HZ).1 (Uh HZ).2.1 (Uh HZ).2.2.1 (Uh HZ).2.2.2).mono ?_
 rintro _ w2 ⟨ay,ny,cy,by_,my,dy,rfl,sx,sy,nx,nn,hb2⟩
 try dsimp only at sx sy
 unfold ratV
 have hW:=(Uh HW).trans (hb2.mono (Uh HW).size)
 have hOo:=(Uh HO).1.keep hW
 have hB:=(Uh HO).2.trans (hW.mono (Uh HO).2.size)
 have hl:=(Uh HO).1.lt
 have HX:=Hd (And.intro (ret_Q (w:=w) (gy:=SG) hOo sx sy (fun p hp => by have:=nx p hp; omega) (fun p hp => by have:=nn p hp; omega) hB (Nat.le_refl _)) (three_set w2 w.heap.size (.bool SG) (.slice ay ny cy) (.slice by_ my dy) hOo.cells))
 obtain ⟨j3,u3_⟩:=hOo.cells 0 (by decide)
 obtain ⟨j4,u4_⟩:=hOo.cells 1 (by decide)
 obtain ⟨j5,u5_⟩:=hOo.cells 2 (by decide)
 have v3:=hOo.fz 0 (by decide)
 have v4:=hOo.fz 1 (by decide)
 have v5:=hOo.fz 2 (by decide)
 clear HK HO HW HZ sx sy nx nn hb2 hW hOo hB hl
 go_wp2_with fail
 try go_region
 all_goals
  try go_wp2_with fail
  obtain ⟨hR,t0_,t1_,t2_,cc⟩:=Uh HX
  generalize ((w2.setCell ⟨w.heap.size,0,none⟩ (.bool SG)).setCell ⟨w.heap.size,1,none⟩ (.slice ay ny cy)).setCell ⟨w.heap.size,2,none⟩ (.slice by_ my dy) = wq at *
  refine bodyPost_ret (by simp [results,Tryz.results81,go_sem,t0_,t1_,t2_]; try rfl) rfl ?_
  first | exact ⟨_,rfl,hR⟩ | exact ⟨_,rfl,hR.drewQ⟩
set_option maxRecDepth 100000 in
set_option maxHeartbeats 8000000 in
theorem rProduct_any (a:Option Addr) (n c:Nat) (ps:List Nq) (w:World) (h:SlQ w a n c ps) (hn:n ≤ 140737488355328) (hT:Tab64 w) :
  Calls Tryz.prog 83 #[.slice a n c] w fun e w' => ResF w w' (foldQ MulF [1] ps) e:=by
 obtain ⟨wo,hwo⟩:∃ q,w.alloc (.cells #[.bool false,.slice none 0 0,.slice none 0 0] 25) = q:=⟨_,rfl⟩
 have hbo:Below w.heap.size w wo:=by rw [← hwo]; exact bAl
 have hO:=Out.made w
 rw [hwo] at hO
 have HK:=Hd (fun (W:World) (hb:Below wo.heap.size wo W) (az bz:Option Addr) (nz cz mz dz:Nat) (hx:Sl W az nz cz [1]) (hy:Sl W bz mz dz [1]) (na:NewAt wo.heap.size az) (nb:NewAt wo.heap.size bz) => (show Calls Tryz.prog 126 #[.agg #[.bool false,.slice az nz cz,.slice bz mz dz],.slice a n c,.func (.func 115) #[] #[]] W fun e w' => FdP W w' wo.heap.size (foldQ MulF [1] ps) e from by
  unfold foldQ
  cases hm:mayQ ps
  ·simp only [Bool.false_eq_true,if_false]
   exact foldNo_any false az bz nz cz mz dz a n c ps _ W wo.heap.size ((h.below hbo).below hb) hn ((hT.below hbo).below hb) hm
  ·simp only [if_true]
   exact foldMul_any false az bz nz cz mz dz [1] [1] a n c ps W wo.heap.size hx hy (ok_one (by decide)) (ok_one (by decide)) one_may na nb hb.size ((h.below hbo).below hb) hn ((hT.below hbo).below hb) hm))
 obtain ⟨⟨⟨SG,LN,LD⟩,ER⟩,hFF⟩:∃ r,foldQ MulF [1] ps = r:=⟨_,rfl⟩
 rw [hFF] at HK ⊢
 unfold ResF
 dsimp only
 have HO:=Hd (And.intro hO hbo)
 clear hO hbo h hT hFF
 go_enter Tryz.func83,Tryz.ntmps83
 go_wp2_with fail
 refine (ratOne_any wo).mono ?_
 rintro _ w0 ⟨az,nz,rfl,sx,nx,hb0⟩
 have H0:=Hd (And.intro sx (And.intro nx hb0))
 clear sx nx hb0
 go_wp2_with fail
 refine (ratWhole_any false az nz nz w0).mono ?_
 rintro _ w1 ⟨bz,mz,dz,rfl,sy,ny,hb⟩
 unfold ratV
 have hn0:=(Uh H0).2.2.size
 have HW:=Hd ((Uh H0).2.2.trans (hb.mono (Uh H0).2.2.size))
 have HZ:=Hd (And.intro ((Uh H0).1.below hb) (And.intro sy (And.intro (Uh H0).2.1 (show NewAt wo.heap.size bz from fun p hp => by have:=ny p hp; omega))))
 clear sy ny hb H0 hn0
 go_wp2_with fail
 refine (Uh HK w1 (Uh HW) az bz nz nz mz dz (Uh HZ).1 (Uh HZ).2.1 (Uh HZ).2.2.1 (Uh HZ).2.2.2).mono ?_
 rintro _ w2 ⟨ay,ny,cy,by_,my,dy,rfl,sx,sy,nx,nn,hb2⟩
 try dsimp only at sx sy
 unfold ratV
 have hW:=(Uh HW).trans (hb2.mono (Uh HW).size)
 have hOo:=(Uh HO).1.keep hW
 have hB:=(Uh HO).2.trans (hW.mono (Uh HO).2.size)
 have hl:=(Uh HO).1.lt
 have HX:=Hd (And.intro (ret_Q (w:=w) (gy:=SG) hOo sx sy (fun p hp => by have:=nx p hp; omega) (fun p hp => by have:=nn p hp; omega) hB (Nat.le_refl _)) (three_set w2 w.heap.size (.bool SG) (.slice ay ny cy) (.slice by_ my dy) hOo.cells))
 obtain ⟨j3,u3_⟩:=hOo.cells 0 (by decide)
 obtain ⟨j4,u4_⟩:=hOo.cells 1 (by decide)
 obtain ⟨j5,u5_⟩:=hOo.cells 2 (by decide)
 have v3:=hOo.fz 0 (by decide)
 have v4:=hOo.fz 1 (by decide)
 have v5:=hOo.fz 2 (by decide)
 clear HK HO HW HZ sx sy nx nn hb2 hW hOo hB hl
 go_wp2_with fail
 try go_region
 all_goals
  try go_wp2_with fail
  obtain ⟨hR,t0_,t1_,t2_,cc⟩:=Uh HX
  generalize ((w2.setCell ⟨w.heap.size,0,none⟩ (.bool SG)).setCell ⟨w.heap.size,1,none⟩ (.slice ay ny cy)).setCell ⟨w.heap.size,2,none⟩ (.slice by_ my dy) = wq at *
  refine bodyPost_ret (by simp [results,Tryz.results83,go_sem,t0_,t1_,t2_]; try rfl) rfl ?_
  first | exact ⟨_,rfl,hR⟩ | exact ⟨_,rfl,hR.drewQ⟩
set_option maxRecDepth 100000 in
set_option maxHeartbeats 16000000 in
theorem wProduct_any (a:Option Addr) (n c:Nat) (ps:List Nq) (w:World) (h:SlQ w a n c ps) (hn:n ≤ 140737488355328) :
  Calls Tryz.prog 84 #[.slice a n c] w fun e w' => ResF w w' (foldQ MulF [1] ps) e:=by
 obtain ⟨⟨⟨SG,LN,LD⟩,ER⟩,hFF⟩:∃ r,foldQ MulF [1] ps = r:=⟨_,rfl⟩
 rw [hFF]
 unfold ResF
 dsimp only
 obtain ⟨wo,hwo⟩:∃ x,w.alloc (.cells #[.bool false,.slice none 0 0,.slice none 0 0] 25) = x:=⟨_,rfl⟩
 have hbo:Below w.heap.size w wo:=by rw [← hwo]; exact bAl
 have hO:=Out.made w
 rw [hwo] at hO
 have KA:=wmayAll_any a n c ps wo (h.below hbo) hn
 unfold foldQ at hFF
 cases hm:mayQ ps
 ·rw [hm] at KA hFF
  simp only [Bool.false_eq_true,if_false] at hFF
  cases hFF
  have HK:=Hd KA
  have HO:=Hd (And.intro hO hbo)
  clear KA h hm hO hbo
  go_enter Tryz.func84,Tryz.ntmps84
  go_wp2_with fail
  refine (Uh HK).mono ?_
  rintro _ w1 ⟨rfl,hb1⟩
  have hB1:=(Uh HO).2.trans (hb1.mono (Uh HO).2.size)
  have hO1:=(Uh HO).1.keep hb1
  have c4:=Hd (And.intro (three_set w1 w.heap.size (.bool false) (.slice none 0 0) (.slice none 0 0) hO1.cells) hB1)
  obtain ⟨i0,o0⟩:=hO1.cells 0 (by decide)
  obtain ⟨i1,o1⟩:=hO1.cells 1 (by decide)
  obtain ⟨i2,o2⟩:=hO1.cells 2 (by decide)
  have f0:=hO1.fz 0 (by decide)
  have f1:=hO1.fz 1 (by decide)
  have f2:=hO1.fz 2 (by decide)
  have HO1_:=Hd hO1
  clear HK HO hb1 hB1 hO1
  go_wp2_with fail
  have hO1_:=Uh HO1_
  obtain ⟨⟨t0,t1,t2,cc⟩,hB1⟩:=Uh c4
  have hR:=ret_Q (w:=w) (gy:=false) hO1_ (sl_nil _) (sl_nil _) (newAt_nil _) (newAt_nil _) hB1 (Nat.le_refl _)
  generalize ((w1.setCell ⟨w.heap.size,0,none⟩ (.bool false)).setCell ⟨w.heap.size,1,none⟩ (.slice none 0 0)).setCell ⟨w.heap.size,2,none⟩ (.slice none 0 0) = wk at *
  refine bodyPost_ret (by simp [results,Tryz.results84,go_sem,t0,t1,t2]; try rfl) rfl ?_
  exact ⟨_,rfl,hR⟩
 ·rw [hm] at KA hFF
  simp only [if_true] at hFF
  have HK:=Hd KA
  have H:=Hd h
  have HL:=Hd h.len
  have HM:=Hd hm
  have HF:=Hd hFF
  have HO:=Hd (And.intro hO hbo)
  clear KA h hm hFF hO hbo
  go_enter Tryz.func84,Tryz.ntmps84
  go_wp2_with fail
  refine (Uh HK).mono ?_
  rintro _ w1 ⟨rfl,hb1⟩
  have HB1:=Hd ((Uh HO).2.trans (hb1.mono (Uh HO).2.size))
  have HO1:=Hd ((Uh HO).1.keep hb1)
  clear HK HO hb1
  go_wp2_with fail
  have KZ:=wone_any w1
  refine KZ.mono ?_
  clear KZ
  rintro _ w2 ⟨v,rfl,az,nz,cz,bz,mz,dz,rfl,sx,sy,nx,ny,hb⟩
  unfold ratV
  obtain ⟨w3,hw3⟩:∃ x,w2.alloc (.cells #[.bool false,.slice az nz cz,.slice bz mz dz] 25) = x:=⟨_,rfl⟩
  have h23:Below w2.heap.size w2 w3:=by rw [← hw3]; exact bAl
  have hT:Tri w3 w2.heap.size (.bool false) (.slice az nz cz) (.slice bz mz dz):=by rw [← hw3]; exact Tri.made _ _ _ _ _
  have hRo:=(Uh HO1).lt
  have HS:=Hd (show SmX w w3 w.heap.size w2.heap.size ⟨false,az,nz,cz,[1],bz,mz,dz,[1]⟩ from
   ⟨((Uh HB1).trans (hb.mono (Uh HB1).size)).trans (h23.mono ((Uh HB1).trans (hb.mono (Uh HB1).size)).size),((Uh HO1).keep hb).keep h23,hT,sx.below h23,sy.below h23,(by intro x hx; simp at hx; try omega),ok_one (by decide),one_may,(fun p hp => by have:=nx p hp; omega),(fun p hp => by have:=ny p hp; omega),Nat.le_refl _,(by have:=hb.size; omega)⟩)
  clear sx sy nx ny hb h23 hT hRo HO1 HB1
  go_wp2_with fail
  go_loopw [5,6,7] (fun iv _ _ wr => ∃ (i:Nat) (z:Nq),i ≤ n ∧ iv = .int .i64 (i:Nat) ∧ SmX w wr w.heap.size w2.heap.size z ∧ Hid (fdQ MulF (ps.drop i) (z.g,z.x,z.y) = ((SG,LN,LD),ER))) (fun iv _ _ _ => n - (intOf iv).toNat)
  case atStart => exact ⟨0,⟨false,az,nz,cz,[1],bz,mz,dz,[1]⟩,Nat.zero_le _,rfl,Uh HS,Uh HF⟩
  case round =>
   clear HS HF hw3
   obtain ⟨i,z,hi,rfl,hS,HD⟩:=hrel
   by_cases hlt:i < n
   ·have hlt':(i:Int) < (n:Int):=by omega
    obtain ⟨b,off,p,rfl,hp,⟨c0,c1,c2⟩,⟨hs1,hs2⟩,o1,o2⟩:=((Uh H).below hS.bel).at' hlt
    have e0:=hS.tx.c0
    have e1:=hS.tx.c1
    have e2:=hS.tx.c2
    have hpm:=mayQ_get (Uh HM) hp
    obtain ⟨⟨⟨gy,xy,yy⟩,ey⟩,hY⟩:∃ r,MulF z.g z.x z.y p.g p.x p.y = r:=⟨_,rfl⟩
    have KP:=fun (W:World) (hb:Below wr.heap.size wr W) => wMul_any z.g p.g z.a z.b p.a p.b z.n z.c z.m z.d p.n p.c p.m p.d z.x z.y p.x p.y W (hS.num.below hb) (hS.den.below hb) (hs1.below hb) (hs2.below hb) hS.ox hS.oy o1 o2
    unfold ratV at KP
    rw [hY] at KP
    have HKP:=Hd KP
    rw [drop_Q hp] at HD
    have HS:=Hd hS
    have HY:=Hd hY
    have HP:=Hd hpm
    clear KP hS hY hs1 hs2 o1 o2 hpm hp
    have ha_0:=(ck ((Below.refl wr.heap.size wr).drew.alloc (Nat.le_refl _) (.cells #[.bool false,.slice none 0 0,.slice none 0 0] 25)) e0)
    have ha_1:=(ck ((Below.refl wr.heap.size wr).drew.alloc (Nat.le_refl _) (.cells #[.bool false,.slice none 0 0,.slice none 0 0] 25)) e1)
    have ha_2:=(ck ((Below.refl wr.heap.size wr).drew.alloc (Nat.le_refl _) (.cells #[.bool false,.slice none 0 0,.slice none 0 0] 25)) e2)
    have ha_3:=(ck ((Below.refl wr.heap.size wr).drew.alloc (Nat.le_refl _) (.cells #[.bool false,.slice none 0 0,.slice none 0 0] 25)) c0)
    have ha_4:=(ck ((Below.refl wr.heap.size wr).drew.alloc (Nat.le_refl _) (.cells #[.bool false,.slice none 0 0,.slice none 0 0] 25)) c1)
    have ha_5:=(ck ((Below.refl wr.heap.size wr).drew.alloc (Nat.le_refl _) (.cells #[.bool false,.slice none 0 0,.slice none 0 0] 25)) c2)
    have h_0:=(ck (Below.refl wr.heap.size wr).drew e0)
    have h_1:=(ck (Below.refl wr.heap.size wr).drew e1)
    have h_2:=(ck (Below.refl wr.heap.size wr).drew e2)
    have h_3:=(ck (Below.refl wr.heap.size wr).drew c0)
    have h_4:=(ck (Below.refl wr.heap.size wr).drew c1)
    have h_5:=(ck (Below.refl wr.heap.size wr).drew c2)
    go_wp2_with fail
    go_region_held3 (fun w' => w'.cell? ⟨w2.heap.size,0,none⟩ = some (.bool z.g) ∧ w'.cell? ⟨w2.heap.size,1,none⟩ = some (.slice z.a z.n z.c) ∧ w'.cell? ⟨w2.heap.size,2,none⟩ = some (.slice z.b z.m z.d) ∧ w'.cell? ⟨b,off + i * 3,none⟩ = some (.bool p.g) ∧ w'.cell? ⟨b,off + i * 3 + 1,none⟩ = some (.slice p.a p.n p.c) ∧ w'.cell? ⟨b,off + i * 3 + 2,none⟩ = some (.slice p.b p.m p.d)) (first | (with_reducible exact ⟨k_0,k_1,k_2,k_3,k_4,k_5⟩) | (with_reducible exact ⟨ka_0,ka_1,ka_2,ka_3,ka_4,ka_5⟩) | (with_reducible exact ⟨kf_0,kf_1,kf_2,kf_3,kf_4,kf_5⟩) | (with_reducible exact ⟨kn_0,kn_1,kn_2,kn_3,kn_4,kn_5⟩) | (exact ⟨h_0,h_1,h_2,h_3,h_4,h_5⟩) | (exact ⟨ha_0,ha_1,ha_2,ha_3,ha_4,ha_5⟩))
     (first
      | (go_at_call 130; (first
        | ((fail_if_success (with_reducible refine (show Calls _ _ _ (World.alloc _ _) _ from ?_))); refine (Uh HKP _ (Below.refl _ _).drew).mono ?_; rintro _ wk ⟨v,rfl,ay,ny,cy,by_,my,dy,rfl,sx,sy,nx,nn,hb⟩; (try dsimp only at sx sy); unfold ratV; have hbk:Below wr.heap.size wr wk:=(Below.refl _ _).drew.trans hb; have k_0:=(ck hbk e0); have k_1:=(ck hbk e1); have k_2:=(ck hbk e2); have k_3:=(ck hbk c0); have k_4:=(ck hbk c1); have k_5:=(ck hbk c2); have ka_0:=(ck ((Below.refl wk.heap.size wk).alloc (Nat.le_refl _) (.cells #[.bool false,.slice none 0 0,.slice none 0 0] 25)) k_0); have ka_1:=(ck ((Below.refl wk.heap.size wk).alloc (Nat.le_refl _) (.cells #[.bool false,.slice none 0 0,.slice none 0 0] 25)) k_1); have ka_2:=(ck ((Below.refl wk.heap.size wk).alloc (Nat.le_refl _) (.cells #[.bool false,.slice none 0 0,.slice none 0 0] 25)) k_2); have ka_3:=(ck ((Below.refl wk.heap.size wk).alloc (Nat.le_refl _) (.cells #[.bool false,.slice none 0 0,.slice none 0 0] 25)) k_3); have ka_4:=(ck ((Below.refl wk.heap.size wk).alloc (Nat.le_refl _) (.cells #[.bool false,.slice none 0 0,.slice none 0 0] 25)) k_4); have ka_5:=(ck ((Below.refl wk.heap.size wk).alloc (Nat.le_refl _) (.cells #[.bool false,.slice none 0 0,.slice none 0 0] 25)) k_5); have kf_0:=(ck ((Below.refl wk.heap.size wk).alloc (Nat.le_refl _) (.cells #[.bool gy,.slice ay ny cy,.slice by_ my dy] 25)) k_0); have kf_1:=(ck ((Below.refl wk.heap.size wk).alloc (Nat.le_refl _) (.cells #[.bool gy,.slice ay ny cy,.slice by_ my dy] 25)) k_1); have kf_2:=(ck ((Below.refl wk.heap.size wk).alloc (Nat.le_refl _) (.cells #[.bool gy,.slice ay ny cy,.slice by_ my dy] 25)) k_2); have kf_3:=(ck ((Below.refl wk.heap.size wk).alloc (Nat.le_refl _) (.cells #[.bool gy,.slice ay ny cy,.slice by_ my dy] 25)) k_3); have kf_4:=(ck ((Below.refl wk.heap.size wk).alloc (Nat.le_refl _) (.cells #[.bool gy,.slice ay ny cy,.slice by_ my dy] 25)) k_4); have kf_5:=(ck ((Below.refl wk.heap.size wk).alloc (Nat.le_refl _) (.cells #[.bool gy,.slice ay ny cy,.slice by_ my dy] 25)) k_5); have HN:=Hd (ldY_new (wr:=wr) (gy:=gy) sx sy nx nn hbk); have HKS:=Hd (show wr.heap.size ≤ wk.heap.size from hbk.size); clear sx sy nx nn hb hbk)
        | (refine (Uh HKP _ ((Below.refl _ _).drew.alloc (Nat.le_refl _) _)).mono ?_; rintro _ wk ⟨v,rfl,ay,ny,cy,by_,my,dy,rfl,sx,sy,nx,nn,hb⟩; (try dsimp only at sx sy); unfold ratV; have hO:Out wk wr.heap.size:=(Out.made wr.drew).keep hb; have hbk:Below wr.heap.size wr wk:=((Below.refl wr.heap.size wr).drew.alloc (Nat.le_refl _) _).trans (hb.mono (by simp)); have k_0:=(ck hbk e0); have k_1:=(ck hbk e1); have k_2:=(ck hbk e2); have k_3:=(ck hbk c0); have k_4:=(ck hbk c1); have k_5:=(ck hbk c2); have c4:=(three_set wk wr.heap.size (.bool gy) (.slice ay ny cy) (.slice by_ my dy) hO.cells).2.2.2; have kn_0:=c4.cell (Nat.ne_of_lt (World.block_lt_of_cell? _ _ e0)) k_0; have kn_1:=c4.cell (Nat.ne_of_lt (World.block_lt_of_cell? _ _ e1)) k_1; have kn_2:=c4.cell (Nat.ne_of_lt (World.block_lt_of_cell? _ _ e2)) k_2; have kn_3:=c4.cell (Nat.ne_of_lt (World.block_lt_of_cell? _ _ c0)) k_3; have kn_4:=c4.cell (Nat.ne_of_lt (World.block_lt_of_cell? _ _ c1)) k_4; have kn_5:=c4.cell (Nat.ne_of_lt (World.block_lt_of_cell? _ _ c2)) k_5; clear c4; (obtain ⟨i0,q0⟩:=hO.cells 0 (by decide)); (obtain ⟨i1,q1⟩:=hO.cells 1 (by decide)); (obtain ⟨i2,q2⟩:=hO.cells 2 (by decide)); have f0:=hO.fz 0 (by decide); have f1:=hO.fz 1 (by decide); have f2:=hO.fz 2 (by decide); have HN:=Hd (ldY_old (wr:=wr) (gy:=gy) sx sy (fun p hp => by have:=nx p hp; simp at this; omega) (fun p hp => by have:=nn p hp; simp at this; omega) hbk hO); clear sx sy nx nn hb hbk hO))))
    all_goals (first
     | (clear q0 q1 q2 f0 f1 f2; generalize ((wk.setCell ⟨wr.heap.size,0,none⟩ (.bool gy)).setCell ⟨wr.heap.size,1,none⟩ (.slice ay ny cy)).setCell ⟨wr.heap.size,2,none⟩ (.slice by_ my dy) = wy at *; have HRy:=Hd (show wr.heap.size ≤ wr.heap.size from Nat.le_refl _); generalize hRy:wr.heap.size = Ry at HN ⊢; have HRy:=Hd (show wr.heap.size ≤ Ry from hRy ▸ Nat.le_refl _))
     | (generalize wk.alloc (.cells #[.bool gy,.slice ay ny cy,.slice by_ my dy] 25) = wy at *; have HRz:=Hd (Uh HKS); generalize hRy:wk.heap.size = Ry at HN ⊢; have HRy:=Hd (show wr.heap.size ≤ Ry from hRy ▸ Uh HRz)))
    all_goals
     have hN:=Uh HN
     have hS:=Uh HS
     have t0:=hN.tri.c0
     have t1:=hN.tri.c1
     have t2:=hN.tri.c2
     have hlo:=hS.out.lt
     have hlx:=hS.tx.lt
     have hrx:=hS.rx
     have hsz:=hN.bel.size
     have HD0:=HD
     by_cases hz:ey = 0
     ·have hOx:=(hS.tx.keep hN.bel).out
      obtain ⟨j0,u0⟩:=hOx.cells 0 (by decide)
      obtain ⟨j1,u1⟩:=hOx.cells 1 (by decide)
      obtain ⟨j2,u2_⟩:=hOx.cells 2 (by decide)
      have v0:=hOx.fz 0 (by decide)
      have v1:=hOx.fz 1 (by decide)
      have v2:=hOx.fz 2 (by decide)
      have hD2:=(fdQ_go (l:=ps.drop (i + 1)) (z:=(z.g,z.x,z.y)) (Uh HY) hz).symm.trans (Uh HD)
      have hl:=mulF_lists (g1:=z.g) (x1:=z.x) (y1:=z.y) (g2:=p.g) (x2:=p.x) (y2:=p.y)
      obtain ⟨g_,N_,D_,eq_,mm_,_⟩:=mulF_ok hS.may (Uh HP) (by rw [Uh HY]; exact hz)
      rw [Uh HY] at hl eq_
      have hmy:MayR gy xy yy = true:=by cases eq_; exact mm_
      have HX:=Hd (And.intro (hS.next hN hl.1 hl.2 hmy) hD2)
      have hz2:(ey != 0) = false:=by simpa using hz
      clear hN hS hOx hl eq_ mm_ hmy hD2 hz HD HD0 HP HY HKP hRy
      go_wp2_with fail
      exact ⟨⟨i + 1,⟨gy,ay,ny,cy,xy,by_,my,dy,yy⟩,by omega,by go_num,(Uh HX).1,(Uh HX).2⟩,by simp [intOf]; omega⟩
     ·have hOo:=hS.out.keep hN.bel
      obtain ⟨j0,u0⟩:=hOo.cells 0 (by decide)
      obtain ⟨j1,u1⟩:=hOo.cells 1 (by decide)
      obtain ⟨j2,u2_⟩:=hOo.cells 2 (by decide)
      have v0:=hOo.fz 0 (by decide)
      have v1:=hOo.fz 1 (by decide)
      have v2:=hOo.fz 2 (by decide)
      have hD2:=(fdQ_no (l:=ps.drop (i + 1)) (z:=(z.g,z.x,z.y)) (Uh HY) hz).symm.trans (Uh HD)
      simp only [Prod.mk.injEq] at hD2
      obtain ⟨⟨rfl,rfl,rfl⟩,rfl⟩:=hD2
      have HX:=Hd (And.intro (ret_Q (w:=w) (gy:=gy) hOo hN.num hN.den (fun p hp => by have:=hN.na p hp; omega) (fun p hp => by have:=hN.nb p hp; omega) (hS.bel.trans (hN.bel.mono hS.bel.size)) hS.ro) (three_set wy w.heap.size (.bool gy) (.slice ay ny cy) (.slice by_ my dy) hOo.cells))
      have hz2:(ey != 0) = true:=by simpa using hz
      have hr1:Ry ≠ w.heap.size:=by have:=Uh HRy; omega
      have hr2:=hr1.symm
      clear hN hS hOo hz HD HD0 HP HY HKP
      go_wp2_with fail
      try go_region
      all_goals
       try go_wp2_with fail
       obtain ⟨hR,t0_,t1_,t2_,cc⟩:=Uh HX
       generalize ((wy.setCell ⟨w.heap.size,0,none⟩ (.bool gy)).setCell ⟨w.heap.size,1,none⟩ (.slice ay ny cy)).setCell ⟨w.heap.size,2,none⟩ (.slice by_ my dy) = wq at *
       refine bodyPost_ret (by simp [results,Tryz.results84,go_sem,t0_,t1_,t2_]; try rfl) rfl ?_
       first | exact ⟨_,rfl,hR⟩ | exact ⟨_,rfl,hR.drewQ⟩
   ·obtain rfl:i = n:=by omega
    have hlt':¬ (i:Int) < (i:Int):=by omega
    have hd:ps.drop i = []:=List.drop_eq_nil_of_le (by rw [Uh HL]; exact Nat.le_refl _)
    rw [hd] at HD
    have hD2:((z.g,z.x,z.y),(0:Int)) = ((SG,LN,LD),ER):=Uh HD
    simp only [Prod.mk.injEq] at hD2
    obtain ⟨⟨rfl,rfl,rfl⟩,rfl⟩:=hD2
    have e0:=hS.tx.c0
    have e1:=hS.tx.c1
    have e2:=hS.tx.c2
    have hOo:=hS.out
    obtain ⟨j0,u0⟩:=hOo.cells 0 (by decide)
    obtain ⟨j1,u1⟩:=hOo.cells 1 (by decide)
    obtain ⟨j2,u2_⟩:=hOo.cells 2 (by decide)
    have v0:=hOo.fz 0 (by decide)
    have v1:=hOo.fz 1 (by decide)
    have v2:=hOo.fz 2 (by decide)
    have hrx:=hS.rx
    have hr1:w2.heap.size ≠ w.heap.size:=by omega
    have hr2:=hr1.symm
    have HX:=Hd (And.intro (ret_Q (w:=w) (gy:=z.g) hOo hS.num hS.den hS.na hS.nb hS.bel hS.ro) (three_set wr w.heap.size (.bool z.g) (.slice z.a z.n z.c) (.slice z.b z.m z.d) hOo.cells))
    clear hS hOo HD hd hrx
    go_wp2_with fail
    try go_region
    all_goals
     try go_wp2_with fail
     obtain ⟨hR,t0_,t1_,t2_,cc⟩:=Uh HX
     generalize ((wr.setCell ⟨w.heap.size,0,none⟩ (.bool z.g)).setCell ⟨w.heap.size,1,none⟩ (.slice z.a z.n z.c)).setCell ⟨w.heap.size,2,none⟩ (.slice z.b z.m z.d) = wq at *
     refine bodyPost_ret (by simp [results,Tryz.results84,go_sem,t0_,t1_,t2_]; try rfl) rfl ?_
     first | exact ⟨_,rfl,hR⟩ | exact ⟨_,rfl,hR.drewQ⟩
theorem con_cons {p q:Nq} {l k:List Nq} (h:(p :: l).map conQ = (q :: k).map conQ):p.g = q.g ∧ p.x = q.x ∧ p.y = q.y ∧ l.map conQ = k.map conQ:=by
 simp only [List.map_cons] at h
 injection h with h1 h2
 unfold conQ at h1
 injection h1 with e1 e2
 injection e2 with e2 e3
 exact ⟨e1,e2,e3,h2⟩
theorem mayQ_con {ps qs:List Nq} (h:ps.map conQ = qs.map conQ):mayQ ps = mayQ qs:=by
 induction ps generalizing qs with
 | nil => cases qs with
  | nil => rfl
  | cons q k => simp at h
 | cons p l ih => cases qs with
  | nil => simp at h
  | cons q k =>
   obtain ⟨e1,e2,e3,e4⟩:=con_cons h
   have:=ih e4
   unfold mayQ at this ⊢
   simp only [List.all_cons,e1,e2,e3,this]
theorem fdQ_con (F:Bool → List Nat → List Nat → Bool → List Nat → List Nat → (Bool × List Nat × List Nat) × Int) {ps qs:List Nq} (h:ps.map conQ = qs.map conQ) (z:Bool × List Nat × List Nat):fdQ F ps z = fdQ F qs z:=by
 induction ps generalizing qs z with
 | nil => cases qs with
  | nil => rfl
  | cons q k => simp at h
 | cons p l ih => cases qs with
  | nil => simp at h
  | cons q k =>
   obtain ⟨e1,e2,e3,e4⟩:=con_cons h
   rw [fdQ,fdQ,e1,e2,e3,ih e4]
theorem foldQ_con (F:Bool → List Nat → List Nat → Bool → List Nat → List Nat → (Bool × List Nat × List Nat) × Int) (z:List Nat) {ps qs:List Nq} (h:ps.map conQ = qs.map conQ):foldQ F z ps = foldQ F z qs:=by
 unfold foldQ
 rw [mayQ_con h,fdQ_con F h]
theorem dtQ_con {ps qs rs ss:List Nq} (h:ps.map conQ = qs.map conQ) (k:rs.map conQ = ss.map conQ) (z:Bool × List Nat × List Nat):dtQ ps rs z = dtQ qs ss z:=by
 induction ps generalizing qs rs ss z with
 | nil => cases qs with
  | nil => simp [dtQ]
  | cons q k => simp at h
 | cons p l ih => cases qs with
  | nil => simp at h
  | cons q l' =>
   obtain ⟨e1,e2,e3,e4⟩:=con_cons h
   cases rs with
   | nil => cases ss with
    | nil => simp [dtQ]
    | cons s t => simp at k
   | cons r t => cases ss with
    | nil => simp at k
    | cons s t' =>
     obtain ⟨f1,f2,f3,f4⟩:=con_cons k
     rw [dtQ,dtQ,e1,e2,e3,f1,f2,f3,ih e4 f4]
theorem dotQ_con {ps qs rs ss:List Nq} (h:ps.map conQ = qs.map conQ) (k:rs.map conQ = ss.map conQ):dotQ ps rs = dotQ qs ss:=by
 have l1:ps.length = qs.length:=by simpa using congrArg List.length h
 have l2:rs.length = ss.length:=by simpa using congrArg List.length k
 unfold dotQ
 rw [mayQ_con h,mayQ_con k,l1,l2,dtQ_con h k]
end Go.Proofs.YtmmeiebbnjjijaaGreatDoor
