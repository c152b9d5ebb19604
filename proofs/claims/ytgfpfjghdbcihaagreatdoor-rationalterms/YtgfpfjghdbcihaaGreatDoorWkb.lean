/- Ryi -/
import Derived.Test.YtgfpfjghdbcihaaGreatDoorRyg
import Derived.Test.YtgfpfjghdbcihaaGreatDoorRyh
import Derived.Test.YtgfpfjghdbcihaaGreatDoorWrd
import Derived.Test.YtgfpfjghdbcihaaGreatDoorRy9
import Derived.Test.YtgfpfjghdbcihaaGreatDoorWia
import Derived.Deep.RegionHeld3
namespace Go.Proofs.YtgfpfjghdbcihaaGreatDoor
open Go.RowKit Go.Deep
set_option linter.unusedVariables false
set_option maxRecDepth 100000 in
set_option maxHeartbeats 8000000 in
theorem wfromTerms_bad (a:Option Addr) (n c:Nat) (ps:List Nq) (w:World) (h:SlQ w a n c ps) (hn:n ≤ 140737488355328) (hm:mayQ ps = false) :
  Calls Tryz.prog 45 #[.slice a n c] w fun e w' => ResF w w' ((false,[],[]),40) e:=by
 obtain ⟨wo,hwo⟩:∃ x,w.alloc (.cells #[.bool false,.slice none 0 0,.slice none 0 0] 25) = x:=⟨_,rfl⟩
 have hbo:Below w.heap.size w wo:=by rw [← hwo]; exact bAl
 have hO:=Out.made w
 rw [hwo] at hO
 have KA:=wmayAll_any a n c ps wo (h.below hbo) (by omega)
 rw [hm] at KA
 have HKA:=Hd KA
 have HO:=Hd (And.intro hO hbo)
 clear KA h hm hO hbo
 unfold ResF
 dsimp only
 go_enter Tryz.func45,Tryz.ntmps45
 go_wp2_with fail
 refine (Uh HKA).mono ?_
 rintro _ w1 ⟨rfl,b1⟩
 have HB1:=Hd ((Uh HO).2.trans (b1.mono (Uh HO).2.size))
 have HO1:=Hd ((Uh HO).1.keep b1)
 have HBr:=Hd b1
 clear b1 HKA HO
 have hOo:=(Uh HO1)
 obtain ⟨j0,u0⟩:=hOo.cells 0 (by decide)
 obtain ⟨j1,u1⟩:=hOo.cells 1 (by decide)
 obtain ⟨j2,u2⟩:=hOo.cells 2 (by decide)
 have v0:=hOo.fz 0 (by decide)
 have v1:=hOo.fz 1 (by decide)
 have v2:=hOo.fz 2 (by decide)
 have HR:=Hd (And.intro (three_set w1 w.heap.size (.bool false) (.slice none 0 0) (.slice none 0 0) hOo.cells) (ret_Q (w:=w) (gy:=false) hOo (sl_nil _) (sl_nil _) (newAt_nil _) (newAt_nil _) (Uh HB1) (Nat.le_refl _)))
 clear hOo
 go_wp2_with fail
 obtain ⟨⟨t0_,t1_,t2_,cc_⟩,hR⟩:=Uh HR
 generalize ((w1.setCell ⟨w.heap.size,0,none⟩ (.bool false)).setCell ⟨w.heap.size,1,none⟩ (.slice none 0 0)).setCell ⟨w.heap.size,2,none⟩ (.slice none 0 0) = wf at *
 refine bodyPost_ret (by simp [results,Tryz.results45,go_sem,t0_,t1_,t2_]; try rfl) rfl ?_
 exact ⟨_,rfl,hR⟩
set_option maxRecDepth 100000 in
set_option maxHeartbeats 8000000 in
theorem wfromTerms_none (a:Option Addr) (n c:Nat) (ps:List Nq) (w:World) (h:SlQ w a n c ps) (hn:n ≤ 140737488355328) (hm:mayQ ps = true) (h0:n = 0) :
  Calls Tryz.prog 45 #[.slice a n c] w fun e w' => ResF w w' ((false,[],[]),1) e:=by
 obtain ⟨wo,hwo⟩:∃ x,w.alloc (.cells #[.bool false,.slice none 0 0,.slice none 0 0] 25) = x:=⟨_,rfl⟩
 have hbo:Below w.heap.size w wo:=by rw [← hwo]; exact bAl
 have hO:=Out.made w
 rw [hwo] at hO
 have KA:=wmayAll_any a n c ps wo (h.below hbo) (by omega)
 rw [hm] at KA
 have HKA:=Hd KA
 have HO:=Hd (And.intro hO hbo)
 have t0:((n:Int) == 0) = true:=by simp; omega
 clear KA h hm hO hbo h0 hn
 unfold ResF
 dsimp only
 go_enter Tryz.func45,Tryz.ntmps45
 go_wp2_with fail
 refine (Uh HKA).mono ?_
 rintro _ w1 ⟨rfl,b1⟩
 have HB1:=Hd ((Uh HO).2.trans (b1.mono (Uh HO).2.size))
 have HO1:=Hd ((Uh HO).1.keep b1)
 have HBr:=Hd b1
 clear b1 HKA HO
 have hOo:=(Uh HO1)
 obtain ⟨j0,u0⟩:=hOo.cells 0 (by decide)
 obtain ⟨j1,u1⟩:=hOo.cells 1 (by decide)
 obtain ⟨j2,u2⟩:=hOo.cells 2 (by decide)
 have v0:=hOo.fz 0 (by decide)
 have v1:=hOo.fz 1 (by decide)
 have v2:=hOo.fz 2 (by decide)
 have HR:=Hd (And.intro (three_set w1 w.heap.size (.bool false) (.slice none 0 0) (.slice none 0 0) hOo.cells) (ret_Q (w:=w) (gy:=false) hOo (sl_nil _) (sl_nil _) (newAt_nil _) (newAt_nil _) (Uh HB1) (Nat.le_refl _)))
 clear hOo
 go_wp2_with fail
 obtain ⟨⟨t0_,t1_,t2_,cc_⟩,hR⟩:=Uh HR
 generalize ((w1.setCell ⟨w.heap.size,0,none⟩ (.bool false)).setCell ⟨w.heap.size,1,none⟩ (.slice none 0 0)).setCell ⟨w.heap.size,2,none⟩ (.slice none 0 0) = wf at *
 refine bodyPost_ret (by simp [results,Tryz.results45,go_sem,t0_,t1_,t2_]; try rfl) rfl ?_
 exact ⟨_,rfl,hR⟩
set_option maxRecDepth 100000 in
set_option maxHeartbeats 8000000 in
theorem wfromTerms_long (a:Option Addr) (n c:Nat) (ps:List Nq) (w:World) (h:SlQ w a n c ps) (hn:n ≤ 140737488355328) (hm:mayQ ps = true) (h0:1024 < n) :
  Calls Tryz.prog 45 #[.slice a n c] w fun e w' => ResF w w' ((false,[],[]),1) e:=by
 obtain ⟨wo,hwo⟩:∃ x,w.alloc (.cells #[.bool false,.slice none 0 0,.slice none 0 0] 25) = x:=⟨_,rfl⟩
 have hbo:Below w.heap.size w wo:=by rw [← hwo]; exact bAl
 have hO:=Out.made w
 rw [hwo] at hO
 have KA:=wmayAll_any a n c ps wo (h.below hbo) (by omega)
 rw [hm] at KA
 have HKA:=Hd KA
 have HO:=Hd (And.intro hO hbo)
 have t0:((n:Int) == 0) = false:=by simp; omega
 have t2:(1024:Int) < (n:Int):=by omega
 have t1:decide ((1024:Int) < (n:Int)) = true:=decide_eq_true t2
 clear KA h hm hO hbo h0 hn
 unfold ResF
 dsimp only
 go_enter Tryz.func45,Tryz.ntmps45
 go_wp2_with fail
 refine (Uh HKA).mono ?_
 rintro _ w1 ⟨rfl,b1⟩
 have HB1:=Hd ((Uh HO).2.trans (b1.mono (Uh HO).2.size))
 have HO1:=Hd ((Uh HO).1.keep b1)
 have HBr:=Hd b1
 clear b1 HKA HO
 have hOo:=(Uh HO1)
 obtain ⟨j0,u0⟩:=hOo.cells 0 (by decide)
 obtain ⟨j1,u1⟩:=hOo.cells 1 (by decide)
 obtain ⟨j2,u2⟩:=hOo.cells 2 (by decide)
 have v0:=hOo.fz 0 (by decide)
 have v1:=hOo.fz 1 (by decide)
 have v2:=hOo.fz 2 (by decide)
 have HR:=Hd (And.intro (three_set w1 w.heap.size (.bool false) (.slice none 0 0) (.slice none 0 0) hOo.cells) (ret_Q (w:=w) (gy:=false) hOo (sl_nil _) (sl_nil _) (newAt_nil _) (newAt_nil _) (Uh HB1) (Nat.le_refl _)))
 clear hOo
 go_wp2_with fail
 obtain ⟨⟨t0_,t1_,t2_,cc_⟩,hR⟩:=Uh HR
 generalize ((w1.setCell ⟨w.heap.size,0,none⟩ (.bool false)).setCell ⟨w.heap.size,1,none⟩ (.slice none 0 0)).setCell ⟨w.heap.size,2,none⟩ (.slice none 0 0) = wf at *
 refine bodyPost_ret (by simp [results,Tryz.results45,go_sem,t0_,t1_,t2_]; try rfl) rfl ?_
 exact ⟨_,rfl,hR⟩
theorem wfromTerms_any (a:Option Addr) (n c:Nat) (ps:List Nq) (w:World) (h:SlQ w a n c ps) (hn:n ≤ 140737488355328) (hz:∀ p ∈ ps,p.a = none → p.c = 0) :
  Calls Tryz.prog 45 #[.slice a n c] w fun e w' => ResF w w' (FtF ps) e:=by
 cases hm:mayQ ps with
 | false => rw [ftF_bad hm]; exact wfromTerms_bad a n c ps w h hn hm
 | true =>
  by_cases h0:n = 0
  ·have hp:ps = []:=List.eq_nil_of_length_eq_zero (by rw [h.len]; exact h0)
   rw [ftF_no hm (by rw [hp]; rfl)]
   exact wfromTerms_none a n c ps w h hn hm h0
  ·by_cases h1:1024 < n
   ·rw [ftF_no hm (tmQ_long (by rw [h.len]; exact h1))]
    exact wfromTerms_long a n c ps w h hn hm h1
   ·cases ht:tmQ ps with
    | false => rw [ftF_no hm ht]; exact wfromTerms_no a n c ps w h hm ht (by omega) (by omega)
    | true =>
     cases hps:ps with
     | nil => rw [hps] at ht; cases ht
     | cons p0 r =>
      rw [← hps]
      by_cases h2:n = 1
      ·exact wfromTerms_one a n c p0 r ps hps w h hm ht h2 (hz p0 (by rw [hps]; exact List.mem_cons_self))
      ·exact wfromTerms_many a n c p0 r ps hps w h hm ht (by omega) (hz p0 (by rw [hps]; exact List.mem_cons_self))
set_option maxRecDepth 100000 in
set_option maxHeartbeats 8000000 in
theorem rfromTerms_bad (a:Option Addr) (n c:Nat) (ps:List Nq) (w:World) (h:SlQ w a n c ps) (hn:n ≤ 140737488355328) (hT:Tab64 w) (hm:mayQ ps = false) :
  Calls Tryz.prog 44 #[.slice a n c] w fun e w' => ResF w w' ((false,[],[]),40) e:=by
 obtain ⟨wo,hwo⟩:∃ x,w.alloc (.cells #[.bool false,.slice none 0 0,.slice none 0 0] 25) = x:=⟨_,rfl⟩
 have hbo:Below w.heap.size w wo:=by rw [← hwo]; exact bAl
 have hO:=Out.made w
 rw [hwo] at hO
 have KA:=rmayAll_any a n c ps wo (h.below hbo) (by omega) (hT.below hbo)
 rw [hm] at KA
 have HKA:=Hd KA
 have HO:=Hd (And.intro hO hbo)
 clear KA h hm hO hbo
 unfold ResF
 dsimp only
 go_enter Tryz.func44,Tryz.ntmps44
 go_wp2_with fail
 refine (Uh HKA).mono ?_
 rintro _ w1 ⟨rfl,b1⟩
 have HB1:=Hd ((Uh HO).2.trans (b1.mono (Uh HO).2.size))
 have HO1:=Hd ((Uh HO).1.keep b1)
 have HBr:=Hd b1
 clear b1 HKA HO
 have hOo:=(Uh HO1)
 obtain ⟨j0,u0⟩:=hOo.cells 0 (by decide)
 obtain ⟨j1,u1⟩:=hOo.cells 1 (by decide)
 obtain ⟨j2,u2⟩:=hOo.cells 2 (by decide)
 have v0:=hOo.fz 0 (by decide)
 have v1:=hOo.fz 1 (by decide)
 have v2:=hOo.fz 2 (by decide)
 have HR:=Hd (And.intro (three_set w1 w.heap.size (.bool false) (.slice none 0 0) (.slice none 0 0) hOo.cells) (ret_Q (w:=w) (gy:=false) hOo (sl_nil _) (sl_nil _) (newAt_nil _) (newAt_nil _) (Uh HB1) (Nat.le_refl _)))
 clear hOo
 go_wp2_with fail
 obtain ⟨⟨t0_,t1_,t2_,cc_⟩,hR⟩:=Uh HR
 generalize ((w1.setCell ⟨w.heap.size,0,none⟩ (.bool false)).setCell ⟨w.heap.size,1,none⟩ (.slice none 0 0)).setCell ⟨w.heap.size,2,none⟩ (.slice none 0 0) = wf at *
 refine bodyPost_ret (by simp [results,Tryz.results44,go_sem,t0_,t1_,t2_]; try rfl) rfl ?_
 exact ⟨_,rfl,hR⟩
set_option maxRecDepth 100000 in
set_option maxHeartbeats 8000000 in
theorem rfromTerms_no (a:Option Addr) (n c:Nat) (ps:List Nq) (w:World) (h:SlQ w a n c ps) (hn:n ≤ 140737488355328) (hT:Tab64 w) (hm:mayQ ps = true) (ht:tmQ ps = false) :
  Calls Tryz.prog 44 #[.slice a n c] w fun e w' => ResF w w' ((false,[],[]),1) e:=by
 obtain ⟨wo,hwo⟩:∃ x,w.alloc (.cells #[.bool false,.slice none 0 0,.slice none 0 0] 25) = x:=⟨_,rfl⟩
 have hbo:Below w.heap.size w wo:=by rw [← hwo]; exact bAl
 have hO:=Out.made w
 rw [hwo] at hO
 have KA:=rmayAll_any a n c ps wo (h.below hbo) (by omega) (hT.below hbo)
 rw [hm] at KA
 have HKA:=Hd KA
 have HO:=Hd (And.intro hO hbo)
 have KT:=fun (W:World) (hb:Below wo.heap.size wo W) => rareTerms_any a n c ps W ((h.below hbo).below hb)
 rw [ht] at KT
 have HKT:=Hd KT
 clear KA KT h hm hO hbo ht
 unfold ResF
 dsimp only
 go_enter Tryz.func44,Tryz.ntmps44
 go_wp2_with fail
 refine (Uh HKA).mono ?_
 rintro _ w1 ⟨rfl,b1⟩
 have HB1:=Hd ((Uh HO).2.trans (b1.mono (Uh HO).2.size))
 have HO1:=Hd ((Uh HO).1.keep b1)
 have HBr:=Hd b1
 clear b1 HKA HO
 go_wp2_with fail
 refine (Uh HKT _ (Uh HBr)).mono ?_
 rintro _ w2 ⟨rfl,b2⟩
 have HB2:=Hd ((Uh HB1).trans (b2.mono (Uh HB1).size))
 have HO2:=Hd ((Uh HO1).keep b2)
 clear b2 HKT
 have hOo:=(Uh HO2)
 obtain ⟨j0,u0⟩:=hOo.cells 0 (by decide)
 obtain ⟨j1,u1⟩:=hOo.cells 1 (by decide)
 obtain ⟨j2,u2⟩:=hOo.cells 2 (by decide)
 have v0:=hOo.fz 0 (by decide)
 have v1:=hOo.fz 1 (by decide)
 have v2:=hOo.fz 2 (by decide)
 have HR:=Hd (And.intro (three_set w2 w.heap.size (.bool false) (.slice none 0 0) (.slice none 0 0) hOo.cells) (ret_Q (w:=w) (gy:=false) hOo (sl_nil _) (sl_nil _) (newAt_nil _) (newAt_nil _) (Uh HB2) (Nat.le_refl _)))
 clear hOo
 go_wp2_with fail
 obtain ⟨⟨t0_,t1_,t2_,cc_⟩,hR⟩:=Uh HR
 generalize ((w2.setCell ⟨w.heap.size,0,none⟩ (.bool false)).setCell ⟨w.heap.size,1,none⟩ (.slice none 0 0)).setCell ⟨w.heap.size,2,none⟩ (.slice none 0 0) = wf at *
 refine bodyPost_ret (by simp [results,Tryz.results44,go_sem,t0_,t1_,t2_]; try rfl) rfl ?_
 exact ⟨_,rfl,hR⟩
theorem rfromTerms_any (a:Option Addr) (n c:Nat) (ps:List Nq) (w:World) (h:SlQ w a n c ps) (hn:n ≤ 140737488355328) (hT:Tab64 w) :
  Calls Tryz.prog 44 #[.slice a n c] w fun e w' => ResF w w' (FtF ps) e:=by
 cases hm:mayQ ps with
 | false => rw [ftF_bad hm]; exact rfromTerms_bad a n c ps w h hn hT hm
 | true =>
  cases ht:tmQ ps with
  | false => rw [ftF_no hm ht]; exact rfromTerms_no a n c ps w h hn hT hm ht
  | true =>
   cases ps with
   | nil => cases ht
   | cons p0 r => exact rfromTerms_ok a n c p0 r w h hm ht hT
set_option maxHeartbeats 8000000 in
set_option maxRecDepth 100000 in
theorem ratfloor_any (g:Bool) (a b:Option Addr) (n c m d:Nat) (x y:List Nat) (w:World) (hx:Sl w a n c x) (hy:Sl w b m d y) (ox:Ok x) (oy:Ok y) (kx:MayL x = true) (ky:MayL y = true) (ey:y ≠ []) :
  Calls Tryz.prog 83 #[ratV g a n c b m d] w fun e w' => FlPost g (val x) (val y) w e w':=by
 have bx:=Box.made w g a n c b m d
 obtain ⟨wa,hwa⟩:∃ wa,ratBox w g a n c b m d = wa:=⟨_,rfl⟩
 rw [hwa] at bx
 obtain ⟨wb,hwb⟩:∃ wb,wa.alloc (.cells #[.bool false,.slice none 0 0,.slice none 0 0] 25) = wb:=⟨_,rfl⟩
 have hba:Below w.heap.size w wa:=by rw [← hwa]; exact bAl
 have hbb:Below wa.heap.size wa wb:=by rw [← hwb]; exact bAl
 have hO:Out wb wa.heap.size:=by rw [← hwb]; exact Out.made wa
 have hX:=bx.keep hbb
 have hB:=hba.trans (hbb.mono hba.size)
 have hlt:=bx.lt
 have d0:=hX.d0
 have d1:=hX.d1
 have d2:=hX.d2
 unfold ratBox at hwa
 have vy:=val_pos_of_may ky ey
 have KD:=ndivmod_any a b n c m d x y wb (hx.below hB) (hy.below hB) ox oy
 have hdv:divL x y = (limbs (val x / val y),limbs (val x % val y),0):=by
  unfold divL
  rw [kx,ky]
  simp [ey]
 rw [hdv] at KD
 try dsimp only at KD
 have mq:MayL (limbs (val x / val y)) = true:=may_div kx ox _
 have ml:MayL (limbs (val x % val y)) = true:=may_small ky oy (Nat.le_of_lt (Nat.mod_lt _ vy))
 have HIf:=Hd (fun (h:val x % val y ≠ 0) => (MayL.len (may_small kx ox (incr_fit vy h)):(limbs (val x / val y + 1)).length ≤ 2048))
 have HMl:=Hd (Nat.le_of_lt (Nat.mod_lt (val x) vy))
 obtain ⟨X,hXX⟩:∃ X,val x = X:=⟨_,rfl⟩
 obtain ⟨Y,hYY⟩:∃ Y,val y = Y:=⟨_,rfl⟩
 rw [hXX,hYY] at KD mq ml HIf
 rw [hYY,hXX] at HMl
 rw [hXX,hYY]
 have HKD:=Hd KD
 have HM:=Hd (And.intro mq (And.intro ml ky))
 have HX:=Hd (And.intro hX (And.intro hO (And.intro hB (And.intro hy (And.intro hYY oy)))))
 unfold ratV at ⊢
 clear bx hX hO hB hba hbb KD hx hy hXX hYY hdv mq ml vy kx ky ey
 go_enter Tryz.func83,Tryz.ntmps83
 go_wp2_with fail
 refine (Uh HKD).mono ?_
 rintro _ w1 ⟨aq,mq,cq,al,ml,cl,rfl,sq,nq,sl,nl,_,b1⟩
 have hol:=(Uh HX).2.1.lt
 have hws:=(Uh HX).2.2.1.size
 have HW:=Hd (And.intro (show w.heap.size ≤ wa.heap.size by omega) (show w.heap.size ≤ wb.heap.size from hws))
 have HY:=Hd (And.intro ((Uh HX).1.keep b1) (And.intro ((Uh HX).2.1.keep b1) ((Uh HX).2.2.1.trans (b1.mono (Uh HX).2.2.1.size))))
 have q0:=(Uh HY).1.d0
 have q2:=(Uh HY).1.d2
 have hll:(limbs (X % Y)).length = ml:=sl.len
 cases g
 ·have HS:=Hd (And.intro sq (And.intro sl (And.intro (fun p hp => by have h1:=nq p hp; omega:∀ p,aq = some p → wb.heap.size ≤ p.block) (fun p hp => by have h1:=nl p hp; omega:∀ p,al = some p → wb.heap.size ≤ p.block))))
  clear sq nq sl nl b1 hll HKD hws d0 d1 d2
  have hln:=(Uh HS).1.len
  have K:=ratWhole_any false aq mq cq w1
  unfold WhPost at K
  rw [limbs_len0 hln] at K
  obtain ⟨SG,hSG⟩:∃ SG,(false && decide (X / Y ≠ 0)) = SG:=⟨_,rfl⟩
  rw [hSG] at K
  unfold ratV at K
  have HK:=Hd K
  have HSG:=Hd hSG
  have e0:=(Uh HY).1.d0
  clear hln K hSG
  go_wp2_with fail
  refine (Uh HK).mono ?_
  rintro _ w5 ⟨aD,mD,cD,rfl,sD,nD,b5⟩
  have hO3:=(Uh HY).2.1.keep b5
  have hlo:=(Uh HY).2.1.lt
  obtain ⟨i0,o0⟩:=hO3.cells 0 (by decide)
  obtain ⟨i1,o1⟩:=hO3.cells 1 (by decide)
  obtain ⟨i2,o2⟩:=hO3.cells 2 (by decide)
  have r0:=hO3.fz 0 (by decide)
  have r1:=hO3.fz 1 (by decide)
  have r2:=hO3.fz 2 (by decide)
  have H4:=Hd (three_set w5 wa.heap.size (.bool SG) (.slice aq mq cq) (.slice aD mD cD) hO3.cells)
  have HZ:=Hd (And.intro ((Uh HS).1.below b5) (And.intro sD (And.intro ((Uh HS).2.1.below b5) (And.intro (fun p hp => by have h1:=(Uh HS).2.2.1 p hp; omega:∀ p,aq = some p → p.block ≠ wa.heap.size) (And.intro (fun p hp => by have h1:=nD p hp; omega:∀ p,aD = some p → p.block ≠ wa.heap.size) (And.intro (fun p hp => by have h1:=(Uh HS).2.2.2 p hp; omega:∀ p,al = some p → p.block ≠ wa.heap.size) (And.intro (fun p hp => by have h1:=(Uh HS).2.2.1 p hp; have h2:=(Uh HW).2; omega:NewAt w.heap.size aq) (And.intro (fun p hp => by have h1:=nD p hp; have h2:=(Uh HY).2.2.size; omega:NewAt w.heap.size aD) ((Uh HY).2.2.trans (b5.mono (Uh HY).2.2.size))))))))))
  clear hO3 hlo sD nD b5 HK e0 HS
  go_wp2_with fail
  obtain ⟨t0,t1,t2,c4⟩:=Uh H4
  generalize ((w5.setCell ⟨wa.heap.size,0,none⟩ (.bool SG)).setCell ⟨wa.heap.size,1,none⟩ (.slice aq mq cq)).setCell ⟨wa.heap.size,2,none⟩ (.slice aD mD cD) = wk at *
  refine bodyPost_ret (by simp [results,Tryz.results83,go_sem,t0,t1,t2]; try rfl) rfl ?_
  have z:=Uh HZ
  unfold FlPost
  rw [show flQ false X Y = X / Y from by unfold flQ; rfl,show flL false X Y = X % Y from by unfold flL; rfl]
  rw [Uh HSG]
  exact ⟨aq,mq,cq,aD,mD,cD,al,ml,cl,rfl,z.1.chg c4 (fun p hp _ => z.2.2.2.1 p hp),z.2.1.chg c4 (fun p hp _ => z.2.2.2.2.1 p hp),z.2.2.1.chg c4 (fun p hp _ => z.2.2.2.2.2.1 p hp),z.2.2.2.2.2.2.1,z.2.2.2.2.2.2.2.1,z.2.2.2.2.2.2.2.2.trans (c4.below z.2.2.2.2.2.2.2.2.size (fun k hk h => by have:=(Uh HW).1; omega))⟩
 ·by_cases hz:X % Y = 0
  ·have hl0:ml = 0:=by rw [← hll,hz]; have:=limbs_val (xs:=[]) (by intro x hx; cases hx) (by simp [Norm]); simp [val] at this; rw [this]; rfl
   have HS:=Hd (And.intro sq (And.intro sl (And.intro (fun p hp => by have h1:=nq p hp; omega:∀ p,aq = some p → wb.heap.size ≤ p.block) (fun p hp => by have h1:=nl p hp; omega:∀ p,al = some p → wb.heap.size ≤ p.block))))
   have hl1:¬ (0:Int) < (ml:Int):=by omega
   have HZ0:=Hd hz
   clear sq nq sl nl b1 hll HKD hws hl0 hz d0 d1 d2
   have hln:=(Uh HS).1.len
   have K:=ratWhole_any true aq mq cq w1
   unfold WhPost at K
   rw [limbs_len0 hln] at K
   obtain ⟨SG,hSG⟩:∃ SG,(true && decide (X / Y ≠ 0)) = SG:=⟨_,rfl⟩
   rw [hSG] at K
   unfold ratV at K
   have HK:=Hd K
   have HSG:=Hd hSG
   have e0:=(Uh HY).1.d0
   clear hln K hSG
   go_wp2_with fail
   refine (Uh HK).mono ?_
   rintro _ w5 ⟨aD,mD,cD,rfl,sD,nD,b5⟩
   have hO3:=(Uh HY).2.1.keep b5
   have hlo:=(Uh HY).2.1.lt
   obtain ⟨i0,o0⟩:=hO3.cells 0 (by decide)
   obtain ⟨i1,o1⟩:=hO3.cells 1 (by decide)
   obtain ⟨i2,o2⟩:=hO3.cells 2 (by decide)
   have r0:=hO3.fz 0 (by decide)
   have r1:=hO3.fz 1 (by decide)
   have r2:=hO3.fz 2 (by decide)
   have H4:=Hd (three_set w5 wa.heap.size (.bool SG) (.slice aq mq cq) (.slice aD mD cD) hO3.cells)
   have HZ:=Hd (And.intro ((Uh HS).1.below b5) (And.intro sD (And.intro ((Uh HS).2.1.below b5) (And.intro (fun p hp => by have h1:=(Uh HS).2.2.1 p hp; omega:∀ p,aq = some p → p.block ≠ wa.heap.size) (And.intro (fun p hp => by have h1:=nD p hp; omega:∀ p,aD = some p → p.block ≠ wa.heap.size) (And.intro (fun p hp => by have h1:=(Uh HS).2.2.2 p hp; omega:∀ p,al = some p → p.block ≠ wa.heap.size) (And.intro (fun p hp => by have h1:=(Uh HS).2.2.1 p hp; have h2:=(Uh HW).2; omega:NewAt w.heap.size aq) (And.intro (fun p hp => by have h1:=nD p hp; have h2:=(Uh HY).2.2.size; omega:NewAt w.heap.size aD) ((Uh HY).2.2.trans (b5.mono (Uh HY).2.2.size))))))))))
   clear hO3 hlo sD nD b5 HK e0 HS
   go_wp2_with fail
   obtain ⟨t0,t1,t2,c4⟩:=Uh H4
   generalize ((w5.setCell ⟨wa.heap.size,0,none⟩ (.bool SG)).setCell ⟨wa.heap.size,1,none⟩ (.slice aq mq cq)).setCell ⟨wa.heap.size,2,none⟩ (.slice aD mD cD) = wk at *
   refine bodyPost_ret (by simp [results,Tryz.results83,go_sem,t0,t1,t2]; try rfl) rfl ?_
   have z:=Uh HZ
   unfold FlPost
   rw [show flQ true X Y = X / Y from by unfold flQ; simp [Uh HZ0],show flL true X Y = X % Y from by unfold flL; simp [Uh HZ0]]
   rw [Uh HSG]
   exact ⟨aq,mq,cq,aD,mD,cD,al,ml,cl,rfl,z.1.chg c4 (fun p hp _ => z.2.2.2.1 p hp),z.2.1.chg c4 (fun p hp _ => z.2.2.2.2.1 p hp),z.2.2.1.chg c4 (fun p hp _ => z.2.2.2.2.2.1 p hp),z.2.2.2.2.2.2.1,z.2.2.2.2.2.2.2.1,z.2.2.2.2.2.2.2.2.trans (c4.below z.2.2.2.2.2.2.2.2.size (fun k hk h => by have:=(Uh HW).1; omega))⟩
  ·have hlp:(0:Int) < (ml:Int):=by
    have:limbs (X % Y) ≠ []:=limbs_ne (by omega)
    have:=List.length_pos_iff.2 this
    omega
   have HKI:=Hd (ratIncr_any aq mq cq (X / Y) w1.drew (sq.below (Below.refl _ _).drew) (Uh HM).1 (Uh HIf hz))
   have HSb:=Hd (fun (W:World) (hb:Below w1.heap.size w1 W) => (by have K:=nsub_any b al m d ml cl y (limbs (X % Y)) W (((Uh HX).2.2.2.1.below (Uh HY).2.2).below hb) (sl.below hb) (Uh HX).2.2.2.2.2 (limbs_rep _).ok; rw [sub_fit (Uh HM).2.2 (Uh HM).2.1 (by rw [(limbs_rep _).val,(Uh HX).2.2.2.2.1]; exact Uh HMl),(limbs_rep _).val,(Uh HX).2.2.2.2.1] at K; exact K:Calls Tryz.prog 135 #[.slice b m d,.slice al ml cl] W fun e w' => Res2 W w' (limbs (Y - X % Y),0) e))
   have HZ0:=Hd hz
   have HB1:=Hd b1
   clear sq nq sl nl b1 hll HKD hws hz d0 d1 d2
   go_wp2_with fail
   go_region_held3 (fun w' => w'.cell? ⟨w.heap.size,2,none⟩ = some (.slice b m d)) (first | go_keep | (exact e2) | (exact f2))
    (first
     | (go_at_call 134; refine (Uh HKI).mono ?_; rintro _ w2 ⟨aq,mq,cq,rfl,sq,nq,b2⟩; have hb2:Below w1.heap.size w1 w2:=(Below.refl _ _).drew.trans b2; have e2:=(ck hb2 q2); have HI2:=Hd (And.intro sq (And.intro nq hb2)); clear sq nq b2 hb2)
     | (go_at_call 135; refine (Uh HSb _ (Uh HI2).2.2).mono ?_; rintro _ w3 ⟨al,ml,cl,rfl,sl,nl,b3⟩; have f2:=(ck b3 e2); have HI3:=Hd (And.intro sl (And.intro nl b3)); clear sl nl b3)
     | (go_at_call 18; refine (sure_any _ _ _).mono ?_; rintro _ _ ⟨rfl,hw⟩; obtain rfl:=hw.symm; clear hw))
   have hb13:=(Uh HI2).2.2.trans ((Uh HI3).2.2.mono (Uh HI2).2.2.size)
   have hw1:=(Uh HB1).size
   have HS:=Hd (And.intro ((Uh HI2).1.below (Uh HI3).2.2) (And.intro (Uh HI3).1 (And.intro (fun p hp => by have h1:=(Uh HI2).2.1 p hp; simp at h1; omega:∀ p,aq = some p → wb.heap.size ≤ p.block) (fun p hp => by have h1:=(Uh HI3).2.1 p hp; have h2:=(Uh HI2).2.2.size; omega:∀ p,al = some p → wb.heap.size ≤ p.block))))
   have HY4:=Hd (And.intro ((Uh HY).1.keep hb13) (And.intro ((Uh HY).2.1.keep hb13) ((Uh HY).2.2.trans (hb13.mono (Uh HY).2.2.size))))
   clear hb13 hw1 HI2 HI3 HY HKI HSb HB1 q0 q2
   have HY:=HY4
   clear HY4
   have hln:=(Uh HS).1.len
   have K:=ratWhole_any true aq mq cq w3
   unfold WhPost at K
   rw [limbs_len0 hln] at K
   obtain ⟨SG,hSG⟩:∃ SG,(true && decide (X / Y + 1 ≠ 0)) = SG:=⟨_,rfl⟩
   rw [hSG] at K
   unfold ratV at K
   have HK:=Hd K
   have HSG:=Hd hSG
   have e0:=(Uh HY).1.d0
   clear hln K hSG
   go_wp2_with fail
   refine (Uh HK).mono ?_
   rintro _ w5 ⟨aD,mD,cD,rfl,sD,nD,b5⟩
   have hO3:=(Uh HY).2.1.keep b5
   have hlo:=(Uh HY).2.1.lt
   obtain ⟨i0,o0⟩:=hO3.cells 0 (by decide)
   obtain ⟨i1,o1⟩:=hO3.cells 1 (by decide)
   obtain ⟨i2,o2⟩:=hO3.cells 2 (by decide)
   have r0:=hO3.fz 0 (by decide)
   have r1:=hO3.fz 1 (by decide)
   have r2:=hO3.fz 2 (by decide)
   have H4:=Hd (three_set w5 wa.heap.size (.bool SG) (.slice aq mq cq) (.slice aD mD cD) hO3.cells)
   have HZ:=Hd (And.intro ((Uh HS).1.below b5) (And.intro sD (And.intro ((Uh HS).2.1.below b5) (And.intro (fun p hp => by have h1:=(Uh HS).2.2.1 p hp; omega:∀ p,aq = some p → p.block ≠ wa.heap.size) (And.intro (fun p hp => by have h1:=nD p hp; omega:∀ p,aD = some p → p.block ≠ wa.heap.size) (And.intro (fun p hp => by have h1:=(Uh HS).2.2.2 p hp; omega:∀ p,al = some p → p.block ≠ wa.heap.size) (And.intro (fun p hp => by have h1:=(Uh HS).2.2.1 p hp; have h2:=(Uh HW).2; omega:NewAt w.heap.size aq) (And.intro (fun p hp => by have h1:=nD p hp; have h2:=(Uh HY).2.2.size; omega:NewAt w.heap.size aD) ((Uh HY).2.2.trans (b5.mono (Uh HY).2.2.size))))))))))
   clear hO3 hlo sD nD b5 HK e0 HS
   go_wp2_with fail
   obtain ⟨t0,t1,t2,c4⟩:=Uh H4
   generalize ((w5.setCell ⟨wa.heap.size,0,none⟩ (.bool SG)).setCell ⟨wa.heap.size,1,none⟩ (.slice aq mq cq)).setCell ⟨wa.heap.size,2,none⟩ (.slice aD mD cD) = wk at *
   refine bodyPost_ret (by simp [results,Tryz.results83,go_sem,t0,t1,t2]; try rfl) rfl ?_
   have z:=Uh HZ
   unfold FlPost
   rw [show flQ true X Y = X / Y + 1 from by unfold flQ; simp [Uh HZ0],show flL true X Y = Y - X % Y from by unfold flL; simp [Uh HZ0]]
   rw [Uh HSG]
   exact ⟨aq,mq,cq,aD,mD,cD,al,ml,cl,rfl,z.1.chg c4 (fun p hp _ => z.2.2.2.1 p hp),z.2.1.chg c4 (fun p hp _ => z.2.2.2.2.1 p hp),z.2.2.1.chg c4 (fun p hp _ => z.2.2.2.2.2.1 p hp),z.2.2.2.2.2.2.1,z.2.2.2.2.2.2.2.1,z.2.2.2.2.2.2.2.2.trans (c4.below z.2.2.2.2.2.2.2.2.size (fun k hk h => by have:=(Uh HW).1; omega))⟩
end Go.Proofs.YtgfpfjghdbcihaaGreatDoor
