/- Wkd -/
import Derived.Test.YtmmeiebbnjjijaaGreatDoorWkc
import Derived.Test.YtmmeiebbnjjijaaGreatDoorRa6
import Derived.Test.YtmmeiebbnjjijaaGreatDoorWkb
namespace Go.Proofs.YtmmeiebbnjjijaaGreatDoor
open Go.RowKit Go.Deep
set_option linter.unusedVariables false
def CeilF (g:Bool) (x y:List Nat):(Bool × List Nat × List Nat) × Int:=if MayR g x y then ((((!((!g) && decide (flQ (!g) (val x) (val y) ≠ 0))) && decide (flQ (!g) (val x) (val y) ≠ 0)),limbs (flQ (!g) (val x) (val y)),[1]),0) else ((false,[],[]),40)

set_option maxHeartbeats 8000000 in
set_option maxRecDepth 100000 in
theorem ratCeil_any (g:Bool) (a b:Option Addr) (n c m d:Nat) (x y:List Nat) (w:World) (hx:Sl w a n c x) (hy:Sl w b m d y) (ox:Ok x) (oy:Ok y) (hT:Tab64 w) :
  Calls Tryz.prog 16 #[ratV g a n c b m d] w fun e w' => ResR w w' (CeilF g x y).1.1 (CeilF g x y).1.2.1 (CeilF g x y).1.2.2 (CeilF g x y).2 e:=by
 have bx:=Box.made w g a n c b m d
 obtain ⟨wa,hwa⟩:∃ wa,ratBox w g a n c b m d = wa:=⟨_,rfl⟩
 rw [hwa] at bx
 obtain ⟨wb,hwb⟩:∃ wb,wa.alloc (.cells #[.bool false,.slice none 0 0,.slice none 0 0] 25) = wb:=⟨_,rfl⟩
 have hba:Below w.heap.size w wa:=by rw [← hwa]; exact bAl
 have hbb:Below wa.heap.size wa wb:=by rw [← hwb]; exact bAl
 have hO:Out wb wa.heap.size:=by rw [← hwb]; exact Out.made wa
 have hX:=bx.keep hbb
 have hB:=hba.trans (hbb.mono hba.size)
 have hlt:=bx.lt
 have d0:=hX.d0
 have d1:=hX.d1
 have d2:=hX.d2
 unfold ratBox at hwa
 have KM:=ratMay_any g a b n c m d x y wb (hx.below hB) (hy.below hB) ox oy (hT.below hB)
 have hfz0:wb.frozen? ⟨w.heap.size,0,none⟩ = false:=by rw [← hwb,← hwa]; simp
 have hfz1:∀ (W:World),Below wb.heap.size wb W → W.frozen? ⟨w.heap.size,0,none⟩ = false:=fun W hb => by
  rw [← hfz0]
  unfold World.frozen?
  simp only
  rw [hb.block _ hX.lt]
 have HF0:=Hd (And.intro True.intro hfz1)
 clear hfz0 hfz1
 have HX:=Hd (And.intro hX (And.intro hO hB))
 have HS:=Hd (And.intro hx hy)
 obtain ⟨RR,hRR⟩:∃ r,CeilF g x y = r:=⟨_,rfl⟩
 rw [hRR]
 have HRR:=Hd hRR
 clear bx hX hO hB hba hbb hx hy hT hRR
 cases hm:MayR g x y
 ·rw [hm] at KM
  have HKM:=Hd KM
  have HR:=Hd (show RR = ((false,[],[]),40) from by rw [← Uh HRR]; unfold CeilF; rw [hm]; rfl)
  unfold ratV at HKM ⊢
  clear KM hm HRR
  go_enter Tryz.func16,Tryz.ntmps16
  go_wp2_with fail
  refine (Uh HKM).mono ?_
  rintro _ w1 ⟨rfl,b1⟩
  have hO1:=(Uh HX).2.1.keep b1
  obtain ⟨x0,q0⟩:=hO1.cells 0 (by decide)
  obtain ⟨x1,q1⟩:=hO1.cells 1 (by decide)
  obtain ⟨x2,q2⟩:=hO1.cells 2 (by decide)
  have r0:=hO1.fz 0 (by decide)
  have r1:=hO1.fz 1 (by decide)
  have r2:=hO1.fz 2 (by decide)
  have H4:=Hd (three_set w1 wa.heap.size (.bool false) (.slice none 0 0) (.slice none 0 0) hO1.cells)
  have HB:=Hd ((Uh HX).2.2.trans (b1.mono (Uh HX).2.2.size))
  clear hO1 b1 HKM
  go_wp2_with fail
  obtain ⟨p0,p1,p2,c4⟩:=Uh H4
  generalize ((w1.setCell ⟨wa.heap.size,0,none⟩ (.bool false)).setCell ⟨wa.heap.size,1,none⟩ (.slice none 0 0)).setCell ⟨wa.heap.size,2,none⟩ (.slice none 0 0) = wf at *
  refine bodyPost_ret (by simp [results,Tryz.results16,go_sem,p0,p1,p2]; try rfl) rfl ?_
  rw [Uh HR]
  exact ⟨_,rfl,none,0,0,none,0,0,rfl,sl_nil _,sl_nil _,newAt_nil _,newAt_nil _,(Uh HB).trans (c4.below (Uh HB).size (fun k hk => by omega))⟩
 ·rw [hm] at KM
  obtain ⟨kx,ky,ey,_,_⟩:=MayR.parts hm
  have HKM:=Hd KM
  have HM:=Hd (And.intro kx (And.intro ky ey))
  have HR:=Hd (show RR = ((((!((!g) && decide (flQ (!g) (val x) (val y) ≠ 0))) && decide (flQ (!g) (val x) (val y) ≠ 0)),limbs (flQ (!g) (val x) (val y)),[1]),0) from by rw [← Uh HRR]; unfold CeilF; rw [if_pos hm])
  unfold ratV at HKM ⊢
  clear KM hm HRR kx ky ey
  go_enter Tryz.func16,Tryz.ntmps16
  go_wp2_with fail
  refine (Uh HKM).mono ?_
  rintro _ w1 ⟨rfl,b1⟩
  have hB1:=(Uh HX).2.2.trans (b1.mono (Uh HX).2.2.size)
  have hX1:=(Uh HX).1.keep b1
  have hO1:=(Uh HX).2.1.keep b1
  have e0:=hX1.d0
  have e1:=hX1.d1
  have e2:=hX1.d2
  have ef:=(Uh HF0).2 w1 b1
  have hcs:Chg (fun j => j = w.heap.size) w1 (w1.setCell ⟨w.heap.size,0,none⟩ (.bool (!g))):=Chg.of_set _ _ _ _ rfl
  have hBs:=hB1.trans (hcs.below hB1.size (fun k hk h => by omega))
  have hOs:Out (w1.setCell ⟨w.heap.size,0,none⟩ (.bool (!g))) wa.heap.size:=by
   refine ⟨fun i hi => ?_,fun i hi => ?_,Nat.lt_of_lt_of_le hO1.lt hcs.size⟩
   ·obtain ⟨v,hv⟩:=hO1.cells i hi
    exact ⟨v,hcs.cell (show wa.heap.size ≠ w.heap.size by omega) hv⟩
   ·have:=hO1.fz i hi
    simpa using this
  have K:=ratfloor_any (!g) a b n c m d x y _ ((Uh HS).1.below hBs) ((Uh HS).2.below hBs) ox oy (Uh HM).1 (Uh HM).2.1 (Uh HM).2.2
  unfold ratV at K
  have HK:=Hd K
  have HY:=Hd (And.intro hOs hBs)
  clear b1 hB1 hX1 hO1 hcs hBs hOs K HKM HX d0 d1 d2
  go_wp2_with fail
  generalize w1.setCell ⟨w.heap.size,0,none⟩ (.bool (!g)) = ws at *
  refine (Uh HK).mono ?_
  rintro _ w2 ⟨aq,nq,cq,bz,mz,dz,al,ml,cl,rfl,sq,_,_,nQ,_,b2⟩
  unfold ratV
  obtain ⟨S1,hS1⟩:∃ SG,((!g) && decide (flQ (!g) (val x) (val y) ≠ 0)) = SG:=⟨_,rfl⟩
  rw [hS1]
  rw [hS1] at HR
  obtain ⟨w3,hw3⟩:∃ z,w2.alloc (.cells #[.bool S1,.slice aq nq cq,.slice bz mz dz] 25) = z:=⟨_,rfl⟩
  have b3:Below w2.heap.size w2 w3:=by rw [← hw3]; exact bAl
  have u0:w3.cell? ⟨w2.heap.size,0,none⟩ = some (.bool S1):=by rw [← hw3]; simp
  have u1:w3.cell? ⟨w2.heap.size,1,none⟩ = some (.slice aq nq cq):=by rw [← hw3]; simp
  have hln:=sq.len
  have K:=ratWhole_any (!S1) aq nq cq w3
  unfold WhPost at K
  rw [limbs_len0 hln] at K
  obtain ⟨SG,hSG⟩:∃ SG,((!S1) && decide (flQ (!g) (val x) (val y) ≠ 0)) = SG:=⟨_,rfl⟩
  rw [hSG] at K HR
  unfold ratV at K
  have HK3:=Hd K
  have b13:=b2.trans (b3.mono b2.size)
  have H3:=Hd (And.intro (sq.below b3) (And.intro nQ b13))
  clear sq nQ b2 b3 b13 K HK hS1 hSG hln e0 e1 e2 ef
  go_wp2_with fail
  refine (Uh HK3).mono ?_
  rintro _ w4 ⟨bq,mq,dq,rfl,tq,nT0,b4⟩
  have b14:=(Uh H3).2.2.trans (b4.mono (Uh H3).2.2.size)
  have sq:=(Uh H3).1.below b4
  have nQ:=(Uh H3).2.1
  have nT:NewAt ws.heap.size bq:=fun p hp => Nat.le_trans (Uh H3).2.2.size (nT0 p hp)
  have hO3:=(Uh HY).1.keep b14
  have hlo:=(Uh HY).1.lt
  obtain ⟨i0,o0⟩:=hO3.cells 0 (by decide)
  obtain ⟨i1,o1⟩:=hO3.cells 1 (by decide)
  obtain ⟨i2,o2⟩:=hO3.cells 2 (by decide)
  have r0:=hO3.fz 0 (by decide)
  have r1:=hO3.fz 1 (by decide)
  have r2:=hO3.fz 2 (by decide)
  have H4:=Hd (three_set w4 wa.heap.size (.bool SG) (.slice aq nq cq) (.slice bq mq dq) hO3.cells)
  have hsz:=(Uh HY).2.size
  have HZ:=Hd (And.intro sq (And.intro tq (And.intro (fun p hp => by have h1:=nQ p hp; omega:∀ p,aq = some p → p.block ≠ wa.heap.size) (And.intro (fun p hp => by have h1:=nT p hp; omega:∀ p,bq = some p → p.block ≠ wa.heap.size) (And.intro (fun p hp => by have h1:=nQ p hp; omega:NewAt w.heap.size aq) (And.intro (fun p hp => by have h1:=nT p hp; omega:NewAt w.heap.size bq) ((Uh HY).2.trans (b14.mono (Uh HY).2.size))))))))
  clear sq tq nQ nT nT0 b4 b14 hO3 hlo hsz HK3 H3 u0 u1 HY
  go_wp2_with fail
  obtain ⟨t0,t1,t2,c4⟩:=Uh H4
  generalize ((w4.setCell ⟨wa.heap.size,0,none⟩ (.bool SG)).setCell ⟨wa.heap.size,1,none⟩ (.slice aq nq cq)).setCell ⟨wa.heap.size,2,none⟩ (.slice bq mq dq) = wk at *
  refine bodyPost_ret (by simp [results,Tryz.results16,go_sem,t0,t1,t2]; try rfl) rfl ?_
  rw [Uh HR]
  have z:=Uh HZ
  exact ⟨_,rfl,aq,nq,cq,bq,mq,dq,rfl,z.1.chg c4 (fun p hp _ => z.2.2.1 p hp),z.2.1.chg c4 (fun p hp _ => z.2.2.2.1 p hp),z.2.2.2.2.1,z.2.2.2.2.2.1,z.2.2.2.2.2.2.trans (c4.below z.2.2.2.2.2.2.size (fun k hk h => by omega))⟩
def NegF (g:Bool) (x y:List Nat):(Bool × List Nat × List Nat) × Int:=if MayR g x y = true then (((!g) && decide (x ≠ []),x,y),0) else ((false,[],[]),40)
def AbsF (g:Bool) (x y:List Nat):(Bool × List Nat × List Nat) × Int:=if MayR g x y = true then ((false,x,y),0) else ((false,[],[]),40)
theorem ratNeg_F (g:Bool) (a b:Option Addr) (n c m d:Nat) (x y:List Nat) (w:World) (hx:Sl w a n c x) (hy:Sl w b m d y) (ox:Ok x) (oy:Ok y) (hT:Tab64 w) :
  Calls Tryz.prog 15 #[ratV g a n c b m d] w fun e w' => ResF w w' (NegF g x y) e :=
 (ratNeg_any g a b n c m d x y w hx hy ox oy hT).mono (fun e w' hr => by
  unfold NegF ResF
  cases h:MayR g x y <;> rw [h] at hr <;> simpa using hr)
theorem ratAbs_F (g:Bool) (a b:Option Addr) (n c m d:Nat) (x y:List Nat) (w:World) (hx:Sl w a n c x) (hy:Sl w b m d y) (ox:Ok x) (oy:Ok y) (hT:Tab64 w) :
  Calls Tryz.prog 54 #[ratV g a n c b m d] w fun e w' => ResF w w' (AbsF g x y) e :=
 (ratAbs_any g a b n c m d x y w hx hy ox oy hT).mono (fun e w' hr => by
  unfold AbsF ResF
  cases h:MayR g x y <;> rw [h] at hr <;> simpa using hr)
theorem bigN_le {a b:Nat} (h:a ≤ b) (hb:bigN b = false):bigN a = false:=by
 have:=limbs_mono h
 unfold bigN at hb ⊢
 simp at hb ⊢
 omega
theorem flQ_le {g:Bool} {X Y:Nat} (hY:0 < Y):flQ g X Y ≤ X:=by
 unfold flQ
 split
 ·next h => exact incr_fit hY (by simp at h; exact h.2)
 ·exact Nat.div_le_self _ _
theorem flL_lt {g:Bool} {X Y:Nat} (hY:0 < Y):flL g X Y < Y:=by
 have:=Nat.mod_lt X hY
 unfold flL
 split
 ·next h => simp at h; omega
 ·exact this
theorem val_1:val [1] = 1:=by simp [val]
theorem val_2:val [2] = 2:=by simp [val]
theorem big_1:bigN 1 = false:=by unfold bigN; rw [limbs_1]; decide
theorem may_whole {g:Bool} {Q:Nat} (h:bigN Q = false):MayR (g && decide (Q ≠ 0)) (limbs Q) [1] = true:=by
 have:=mayR_mk (g:=g) h big_1 (by decide) (Nat.gcd_one_right Q)
 rwa [limbs_1] at this
theorem lv (v:Nat):val (limbs v) = v:=(limbs_rep v).val
theorem sub_whole {g up:Bool} {x y:List Nat} (ox:Ok x) (oy:Ok y) (h:MayR g x y = true) :
  SubF g x y (g && decide (flQ up (val x) (val y) ≠ 0)) (limbs (flQ up (val x) (val y))) [1] = (((g != up) && decide (flL up (val x) (val y) ≠ 0),limbs (flL up (val x) (val y)),y),0):=by
 have hY:=mayR_pos h
 obtain ⟨mx,my,ey,_,cp⟩:=MayR.parts h
 have bX:=big_of_may ox mx
 have bY:=big_of_may oy my
 have hv:=flL_val (g1:=g) (g2:=g != up) (X:=val x) hY
 rw [show (g != (g != up)) = up by cases g <;> cases up <;> rfl] at hv
 have cL:=flL_cop (g:=up) hY (Nat.dvd_refl _) cp
 have hl:=flL_lt (g:=up) (X:=val x) hY
 have hq:=flQ_le (g:=up) (X:=val x) hY
 generalize flQ up (val x) (val y) = Q at *
 generalize flL up (val x) (val y) = L at *
 have eyl:limbs (val y) = y:=limbs_val oy (MayL.norm my)
 have mL:MayR ((g != up) && decide (L ≠ 0)) (limbs L) y = true:=by
  have:=mayR_mk (g:=(g != up)) (bigN_le (Nat.le_of_lt hl) bY) bY hY cL
  rwa [eyl] at this
 refine subF_back (limbs_ok _) oy mL (may_whole (bigN_le hq bX)) ⟨h,?_,?_⟩
 ·rw [val_1]; have:(0:Int) < (val y:Int):=by omega
  omega
 ·rw [lv,lv,val_1,nI_and,nI_and]
  have e1:nI g (val x) = nI (g != up) L + nI g Q * (val y:Int):=by
   rw [← hv,← nI_mul]
   generalize Q * val y = QY
   cases g <;> simp [nI] <;> omega
  rw [e1]
  simp
theorem floor_is {g:Bool} {x y:List Nat} (h:MayR g x y = true):FloorF g x y = ((g && decide (flQ g (val x) (val y) ≠ 0),limbs (flQ g (val x) (val y)),[1]),0):=by
 unfold FloorF; rw [if_pos h]
theorem ceil_is {g:Bool} {x y:List Nat} (h:MayR g x y = true):CeilF g x y = ((g && decide (flQ (!g) (val x) (val y) ≠ 0),limbs (flQ (!g) (val x) (val y)),[1]),0):=by
 unfold CeilF; rw [if_pos h]
 generalize decide (flQ (!g) (val x) (val y) ≠ 0) = d
 cases g <;> cases d <;> rfl
def rdU (X Y:Nat):Bool:=decide (Y < X % Y + X % Y ∨ (Y = X % Y + X % Y ∧ X / Y % 2 = 1))
theorem rdQ_is {X Y:Nat} (hY:0 < Y):rdQ X Y = flQ (rdU X Y) X Y:=by
 unfold rdQ flQ rdU
 by_cases h:Y < X % Y + X % Y ∨ (Y = X % Y + X % Y ∧ X / Y % 2 = 1)
 ·have:X % Y ≠ 0:=by omega
  rw [if_pos h,if_pos (by simp [h,this])]
 ·rw [if_neg h,if_neg (by simp [h])]
theorem round_is {g:Bool} {x y:List Nat} (h:MayR g x y = true):RoundF g x y = ((g && decide (flQ (rdU (val x) (val y)) (val x) (val y) ≠ 0),limbs (flQ (rdU (val x) (val y)) (val x) (val y)),[1]),0):=by
 unfold RoundF; rw [if_pos h,rdQ_is (mayR_pos h)]
theorem mayR_n {g:Bool} {x y:List Nat} (h:MayR g x y = true):MayR ((!g) && decide (x ≠ [])) x y = true:=by
 unfold MayR at h ⊢
 simp only [Bool.and_eq_true,Bool.not_eq_true',decide_eq_false_iff_not,decide_eq_true_eq,Bool.and_eq_false_iff] at h ⊢
 refine ⟨⟨h.1.1,?_⟩,h.2⟩
 by_cases hx:x = []
 ·left; right; simp [hx]
 ·right; exact hx
theorem flQ_n {g:Bool} {x y:List Nat}:flQ ((!g) && decide (x ≠ [])) (val x) (val y) = flQ (!g) (val x) (val y):=by
 by_cases hx:x = []
 ·subst hx
  have:val ([]:List Nat) = 0:=by simp [val]
  rw [this]
  unfold flQ
  simp
 ·simp [hx]
theorem neg_may {g:Bool} {x y:List Nat} (h:MayR g x y = true):NegF g x y = (((!g) && decide (x ≠ []),x,y),0):=by unfold NegF; rw [if_pos h]
theorem limbs_nil {v:Nat}:limbs v = [] ↔ v = 0:=by
 constructor
 ·intro h; have:=lv v; rw [h] at this; simp [val] at this; exact this.symm
 ·intro h; subst h; exact limbs_zero
theorem neg_floor {g:Bool} {x y:List Nat} (ox:Ok x) (h:MayR g x y = true):∃ gm,FloorF ((!g) && decide (x ≠ [])) x y = ((gm,limbs (flQ (!g) (val x) (val y)),[1]),0) ∧ NegF gm (limbs (flQ (!g) (val x) (val y))) [1] = ((g && decide (flQ (!g) (val x) (val y) ≠ 0),limbs (flQ (!g) (val x) (val y)),[1]),0):=by
 have hn:=mayR_n h
 have hf:=floor_is hn
 rw [flQ_n] at hf
 refine ⟨_,hf,?_⟩
 have hq:=flQ_le (g:=!g) (X:=val x) (mayR_pos h)
 have bX:=big_of_may ox (MayR.parts h).1
 have hx0:x = [] → flQ (!g) (val x) (val y) = 0:=fun e => by subst e; simp [val] at hq; rw [show val ([]:List Nat) = 0 by simp [val]]; omega
 generalize flQ (!g) (val x) (val y) = Q at *
 rw [neg_may (may_whole (bigN_le hq bX))]
 have e:(!((!g && decide (x ≠ [])) && decide (Q ≠ 0)) && decide (limbs Q ≠ [])) = (g && decide (Q ≠ 0)):=by
  by_cases hQ:Q = 0
  ·subst hQ; simp [limbs_zero]
  ·have h1:x ≠ []:=fun e => hQ (hx0 e)
   have h2:limbs Q ≠ []:=fun e => hQ (limbs_nil.1 e)
   simp [hQ,h1,h2]
 rw [e]
theorem sign_up {x y:List Nat}:0 ≤ SignF false x y:=by
 unfold SignF signR
 split
 ·simp; split <;> omega
 ·omega
theorem may_11:MayR false [1] [1] = true:=by
 unfold MayR
 rw [val_1]
 decide
theorem cmp_under {L:Nat} {y:List Nat} (h:MayR false (limbs L) y = true) (hl:L < val y):CmpF false (limbs L) y false [1] [1] = -1:=by
 unfold CmpF
 rw [h,may_11]
 simp only [Bool.and_self,if_true]
 rw [cmpR_sign h may_11,lv,val_1]
 simp only [nI,Bool.false_eq_true,if_false]
 exact Int.sign_eq_neg_one_of_neg (by omega)
theorem cmp_half {L:Nat} {y:List Nat} (h:MayR false (limbs L) y = true) (hl:L + L ≤ val y):CmpF false (limbs L) y false [1] [2] ≤ 0:=by
 unfold CmpF
 rw [h,mayR_12]
 simp only [Bool.and_self,if_true]
 rw [cmpR_sign h mayR_12,lv,val_1,val_2]
 simp only [nI,Bool.false_eq_true,if_false]
 exact sgn_le.2 (by omega)
theorem rd_half {X Y:Nat} (hY:0 < Y):flL (rdU X Y) X Y + flL (rdU X Y) X Y ≤ Y:=by
 have:=Nat.mod_lt X hY
 unfold flL rdU
 by_cases h:Y < X % Y + X % Y ∨ (Y = X % Y + X % Y ∧ X / Y % 2 = 1)
 ·have:X % Y ≠ 0:=by omega
  rw [if_pos (by simp [h,this])]
  omega
 ·rw [if_neg (by simp [h])]
  omega
theorem rd_even {X:Nat} (h:flL (rdU X 2) X 2 = 1):flQ (rdU X 2) X 2 % 2 = 0:=by
 have hl:=Nat.mod_lt X (show 0 < 2 by decide)
 have hT:X % 2 = 1:=by
  unfold flL at h
  split at h <;> omega
 unfold flQ rdU
 by_cases hu:X / 2 % 2 = 1
 ·rw [if_pos (by simp [hT,hu])]; omega
 ·rw [if_neg (by simp [hT,hu])]; omega
theorem even_head {v:Nat} (h:v % 2 = 0):limbs v = [] ∨ ∃ u r,limbs v = u :: r ∧ u % 2 = 0:=by
 cases e:limbs v with
 | nil => exact .inl rfl
 | cons u r =>
  refine .inr ⟨u,r,rfl,?_⟩
  have:=lv v
  rw [e] at this
  simp [val] at this
  omega
theorem steps_a {g:Bool} {x y:List Nat} (ox:Ok x) (oy:Ok y) (h:MayR g x y = true) :
  ∃ gf xf xd gn gm gc xc gr xr gg xm,
   FloorF g x y = ((gf,xf,[1]),0) ∧ Ok xf ∧ SubF g x y gf xf [1] = ((false,xd,y),0) ∧ Ok xd ∧ 0 ≤ SignF false xd y ∧ CmpF false xd y false [1] [1] = -1 ∧
   NegF g x y = ((gn,x,y),0) ∧ FloorF gn x y = ((gm,xc,[1]),0) ∧ NegF gm xc [1] = ((gc,xc,[1]),0) ∧ CeilF g x y = ((gc,xc,[1]),0) ∧ Ok xc ∧
   RoundF g x y = ((gr,xr,[1]),0) ∧ Ok xr ∧ (sameR gr xr [1] gf xf [1] = true ∨ sameR gr xr [1] gc xc [1] = true) ∧
   SubF g x y gr xr [1] = ((gg,xm,y),0) ∧ AbsF gg xm y = ((false,xm,y),0) ∧ Ok xm ∧ CmpF false xm y false [1] [2] ≤ 0 ∧
   (sameR false xm y false [1] [2] = true → xr = [] ∨ ∃ u r,xr = u :: r ∧ u % 2 = 0):=by
 have hY:=mayR_pos h
 obtain ⟨gm,hm1,hm2⟩:=neg_floor ox h
 have may_of:∀ up,MayR ((g != up) && decide (flL up (val x) (val y) ≠ 0)) (limbs (flL up (val x) (val y))) y = true ∧ MayR false (limbs (flL up (val x) (val y))) y = true:=fun up => by
  have cL:=flL_cop (g:=up) hY (Nat.dvd_refl _) (MayR.parts h).2.2.2.2
  have hl:=flL_lt (g:=up) (X:=val x) hY
  have bY:=big_of_may oy (MayR.parts h).2.1
  have eyl:limbs (val y) = y:=limbs_val oy (MayL.norm (MayR.parts h).2.1)
  have a:=mayR_mk (g:=(g != up)) (bigN_le (Nat.le_of_lt hl) bY) bY hY cL
  have b:=mayR_mk (g:=false) (bigN_le (Nat.le_of_lt hl) bY) bY hY cL
  rw [eyl] at a b
  simp only [Bool.false_and] at b
  exact ⟨a,b⟩
 have s1:=sub_whole (up:=g) ox oy h
 rw [show (g != g) = false by cases g <;> rfl,Bool.false_and] at s1
 refine ⟨_,_,_,_,gm,_,_,_,_,_,_,floor_is h,limbs_ok _,s1,limbs_ok _,sign_up,cmp_under (may_of g).2 (flL_lt hY),neg_may h,hm1,hm2,ceil_is h,limbs_ok _,round_is h,limbs_ok _,?_,sub_whole ox oy h,?_,limbs_ok _,cmp_half (may_of _).2 (rd_half hY),?_⟩
 ·generalize rdU (val x) (val y) = u
  by_cases hu:u = g
  ·subst hu; left; unfold sameR; simp
  ·obtain rfl:u = !g:=by cases u <;> cases g <;> simp at hu ⊢
   right; unfold sameR; simp
 ·unfold AbsF; rw [if_pos (may_of _).1]
 ·intro hs
  unfold sameR at hs
  simp at hs
  obtain ⟨h1,rfl⟩:=hs
  rw [val_2] at h1 ⊢
  refine even_head (rd_even ?_)
  have:=lv (flL (rdU (val x) 2) (val x) 2)
  rw [h1,val_1] at this
  exact this.symm
end Go.Proofs.YtmmeiebbnjjijaaGreatDoor
