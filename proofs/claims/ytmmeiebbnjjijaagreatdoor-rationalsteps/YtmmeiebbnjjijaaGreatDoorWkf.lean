/- Wkf -/
import Derived.Test.YtmmeiebbnjjijaaGreatDoorWkc
import Derived.Test.YtmmeiebbnjjijaaGreatDoorMy2
namespace Go.Proofs.YtmmeiebbnjjijaaGreatDoor
open Go.RowKit Go.Deep
set_option linter.unusedVariables false
set_option maxRecDepth 100000 in
set_option maxHeartbeats 16000000 in
theorem ratRound_any (g1:Bool) (a1 b1:Option Addr) (n1 c1 m1 d1:Nat) (x1 y1:List Nat) (w:World) (hx1:Sl w a1 n1 c1 x1) (hy1:Sl w b1 m1 d1 y1) (ox1:Ok x1) (oy1:Ok y1) (hT:Tab64 w) :
  Calls Tryz.prog 17 #[ratV g1 a1 n1 c1 b1 m1 d1] w fun e w' => ResR w w' (RoundF g1 x1 y1).1.1 (RoundF g1 x1 y1).1.2.1 (RoundF g1 x1 y1).1.2.2 (RoundF g1 x1 y1).2 e:=by
 obtain ⟨⟨⟨SG,LN,LD⟩,ER⟩,hFF⟩:∃ r,RoundF g1 x1 y1 = r:=⟨_,rfl⟩
 rw [hFF]
 dsimp only
 have bx:=Box.made w g1 a1 n1 c1 b1 m1 d1
 obtain ⟨wa,hwa⟩:∃ wa,ratBox w g1 a1 n1 c1 b1 m1 d1 = wa:=⟨_,rfl⟩
 rw [hwa] at bx
 unfold ratBox at hwa
 have hba:=bx.bel
 obtain ⟨wo,hwo⟩:∃ x,wa.alloc (.cells #[.bool false,.slice none 0 0,.slice none 0 0] 25) = x:=⟨_,rfl⟩
 have hbo:Below wa.heap.size wa wo:=by rw [← hwo]; exact bAl
 have hO:Out wo wa.heap.size:=by rw [← hwo]; exact Out.made wa
 have bx2:=bx.keep hbo
 have hB:=hba.trans (hbo.mono hba.size)
 have hRw:w.heap.size ≤ wa.heap.size:=hba.size
 have hne1:w.heap.size ≠ wa.heap.size:=by have:=bx.lt; omega
 have hne3:wa.heap.size ≠ w.heap.size:=by have:=bx.lt; omega
 have p0:=bx2.d0
 have p1:=bx2.d1
 have p2:=bx2.d2
 have HRw:=Hd hRw
 have HO:=Hd hO
 have HBo:=Hd hB
 have K1:=ratMay_any g1 a1 b1 n1 c1 m1 d1 x1 y1 wo (hx1.below hB) (hy1.below hB) ox1 oy1 (hT.below hB)
 clear hT
 cases k1:MayR g1 x1 y1
 ·rw [k1] at K1
  have h40:=hFF.symm.trans (show RoundF g1 x1 y1 = ((false,[],[]),40) from by unfold RoundF; rw [k1]; rfl)
  cases h40
  clear hFF
  have HK1:=Hd K1
  clear K1 hx1 hy1 bx bx2 hba hbo hB hO
  unfold ratV at HK1 ⊢
  go_enter Tryz.func17,Tryz.ntmps17
  go_wp2_with fail
  refine (Uh HK1).mono ?_
  rintro _ w3 ⟨rfl,b3⟩
  have HO3:=Hd ((Uh HO).keep b3)
  have HB3:=Hd ((Uh HBo).trans (b3.mono (Uh HBo).size))
  clear b3 HK1 HO HBo
  have hO3:=Uh HO3
  obtain ⟨x0,q0⟩:=hO3.cells 0 (by decide)
  obtain ⟨x1',q1⟩:=hO3.cells 1 (by decide)
  obtain ⟨x2',q2⟩:=hO3.cells 2 (by decide)
  have r0:=hO3.fz 0 (by decide)
  have r1:=hO3.fz 1 (by decide)
  have r2:=hO3.fz 2 (by decide)
  have H4:=Hd (three_set w3 wa.heap.size (.bool false) (.slice none 0 0) (.slice none 0 0) hO3.cells)
  clear hO3
  go_wp2_with fail
  obtain ⟨p0,p1,p2,c4⟩:=Uh H4
  generalize ((w3.setCell ⟨wa.heap.size,0,none⟩ (.bool false)).setCell ⟨wa.heap.size,1,none⟩ (.slice none 0 0)).setCell ⟨wa.heap.size,2,none⟩ (.slice none 0 0) = wf at *
  refine bodyPost_ret (by simp [results,Tryz.results17,go_sem,p0,p1,p2]; try rfl) rfl ?_
  exact ⟨_,rfl,newR_of (Uh HRw) (Uh HO3).lt (Uh HB3) (sl_nil _) (newAt_nil _) (sl_nil _) (newAt_nil _) c4 false⟩
 ·rw [k1] at K1
  obtain ⟨kx1,ky1,ey1,_,l1⟩:=MayR.parts k1
  have vy:=val_pos_of_may ky1 ey1
  have hdv:divL x1 y1 = (limbs (val x1 / val y1),limbs (val x1 % val y1),0):=by
   unfold divL
   rw [kx1,ky1]
   simp [ey1]
  have h40:=hFF.symm.trans (show RoundF g1 x1 y1 = ((g1 && decide (rdQ (val x1) (val y1) ≠ 0),limbs (rdQ (val x1) (val y1)),[1]),0) from by unfold RoundF; rw [if_pos k1])
  have mq:MayL (limbs (val x1 / val y1)) = true:=may_div kx1 ox1 _
  have ml:MayL (limbs (val x1 % val y1)) = true:=may_small ky1 oy1 (Nat.le_of_lt (Nat.mod_lt _ vy))
  have hIf:val x1 % val y1 ≠ 0 → (limbs (val x1 / val y1 + 1)).length ≤ 2048:=fun h => MayL.len (may_small kx1 ox1 (incr_fit vy h))
  have hMl:=Nat.le_of_lt (Nat.mod_lt (val x1) vy)
  have KD:∀ (W:World),Below wo.heap.size wo W → Calls Tryz.prog 48 #[.slice a1 n1 c1,.slice b1 m1 d1] W _:=fun W hb => ndivmod_any a1 b1 n1 c1 m1 d1 x1 y1 W ((hx1.below hB).below hb) ((hy1.below hB).below hb) ox1 oy1
  rw [hdv] at KD
  try dsimp only at KD
  obtain ⟨X,hX⟩:∃ X,val x1 = X:=⟨_,rfl⟩
  obtain ⟨Y,hY⟩:∃ Y,val y1 = Y:=⟨_,rfl⟩
  rw [hX,hY] at KD mq ml hIf hMl h40
  rw [hY] at vy
  obtain ⟨h41,rfl⟩:=Prod.mk.inj h40
  obtain ⟨h42,h43⟩:=Prod.mk.inj h41
  obtain ⟨h44,rfl⟩:=Prod.mk.inj h43
  have HSG0:=Hd h42.symm
  have HKD:=Hd KD
  have HM:=Hd (And.intro mq (And.intro ml ky1))
  have HMl:=Hd hMl
  have HY:=Hd (And.intro (hy1.below hB) hY)
  have HK1:=Hd K1
  clear K1 KD hx1 hy1 bx bx2 hba hbo hB hO kx1 ky1 ey1 l1 k1 hFF hX hY h40 h41 h42 h43 mq ml hMl hdv
  unfold ratV at HK1 ⊢
  by_cases hbit:X / Y % 2 = 1
  ·by_cases hc:Y ≤ X % Y + X % Y
   ·have hrd:rdQ X Y = X / Y + 1:=by unfold rdQ; rw [if_pos (by omega)]
    rw [hrd] at HSG0 h44
    subst h44
    have HSG:=HSG0
    clear HSG0 hrd
    have HIf:=Hd (hIf (by omega))
    have hup:(decide (Y < X % Y + X % Y) || (decide (Y = X % Y + X % Y) && true)) = true:=by
      by_cases h:Y < X % Y + X % Y
      ·rw [decide_eq_true h]; rfl
      ·rw [decide_eq_false h,decide_eq_true (by omega)]; rfl
    clear hIf
    go_enter Tryz.func17,Tryz.ntmps17
    go_wp2_with fail
    refine (Uh HK1).mono ?_
    rintro _ w1 ⟨rfl,b1⟩
    have f0:=(ck b1 p0)
    have f1:=(ck b1 p1)
    have f2:=(ck b1 p2)
    have HBL1:=Hd b1
    clear b1 HK1 p0 p1 p2
    go_wp2_with fail
    refine (Uh HKD _ (Uh HBL1)).mono ?_
    rintro _ w2 ⟨aq,mq,cq,al,ml,cl,rfl,sq,nq,sl,nl,_,b2⟩
    have h0:=(ck b2 f0)
    have h1:=(ck b2 f1)
    have h2:=(ck b2 f2)
    have HBL2:=Hd ((Uh HBL1).trans (b2.mono (Uh HBL1).size))
    have SQ:=Hd (And.intro sq (show NewAt wo.heap.size aq from fun p hp => Nat.le_trans (Uh HBL1).size (nq p hp)))
    have SL:=Hd sl
    clear HKD f0 f1 f2 b2 sq nq sl nl HBL1
    have KB:=nbit_any aq mq cq (limbs (X / Y)) 0 w2.drew ((Uh SQ).1.below (Below.refl _ _).drew) (limbs_ok _) (Uh HM).1 (by omega)
    rw [limbs_v,show bitN (X / Y) 0 = 1 from by unfold bitN; simp; omega] at KB
    have HKB:=Hd KB
    have HKU:=Hd (fun (W:World) (hb:Below w2.heap.size w2 W) => roundsUp_any al b1 ml cl m1 d1 (limbs (X % Y)) y1 true W ((Uh SL).below hb) (((Uh HY).1.below (Uh HBL2)).below hb) (limbs_ok _) oy1 (Uh HM).2.1 (Uh HM).2.2 (by rw [limbs_v,(Uh HY).2]; exact Uh HMl))
    rw [limbs_v,(Uh HY).2,hup] at HKU
    clear KB hbit hup
    go_wp2_with fail
    go_region_held3 (fun w' => w'.cell? ⟨w.heap.size,0,none⟩ = some (.bool g1) ∧ w'.cell? ⟨w.heap.size,1,none⟩ = some (.slice a1 n1 c1) ∧ w'.cell? ⟨w.heap.size,2,none⟩ = some (.slice b1 m1 d1)) (first | go_keep | (exact ⟨k0,k1,k2⟩))
     (first
      | (go_at_call 50; refine (Uh HKB).mono ?_; rintro _ _ ⟨rfl,hw⟩; obtain rfl:=hw.symm; clear hw)
      | (go_at_call 49; refine (Uh HKU _ (Below.refl _ _).drew).mono ?_; rintro _ w3 ⟨rfl,b3⟩; have hb3:Below w2.heap.size w2 w3:=(Below.refl _ _).drew.trans b3; have k0:=(ck hb3 h0); have k1:=(ck hb3 h1); have k2:=(ck hb3 h2); have HB3:=Hd hb3; clear b3 hb3))
    have HBL3:=Hd ((Uh HBL2).trans ((Uh HB3).mono (Uh HBL2).size))
    have SQ:=Hd (And.intro ((Uh SQ).1.below (Uh HB3)) (Uh SQ).2)
    clear HB3 HKU HKB SL h0 h1 h2 HBL2
    have HKI:=Hd (ratIncr_any aq mq cq (X / Y) w3 (Uh SQ).1 (Uh HM).1 (Uh HIf))
    go_wp2_with fail
    refine (Uh HKI).mono ?_
    rintro _ w4 ⟨aq,mq,cq,rfl,sq,nq,b4⟩
    have j0:=(ck b4 k0)
    have j1:=(ck b4 k1)
    have j2:=(ck b4 k2)
    have HBL4:=Hd ((Uh HBL3).trans (b4.mono (Uh HBL3).size))
    have SQ:=Hd (And.intro sq (show NewAt wo.heap.size aq from fun p hp => Nat.le_trans (Uh HBL3).size (nq p hp)))
    clear sq nq b4 HKI k0 k1 k2 HBL3
    have hln:=(Uh SQ).1.len
    have KW:=ratWhole_any g1 aq mq cq w4
    unfold WhPost at KW
    rw [limbs_len0 hln] at KW
    rw [Uh HSG] at KW
    unfold ratV at KW
    have HKW:=Hd KW
    clear hln KW
    go_wp2_with fail
    refine (Uh HKW).mono ?_
    rintro _ wi ⟨aD,mD,cD,rfl,sD,nD,bl_i⟩
    have hzz:wa.heap.size + 1 ≤ w4.heap.size:=Nat.le_trans (Uh HO).lt (Uh HBL4).size
    have HS3:=Hd (And.intro ((Uh SQ).1.below bl_i) (And.intro (show NewAt (wa.heap.size + 1) aq from fun x hx => Nat.le_trans (Uh HO).lt ((Uh SQ).2 x hx)) (And.intro sD (show NewAt (wa.heap.size + 1) aD from fun x hx => Nat.le_trans hzz (nD x hx)))))
    have hbi:=(Uh HBL4).trans (bl_i.mono (Uh HBL4).size)
    have hO3:=(Uh HO).keep hbi
    obtain ⟨x0,q0⟩:=hO3.cells 0 (by decide)
    obtain ⟨x1',q1⟩:=hO3.cells 1 (by decide)
    obtain ⟨x2',q2⟩:=hO3.cells 2 (by decide)
    have r0:=hO3.fz 0 (by decide)
    have r1:=hO3.fz 1 (by decide)
    have r2:=hO3.fz 2 (by decide)
    have HO3:=Hd hO3
    have H4:=Hd (three_set wi wa.heap.size (.bool SG) (.slice aq mq cq) (.slice aD mD cD) hO3.cells)
    have HB3:=Hd ((Uh HBo).trans (hbi.mono (Uh HBo).size))
    clear sD nD bl_i hO3 hbi
    go_wp2_with fail
    obtain ⟨t0,t1,t2,c4⟩:=Uh H4
    generalize ((wi.setCell ⟨wa.heap.size,0,none⟩ (.bool SG)).setCell ⟨wa.heap.size,1,none⟩ (.slice aq mq cq)).setCell ⟨wa.heap.size,2,none⟩ (.slice aD mD cD) = wf at *
    refine bodyPost_ret (by simp [results,Tryz.results17,go_sem,t0,t1,t2]; try rfl) rfl ?_
    obtain ⟨sN,nN,sD,nD⟩:=Uh HS3
    exact ⟨_,rfl,newR_of (Uh HRw) (Uh HO3).lt (Uh HB3) sN nN sD nD c4 SG⟩
   ·have hrd:rdQ X Y = X / Y:=by unfold rdQ; rw [if_neg (by omega)]
    rw [hrd] at HSG0 h44
    subst h44
    have HSG:=HSG0
    clear HSG0 hrd
    have hup:(decide (Y < X % Y + X % Y) || (decide (Y = X % Y + X % Y) && true)) = false:=by rw [decide_eq_false (by omega),decide_eq_false (by omega)]; rfl
    clear hIf
    go_enter Tryz.func17,Tryz.ntmps17
    go_wp2_with fail
    refine (Uh HK1).mono ?_
    rintro _ w1 ⟨rfl,b1⟩
    have f0:=(ck b1 p0)
    have f1:=(ck b1 p1)
    have f2:=(ck b1 p2)
    have HBL1:=Hd b1
    clear b1 HK1 p0 p1 p2
    go_wp2_with fail
    refine (Uh HKD _ (Uh HBL1)).mono ?_
    rintro _ w2 ⟨aq,mq,cq,al,ml,cl,rfl,sq,nq,sl,nl,_,b2⟩
    have h0:=(ck b2 f0)
    have h1:=(ck b2 f1)
    have h2:=(ck b2 f2)
    have HBL2:=Hd ((Uh HBL1).trans (b2.mono (Uh HBL1).size))
    have SQ:=Hd (And.intro sq (show NewAt wo.heap.size aq from fun p hp => Nat.le_trans (Uh HBL1).size (nq p hp)))
    have SL:=Hd sl
    clear HKD f0 f1 f2 b2 sq nq sl nl HBL1
    have KB:=nbit_any aq mq cq (limbs (X / Y)) 0 w2.drew ((Uh SQ).1.below (Below.refl _ _).drew) (limbs_ok _) (Uh HM).1 (by omega)
    rw [limbs_v,show bitN (X / Y) 0 = 1 from by unfold bitN; simp; omega] at KB
    have HKB:=Hd KB
    have HKU:=Hd (fun (W:World) (hb:Below w2.heap.size w2 W) => roundsUp_any al b1 ml cl m1 d1 (limbs (X % Y)) y1 true W ((Uh SL).below hb) (((Uh HY).1.below (Uh HBL2)).below hb) (limbs_ok _) oy1 (Uh HM).2.1 (Uh HM).2.2 (by rw [limbs_v,(Uh HY).2]; exact Uh HMl))
    rw [limbs_v,(Uh HY).2,hup] at HKU
    clear KB hbit hup
    go_wp2_with fail
    go_region_held3 (fun w' => w'.cell? ⟨w.heap.size,0,none⟩ = some (.bool g1) ∧ w'.cell? ⟨w.heap.size,1,none⟩ = some (.slice a1 n1 c1) ∧ w'.cell? ⟨w.heap.size,2,none⟩ = some (.slice b1 m1 d1)) (first | go_keep | (exact ⟨k0,k1,k2⟩))
     (first
      | (go_at_call 50; refine (Uh HKB).mono ?_; rintro _ _ ⟨rfl,hw⟩; obtain rfl:=hw.symm; clear hw)
      | (go_at_call 49; refine (Uh HKU _ (Below.refl _ _).drew).mono ?_; rintro _ w3 ⟨rfl,b3⟩; have hb3:Below w2.heap.size w2 w3:=(Below.refl _ _).drew.trans b3; have k0:=(ck hb3 h0); have k1:=(ck hb3 h1); have k2:=(ck hb3 h2); have HB3:=Hd hb3; clear b3 hb3))
    have HBL3:=Hd ((Uh HBL2).trans ((Uh HB3).mono (Uh HBL2).size))
    have SQ:=Hd (And.intro ((Uh SQ).1.below (Uh HB3)) (Uh SQ).2)
    clear HB3 HKU HKB SL h0 h1 h2 HBL2
    have hln:=(Uh SQ).1.len
    have KW:=ratWhole_any g1 aq mq cq w3
    unfold WhPost at KW
    rw [limbs_len0 hln] at KW
    rw [Uh HSG] at KW
    unfold ratV at KW
    have HKW:=Hd KW
    clear hln KW
    go_wp2_with fail
    refine (Uh HKW).mono ?_
    rintro _ wi ⟨aD,mD,cD,rfl,sD,nD,bl_i⟩
    have hzz:wa.heap.size + 1 ≤ w3.heap.size:=Nat.le_trans (Uh HO).lt (Uh HBL3).size
    have HS3:=Hd (And.intro ((Uh SQ).1.below bl_i) (And.intro (show NewAt (wa.heap.size + 1) aq from fun x hx => Nat.le_trans (Uh HO).lt ((Uh SQ).2 x hx)) (And.intro sD (show NewAt (wa.heap.size + 1) aD from fun x hx => Nat.le_trans hzz (nD x hx)))))
    have hbi:=(Uh HBL3).trans (bl_i.mono (Uh HBL3).size)
    have hO3:=(Uh HO).keep hbi
    obtain ⟨x0,q0⟩:=hO3.cells 0 (by decide)
    obtain ⟨x1',q1⟩:=hO3.cells 1 (by decide)
    obtain ⟨x2',q2⟩:=hO3.cells 2 (by decide)
    have r0:=hO3.fz 0 (by decide)
    have r1:=hO3.fz 1 (by decide)
    have r2:=hO3.fz 2 (by decide)
    have HO3:=Hd hO3
    have H4:=Hd (three_set wi wa.heap.size (.bool SG) (.slice aq mq cq) (.slice aD mD cD) hO3.cells)
    have HB3:=Hd ((Uh HBo).trans (hbi.mono (Uh HBo).size))
    clear sD nD bl_i hO3 hbi
    go_wp2_with fail
    obtain ⟨t0,t1,t2,c4⟩:=Uh H4
    generalize ((wi.setCell ⟨wa.heap.size,0,none⟩ (.bool SG)).setCell ⟨wa.heap.size,1,none⟩ (.slice aq mq cq)).setCell ⟨wa.heap.size,2,none⟩ (.slice aD mD cD) = wf at *
    refine bodyPost_ret (by simp [results,Tryz.results17,go_sem,t0,t1,t2]; try rfl) rfl ?_
    obtain ⟨sN,nN,sD,nD⟩:=Uh HS3
    exact ⟨_,rfl,newR_of (Uh HRw) (Uh HO3).lt (Uh HB3) sN nN sD nD c4 SG⟩
  ·by_cases hc:Y < X % Y + X % Y
   ·have hrd:rdQ X Y = X / Y + 1:=by unfold rdQ; rw [if_pos (by omega)]
    rw [hrd] at HSG0 h44
    subst h44
    have HSG:=HSG0
    clear HSG0 hrd
    have HIf:=Hd (hIf (by omega))
    have hup:(decide (Y < X % Y + X % Y) || (decide (Y = X % Y + X % Y) && false)) = true:=by rw [decide_eq_true (by omega)]; rfl
    clear hIf
    go_enter Tryz.func17,Tryz.ntmps17
    go_wp2_with fail
    refine (Uh HK1).mono ?_
    rintro _ w1 ⟨rfl,b1⟩
    have f0:=(ck b1 p0)
    have f1:=(ck b1 p1)
    have f2:=(ck b1 p2)
    have HBL1:=Hd b1
    clear b1 HK1 p0 p1 p2
    go_wp2_with fail
    refine (Uh HKD _ (Uh HBL1)).mono ?_
    rintro _ w2 ⟨aq,mq,cq,al,ml,cl,rfl,sq,nq,sl,nl,_,b2⟩
    have h0:=(ck b2 f0)
    have h1:=(ck b2 f1)
    have h2:=(ck b2 f2)
    have HBL2:=Hd ((Uh HBL1).trans (b2.mono (Uh HBL1).size))
    have SQ:=Hd (And.intro sq (show NewAt wo.heap.size aq from fun p hp => Nat.le_trans (Uh HBL1).size (nq p hp)))
    have SL:=Hd sl
    clear HKD f0 f1 f2 b2 sq nq sl nl HBL1
    have KB:=nbit_any aq mq cq (limbs (X / Y)) 0 w2.drew ((Uh SQ).1.below (Below.refl _ _).drew) (limbs_ok _) (Uh HM).1 (by omega)
    rw [limbs_v,show bitN (X / Y) 0 = 0 from by unfold bitN; simp; omega] at KB
    have HKB:=Hd KB
    have HKU:=Hd (fun (W:World) (hb:Below w2.heap.size w2 W) => roundsUp_any al b1 ml cl m1 d1 (limbs (X % Y)) y1 false W ((Uh SL).below hb) (((Uh HY).1.below (Uh HBL2)).below hb) (limbs_ok _) oy1 (Uh HM).2.1 (Uh HM).2.2 (by rw [limbs_v,(Uh HY).2]; exact Uh HMl))
    rw [limbs_v,(Uh HY).2,hup] at HKU
    clear KB hbit hup
    go_wp2_with fail
    go_region_held3 (fun w' => w'.cell? ⟨w.heap.size,0,none⟩ = some (.bool g1) ∧ w'.cell? ⟨w.heap.size,1,none⟩ = some (.slice a1 n1 c1) ∧ w'.cell? ⟨w.heap.size,2,none⟩ = some (.slice b1 m1 d1)) (first | go_keep | (exact ⟨k0,k1,k2⟩))
     (first
      | (go_at_call 50; refine (Uh HKB).mono ?_; rintro _ _ ⟨rfl,hw⟩; obtain rfl:=hw.symm; clear hw)
      | (go_at_call 49; refine (Uh HKU _ (Below.refl _ _).drew).mono ?_; rintro _ w3 ⟨rfl,b3⟩; have hb3:Below w2.heap.size w2 w3:=(Below.refl _ _).drew.trans b3; have k0:=(ck hb3 h0); have k1:=(ck hb3 h1); have k2:=(ck hb3 h2); have HB3:=Hd hb3; clear b3 hb3))
    have HBL3:=Hd ((Uh HBL2).trans ((Uh HB3).mono (Uh HBL2).size))
    have SQ:=Hd (And.intro ((Uh SQ).1.below (Uh HB3)) (Uh SQ).2)
    clear HB3 HKU HKB SL h0 h1 h2 HBL2
    have HKI:=Hd (ratIncr_any aq mq cq (X / Y) w3 (Uh SQ).1 (Uh HM).1 (Uh HIf))
    go_wp2_with fail
    refine (Uh HKI).mono ?_
    rintro _ w4 ⟨aq,mq,cq,rfl,sq,nq,b4⟩
    have j0:=(ck b4 k0)
    have j1:=(ck b4 k1)
    have j2:=(ck b4 k2)
    have HBL4:=Hd ((Uh HBL3).trans (b4.mono (Uh HBL3).size))
    have SQ:=Hd (And.intro sq (show NewAt wo.heap.size aq from fun p hp => Nat.le_trans (Uh HBL3).size (nq p hp)))
    clear sq nq b4 HKI k0 k1 k2 HBL3
    have hln:=(Uh SQ).1.len
    have KW:=ratWhole_any g1 aq mq cq w4
    unfold WhPost at KW
    rw [limbs_len0 hln] at KW
    rw [Uh HSG] at KW
    unfold ratV at KW
    have HKW:=Hd KW
    clear hln KW
    go_wp2_with fail
    refine (Uh HKW).mono ?_
    rintro _ wi ⟨aD,mD,cD,rfl,sD,nD,bl_i⟩
    have hzz:wa.heap.size + 1 ≤ w4.heap.size:=Nat.le_trans (Uh HO).lt (Uh HBL4).size
    have HS3:=Hd (And.intro ((Uh SQ).1.below bl_i) (And.intro (show NewAt (wa.heap.size + 1) aq from fun x hx => Nat.le_trans (Uh HO).lt ((Uh SQ).2 x hx)) (And.intro sD (show NewAt (wa.heap.size + 1) aD from fun x hx => Nat.le_trans hzz (nD x hx)))))
    have hbi:=(Uh HBL4).trans (bl_i.mono (Uh HBL4).size)
    have hO3:=(Uh HO).keep hbi
    obtain ⟨x0,q0⟩:=hO3.cells 0 (by decide)
    obtain ⟨x1',q1⟩:=hO3.cells 1 (by decide)
    obtain ⟨x2',q2⟩:=hO3.cells 2 (by decide)
    have r0:=hO3.fz 0 (by decide)
    have r1:=hO3.fz 1 (by decide)
    have r2:=hO3.fz 2 (by decide)
    have HO3:=Hd hO3
    have H4:=Hd (three_set wi wa.heap.size (.bool SG) (.slice aq mq cq) (.slice aD mD cD) hO3.cells)
    have HB3:=Hd ((Uh HBo).trans (hbi.mono (Uh HBo).size))
    clear sD nD bl_i hO3 hbi
    go_wp2_with fail
    obtain ⟨t0,t1,t2,c4⟩:=Uh H4
    generalize ((wi.setCell ⟨wa.heap.size,0,none⟩ (.bool SG)).setCell ⟨wa.heap.size,1,none⟩ (.slice aq mq cq)).setCell ⟨wa.heap.size,2,none⟩ (.slice aD mD cD) = wf at *
    refine bodyPost_ret (by simp [results,Tryz.results17,go_sem,t0,t1,t2]; try rfl) rfl ?_
    obtain ⟨sN,nN,sD,nD⟩:=Uh HS3
    exact ⟨_,rfl,newR_of (Uh HRw) (Uh HO3).lt (Uh HB3) sN nN sD nD c4 SG⟩
   ·have hrd:rdQ X Y = X / Y:=by unfold rdQ; rw [if_neg (by omega)]
    rw [hrd] at HSG0 h44
    subst h44
    have HSG:=HSG0
    clear HSG0 hrd
    have hup:(decide (Y < X % Y + X % Y) || (decide (Y = X % Y + X % Y) && false)) = false:=by rw [decide_eq_false (by omega)]; simp
    clear hIf
    go_enter Tryz.func17,Tryz.ntmps17
    go_wp2_with fail
    refine (Uh HK1).mono ?_
    rintro _ w1 ⟨rfl,b1⟩
    have f0:=(ck b1 p0)
    have f1:=(ck b1 p1)
    have f2:=(ck b1 p2)
    have HBL1:=Hd b1
    clear b1 HK1 p0 p1 p2
    go_wp2_with fail
    refine (Uh HKD _ (Uh HBL1)).mono ?_
    rintro _ w2 ⟨aq,mq,cq,al,ml,cl,rfl,sq,nq,sl,nl,_,b2⟩
    have h0:=(ck b2 f0)
    have h1:=(ck b2 f1)
    have h2:=(ck b2 f2)
    have HBL2:=Hd ((Uh HBL1).trans (b2.mono (Uh HBL1).size))
    have SQ:=Hd (And.intro sq (show NewAt wo.heap.size aq from fun p hp => Nat.le_trans (Uh HBL1).size (nq p hp)))
    have SL:=Hd sl
    clear HKD f0 f1 f2 b2 sq nq sl nl HBL1
    have KB:=nbit_any aq mq cq (limbs (X / Y)) 0 w2.drew ((Uh SQ).1.below (Below.refl _ _).drew) (limbs_ok _) (Uh HM).1 (by omega)
    rw [limbs_v,show bitN (X / Y) 0 = 0 from by unfold bitN; simp; omega] at KB
    have HKB:=Hd KB
    have HKU:=Hd (fun (W:World) (hb:Below w2.heap.size w2 W) => roundsUp_any al b1 ml cl m1 d1 (limbs (X % Y)) y1 false W ((Uh SL).below hb) (((Uh HY).1.below (Uh HBL2)).below hb) (limbs_ok _) oy1 (Uh HM).2.1 (Uh HM).2.2 (by rw [limbs_v,(Uh HY).2]; exact Uh HMl))
    rw [limbs_v,(Uh HY).2,hup] at HKU
    clear KB hbit hup
    go_wp2_with fail
    go_region_held3 (fun w' => w'.cell? ⟨w.heap.size,0,none⟩ = some (.bool g1) ∧ w'.cell? ⟨w.heap.size,1,none⟩ = some (.slice a1 n1 c1) ∧ w'.cell? ⟨w.heap.size,2,none⟩ = some (.slice b1 m1 d1)) (first | go_keep | (exact ⟨k0,k1,k2⟩))
     (first
      | (go_at_call 50; refine (Uh HKB).mono ?_; rintro _ _ ⟨rfl,hw⟩; obtain rfl:=hw.symm; clear hw)
      | (go_at_call 49; refine (Uh HKU _ (Below.refl _ _).drew).mono ?_; rintro _ w3 ⟨rfl,b3⟩; have hb3:Below w2.heap.size w2 w3:=(Below.refl _ _).drew.trans b3; have k0:=(ck hb3 h0); have k1:=(ck hb3 h1); have k2:=(ck hb3 h2); have HB3:=Hd hb3; clear b3 hb3))
    have HBL3:=Hd ((Uh HBL2).trans ((Uh HB3).mono (Uh HBL2).size))
    have SQ:=Hd (And.intro ((Uh SQ).1.below (Uh HB3)) (Uh SQ).2)
    clear HB3 HKU HKB SL h0 h1 h2 HBL2
    have hln:=(Uh SQ).1.len
    have KW:=ratWhole_any g1 aq mq cq w3
    unfold WhPost at KW
    rw [limbs_len0 hln] at KW
    rw [Uh HSG] at KW
    unfold ratV at KW
    have HKW:=Hd KW
    clear hln KW
    go_wp2_with fail
    refine (Uh HKW).mono ?_
    rintro _ wi ⟨aD,mD,cD,rfl,sD,nD,bl_i⟩
    have hzz:wa.heap.size + 1 ≤ w3.heap.size:=Nat.le_trans (Uh HO).lt (Uh HBL3).size
    have HS3:=Hd (And.intro ((Uh SQ).1.below bl_i) (And.intro (show NewAt (wa.heap.size + 1) aq from fun x hx => Nat.le_trans (Uh HO).lt ((Uh SQ).2 x hx)) (And.intro sD (show NewAt (wa.heap.size + 1) aD from fun x hx => Nat.le_trans hzz (nD x hx)))))
    have hbi:=(Uh HBL3).trans (bl_i.mono (Uh HBL3).size)
    have hO3:=(Uh HO).keep hbi
    obtain ⟨x0,q0⟩:=hO3.cells 0 (by decide)
    obtain ⟨x1',q1⟩:=hO3.cells 1 (by decide)
    obtain ⟨x2',q2⟩:=hO3.cells 2 (by decide)
    have r0:=hO3.fz 0 (by decide)
    have r1:=hO3.fz 1 (by decide)
    have r2:=hO3.fz 2 (by decide)
    have HO3:=Hd hO3
    have H4:=Hd (three_set wi wa.heap.size (.bool SG) (.slice aq mq cq) (.slice aD mD cD) hO3.cells)
    have HB3:=Hd ((Uh HBo).trans (hbi.mono (Uh HBo).size))
    clear sD nD bl_i hO3 hbi
    go_wp2_with fail
    obtain ⟨t0,t1,t2,c4⟩:=Uh H4
    generalize ((wi.setCell ⟨wa.heap.size,0,none⟩ (.bool SG)).setCell ⟨wa.heap.size,1,none⟩ (.slice aq mq cq)).setCell ⟨wa.heap.size,2,none⟩ (.slice aD mD cD) = wf at *
    refine bodyPost_ret (by simp [results,Tryz.results17,go_sem,t0,t1,t2]; try rfl) rfl ?_
    obtain ⟨sN,nN,sD,nD⟩:=Uh HS3
    exact ⟨_,rfl,newR_of (Uh HRw) (Uh HO3).lt (Uh HB3) sN nN sD nD c4 SG⟩
end Go.Proofs.YtmmeiebbnjjijaaGreatDoor
