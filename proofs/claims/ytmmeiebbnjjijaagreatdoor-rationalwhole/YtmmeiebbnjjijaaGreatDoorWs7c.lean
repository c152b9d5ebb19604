/- Ws7c -/
import Derived.Test.YtmmeiebbnjjijaaGreatDoorWkk
import Derived.Test.YtmmeiebbnjjijaaGreatDoorWs2
import Derived.Test.YtmmeiebbnjjijaaGreatDoorWrh
namespace Go.Proofs.YtmmeiebbnjjijaaGreatDoor
open Go.RowKit Go.Deep
set_option linter.unusedVariables false
set_option maxRecDepth 100000 in
set_option maxHeartbeats 32000000 in
theorem wDivide_diffL (g1:Bool) (a1 b1 a2 b2:Option Addr) (n1 c1 m1 d1 n2 c2 m2 d2:Nat) (x1 y1 x2 y2:List Nat) (w:World) (hx1:Sl w a1 n1 c1 x1) (hy1:Sl w b1 m1 d1 y1) (hx2:Sl w a2 n2 c2 x2) (hy2:Sl w b2 m2 d2 y2) (ox1:Ok x1) (oy1:Ok y1) (ox2:Ok x2) (oy2:Ok y2) (k1:MayR g1 x1 y1 = true) (k2:MayR (!g1) x2 y2 = true) (ex2:x2 ≠ []) (hz:val x1 * val y2 % (val y1 * val x2) ≠ 0) :
  Calls Tryz.prog 92 #[ratV g1 a1 n1 c1 b1 m1 d1,ratV (!g1) a2 n2 c2 b2 m2 d2] w fun e w' => ResD w w' (DivdG g1 (!g1) (val x1) (val y1) (val x2) (val y2)) e:=by
 obtain ⟨kx1,ky1,ey1,_,l1⟩:=MayR.parts k1
 obtain ⟨kx2,ky2,ey2,_,_⟩:=MayR.parts k2
 have vy1:=val_pos_of_may ky1 ey1
 have vy2:=val_pos_of_may ky2 ey2
 have vx2:=val_pos_of_may kx2 ex2
 have hDn:=dvN_is (g1:=g1) (g2:=(!g1)) (X1:=val x1) vy1 vy2 vx2 l1
 have hDq:=dvQ_is (g:=(g1 != (!g1))) (X1:=val x1) (X2:=val x2) (Y2:=val y2) vy1
 have bx:=Box.made w g1 a1 n1 c1 b1 m1 d1
 obtain ⟨wa,hwa⟩:∃ wa,ratBox w g1 a1 n1 c1 b1 m1 d1 = wa:=⟨_,rfl⟩
 rw [hwa] at bx
 have by_:=Box.made wa (!g1) a2 n2 c2 b2 m2 d2
 obtain ⟨wb,hwb⟩:∃ wb,ratBox wa (!g1) a2 n2 c2 b2 m2 d2 = wb:=⟨_,rfl⟩
 rw [hwb] at by_
 have hba:Below w.heap.size w wa:=by rw [← hwa]; exact bAl
 have hbb:Below wa.heap.size wa wb:=by rw [← hwb]; exact bAl
 unfold ratBox at hwa hwb
 obtain ⟨wo,hwo⟩:∃ x,wb.alloc (.cells #[.bool false,.slice none 0 0,.slice none 0 0] 25) = x:=⟨_,rfl⟩
 have hbo:Below wb.heap.size wb wo:=by rw [← hwo]; exact bAl
 obtain ⟨wp,hwp⟩:∃ x,wo.alloc (.cells #[.bool false,.slice none 0 0,.slice none 0 0] 25) = x:=⟨_,rfl⟩
 have hbp:Below wo.heap.size wo wp:=by rw [← hwp]; exact bAl
 have hO1:Out wp wb.heap.size:=by have h:Out wo wb.heap.size:=by { rw [← hwo]; exact Out.made wb }; exact h.keep hbp
 have hO2:Out wp wo.heap.size:=by rw [← hwp]; exact Out.made wo
 have bx2:=((bx.keep hbb).keep hbo).keep hbp
 have by2:=(by_.keep hbo).keep hbp
 have hB:=((hba.trans (hbb.mono hba.size)).trans (hbo.mono (Nat.le_trans hba.size hbb.size))).trans (hbp.mono (Nat.le_trans (Nat.le_trans hba.size hbb.size) hbo.size))
 have hzo:wo.heap.size = wb.heap.size + 1:=by rw [← hwo]; simp
 have hlab:w.heap.size < wa.heap.size:=bx.lt
 have hlab3:wa.heap.size < wb.heap.size:=by_.lt
 have p0:=bx2.d0
 have p1:=bx2.d1
 have p2:=bx2.d2
 have p3:=by2.d0
 have p4:=by2.d1
 have p5:=by2.d2
 have HRw:=Hd (show w.heap.size ≤ wb.heap.size from Nat.le_trans hba.size hbb.size)
 have HRT:=Hd (show wb.heap.size < wo.heap.size by omega)
 have hne1:wb.heap.size ≠ wo.heap.size:=by omega
 have hne2:wo.heap.size ≠ wb.heap.size:=by omega
 have hne3:w.heap.size ≠ wa.heap.size:=by omega
 have hne4:w.heap.size ≠ wb.heap.size:=by omega
 have hne5:w.heap.size ≠ wo.heap.size:=by omega
 have hne6:wa.heap.size ≠ wb.heap.size:=by omega
 have hne7:wa.heap.size ≠ wo.heap.size:=by omega
 have HO:=Hd (And.intro hO1 hO2)
 have HB:=Hd hB
 have HS:=Hd (And.intro (hx1.below hB) (And.intro (hy1.below hB) (And.intro (hx2.below hB) (hy2.below hB))))
 have HKM1:=Hd (fun (W:World) (hb:Below wp.heap.size wp W) => wmay_any g1 a1 b1 n1 c1 m1 d1 x1 y1 W ((Uh HS).1.below hb) ((Uh HS).2.1.below hb) ox1 oy1)
 have HKM2:=Hd (fun (W:World) (hb:Below wp.heap.size wp W) => wmay_any (!g1) a2 b2 n2 c2 m2 d2 x2 y2 W ((Uh HS).2.2.1.below hb) ((Uh HS).2.2.2.below hb) ox2 oy2)
 rw [k1] at HKM1
 rw [k2] at HKM2
 have hn2:n2 ≠ 0:=fun e => ex2 (List.eq_nil_of_length_eq_zero (by rw [hx2.len,e]))
 have t0:((n2:Int) == 0) = false:=by simp; omega
 have s1:n1 ≤ 2048:=by have:=hx1.len; have:=MayL.len kx1; omega
 have s2:m1 ≤ 2048:=by have:=hy1.len; have:=MayL.len ky1; omega
 have s3:n2 ≤ 2048:=by have:=hx2.len; have:=MayL.len kx2; omega
 have s4:m2 ≤ 2048:=by have:=hy2.len; have:=MayL.len ky2; omega
 have HM1:=Hd (fun (W:World) (hb:Below wp.heap.size wp W) => wmulw_any a1 b2 n1 c1 m2 d2 x1 y2 W ((Uh HS).1.below hb) ((Uh HS).2.2.2.below hb) ox1 oy2 (by omega))
 have HM2:=Hd (fun (W:World) (hb:Below wp.heap.size wp W) => wmulw_any b1 a2 m1 d1 n2 c2 y1 x2 W ((Uh HS).2.1.below hb) ((Uh HS).2.2.1.below hb) oy1 ox2 (by omega))
 have HLP:=Hd (show (limbs (val x1 * val y2)).length ≤ 5000 from by have:=mul_len ox1 oy2; have:=hx1.len; have:=hy2.len; omega)
 have HLD:=Hd (show (limbs (val y1 * val x2)).length ≤ 5000 from by have:=mul_len oy1 ox2; have:=hy1.len; have:=hx2.len; omega)
 have HDn:=Hd (show limbs (val y1 * val x2) ≠ [] from limbs_ne (Nat.mul_pos vy1 vx2))
 obtain ⟨P,hP⟩:∃ r,val x1 * val y2 = r:=⟨_,rfl⟩
 obtain ⟨D,hD⟩:∃ r,val y1 * val x2 = r:=⟨_,rfl⟩
 rw [hP] at HM1 HLP hDn hDq hz
 rw [hD] at HM2 HLD HDn hDq hz
 obtain ⟨Q0,hQ0⟩:∃ q,P / D = q:=⟨_,rfl⟩
 obtain ⟨L0,hL0⟩:∃ q,P % D = q:=⟨_,rfl⟩
 have HPe:=Hd hP
 have HNO:=Hd (And.intro (MayL.norm kx1) (And.intro (MayL.norm ky1) (And.intro (MayL.norm ky2) (And.intro ey1 ey2))))
 have HQe:=Hd hQ0
 have HLe:=Hd hL0
 rw [hL0] at hz
 have hQd:dvQ (g1 != (!g1)) (val x1) (val y1) (val x2) (val y2) = Q0 + 1:=by
  rw [← hDq,(show (g1 != !g1) = true from by cases g1 <;> rfl)]
  unfold flQ
  rw [hQ0,hL0]
  simp [hz]
 rw [hQd] at hDn
 have HQd:=Hd hQd
 have HDV:=Hd hDn
 have HLQ:=Hd (show (limbs Q0).length ≤ 5000 from by have h:=limbs_mono (Nat.div_le_self P D); rw [hQ0] at h; have:=Uh HLP; omega)
 have HZ0:=Hd hz
 obtain ⟨RR,hRR⟩:∃ r,DivdG g1 (!g1) (val x1) (val y1) (val x2) (val y2) = r:=⟨_,rfl⟩
 rw [hRR]
 have HRR:=Hd hRR
 clear hQd hRR hz
 clear hx1 hy1 hx2 hy2 bx by_ bx2 by2 hba hbb hbo hbp hB hO1 hO2 hzo hlab hlab3
 clear kx1 ky1 kx2 ky2 ey1 ey2 ex2 vy1 vy2 vx2 hn2 k1 k2 hDn hDq hP hD hQ0 hL0 l1
 unfold ratV at HKM1 HKM2 ⊢
 go_enter Tryz.func92,Tryz.ntmps92
 go_wp2_with fail
 refine (Uh HKM1 _ (Below.refl _ _)).mono ?_
 rintro _ w1 ⟨rfl,bl1⟩
 have e0:=(ck bl1 p0)
 have e1:=(ck bl1 p1)
 have e2:=(ck bl1 p2)
 have e3:=(ck bl1 p3)
 have e4:=(ck bl1 p4)
 have e5:=(ck bl1 p5)
 have HB1:=Hd bl1
 clear bl1 HKM1 p0 p1 p2 p3 p4 p5
 go_wp2_with fail
 refine (Uh HKM2 _ (Uh HB1)).mono ?_
 rintro _ w2 ⟨rfl,bl2⟩
 have f0:=(ck bl2 e0)
 have f1:=(ck bl2 e1)
 have f2:=(ck bl2 e2)
 have f3:=(ck bl2 e3)
 have f4:=(ck bl2 e4)
 have f5:=(ck bl2 e5)
 have HB2:=Hd ((Uh HB1).trans (bl2.mono (Uh HB1).size))
 clear bl2 HKM2 HB1 e0 e1 e2 e3 e4 e5
 have HM1':=Hd (fun (W:World) (hb:Below w2.heap.size w2 W) => Uh HM1 W ((Uh HB2).trans (hb.mono (Uh HB2).size)))
 have HM2':=Hd (fun (W:World) (hb:Below w2.heap.size w2 W) => Uh HM2 W ((Uh HB2).trans (hb.mono (Uh HB2).size)))
 clear HM1 HM2
 go_wp2_with fail
 go_region_held3 (fun w' => w'.cell? ⟨w.heap.size,0,none⟩ = some (.bool g1) ∧ w'.cell? ⟨w.heap.size,1,none⟩ = some (.slice a1 n1 c1) ∧ w'.cell? ⟨w.heap.size,2,none⟩ = some (.slice b1 m1 d1) ∧ w'.cell? ⟨wa.heap.size,0,none⟩ = some (.bool (!g1)) ∧ w'.cell? ⟨wa.heap.size,1,none⟩ = some (.slice a2 n2 c2) ∧ w'.cell? ⟨wa.heap.size,2,none⟩ = some (.slice b2 m2 d2)) (first | (with_reducible exact ⟨u0,u1,u2,u3,u4,u5⟩) | (with_reducible exact ⟨k0,k1,k2,k3,k4,k5⟩) | (with_reducible exact ⟨i0,i1,i2,i3,i4,i5⟩) | go_keep)
  (first
   | (go_at_call_of 138 (Value.slice a1 n1 c1); refine (Uh HM1' _ (Below.refl _ _).drew).mono ?_; rintro _ wu ⟨aP,mP,cP,rfl,sP,nP,zP,bU⟩; have hbu:Below w2.heap.size w2 wu:=(Below.refl _ _).drew.trans bU; have u0:=(ck hbu f0); have u1:=(ck hbu f1); have u2:=(ck hbu f2); have u3:=(ck hbu f3); have u4:=(ck hbu f4); have u5:=(ck hbu f5); have Hu:=Hd (And.intro sP (And.intro zP hbu)); clear sP nP zP bU hbu)
   | (go_at_call_of 138 (Value.slice b1 m1 d1); refine (Uh HM2' _ (Uh Hu).2.2).mono ?_; rintro _ wk ⟨aR,mR,cR,rfl,sR,nR,zR,bK⟩; have k0:=(ck bK u0); have k1:=(ck bK u1); have k2:=(ck bK u2); have k3:=(ck bK u3); have k4:=(ck bK u4); have k5:=(ck bK u5); have Hk:=Hd (And.intro ((Uh Hu).1.below bK) (And.intro sR ((Uh Hu).2.2.trans (bK.mono (Uh Hu).2.2.size)))); clear sR nR zR bK)
   | (go_at_call 119; have KD:=wdiv_any aP aR mP cP mR cR (limbs P) (limbs D) wk (Uh Hk).1 (Uh Hu).2.1 (Uh Hk).2.1 (limbs_ok _) (limbs_ok _) (limbs_norm _) (limbs_norm _) (Uh HDn) (by have:=(Uh Hk).1.len; have:=Uh HLP; omega) (by have:=(Uh Hk).2.1.len; have:=Uh HLD; omega); rw [limbs_v,limbs_v,Uh HQe,Uh HLe] at KD; refine KD.mono ?_; clear KD; rintro _ wi ⟨aq,mq,cq,ar,mr,cr,rfl,⟨sq,nq,zq⟩,⟨sr,nr,zr⟩,bI⟩; have i0:=(ck bI k0); have i1:=(ck bI k1); have i2:=(ck bI k2); have i3:=(ck bI k3); have i4:=(ck bI k4); have i5:=(ck bI k5); have Hi:=Hd ((Uh Hk).2.2.trans (bI.mono (Uh Hk).2.2.size)); have SQ:=Hd sq; have hlr:=sr.len; clear sq nq zq sr nr zr bI))
 have HB3:=Hd ((Uh HB2).trans ((Uh Hi).mono (Uh HB2).size))
 clear Hi Hk Hu HM1' HM2' HB2 f0 f1 f2 f3 f4 f5 u0 u1 u2 u3 u4 u5 k0 k1 k2 k3 k4 k5
 have hlp:(0:Int) < (mr:Int):=by
  have:limbs L0 ≠ []:=limbs_ne (Nat.pos_of_ne_zero (Uh HZ0))
  have:=List.length_pos_iff.2 this
  omega
 clear hlr
 obtain ⟨wc,hwc⟩:∃ x,wi.alloc (.cells #[.int .u32 1] 33) = x:=⟨_,rfl⟩
 have hbc:Below wi.heap.size wi wc:=by rw [← hwc]; exact bAl
 have hs1:Sl wc (some ⟨wi.heap.size,0,none⟩) 1 1 [1]:=by rw [← hwc]; exact one_sl wi 1 33
 have KA:=waddw_any aq (some ⟨wi.heap.size,0,none⟩) mq cq 1 1 (limbs (Q0)) [1] wc ((Uh SQ).below hbc) hs1 (limbs_ok _) ok_is1 (by have:=(Uh SQ).len; have:=Uh HLQ; omega) (by decide)
 rw [limbs_v,show val [1] = 1 from by decide] at KA
 have HKA:=Hd KA
 have HBC:=Hd ((Uh HB3).trans (hbc.mono (Uh HB3).size))
 have j0:=(ck hbc i0)
 have j1:=(ck hbc i1)
 have j2:=(ck hbc i2)
 have j3:=(ck hbc i3)
 have j4:=(ck hbc i4)
 have j5:=(ck hbc i5)
 clear KA hbc hs1 SQ
 go_wp2_with fail
 refine (Uh HKA).mono ?_
 rintro _ w5 ⟨aq,mq,cq,rfl,sq,nq,zq,b_w5⟩
 have j_0:=(ck b_w5 j0)
 have j_1:=(ck b_w5 j1)
 have j_2:=(ck b_w5 j2)
 have j_3:=(ck b_w5 j3)
 have j_4:=(ck b_w5 j4)
 have j_5:=(ck b_w5 j5)
 have HB4:=Hd ((Uh HBC).trans (b_w5.mono (Uh HBC).size))
 clear HKA HBC b_w5 i0 i1 i2 i3 i4 i5 j0 j1 j2 j3 j4 j5
 have SQ:=Hd sq
 have HLQ:=Hd (show (limbs (Q0 + 1)).length ≤ 5001 from add_len (k:=5000) (Uh HLQ) (show (limbs 1).length ≤ 5000 by rw [limbs_1]; decide))
 clear sq nq zq
 have i0:=j_0
 have i1:=j_1
 have i2:=j_2
 have i3:=j_3
 have i4:=j_4
 have i5:=j_5
 clear j_0 j_1 j_2 j_3 j_4 j_5
 have KW:=wwhole_any true aq mq cq (limbs (Q0 + 1)) w5 (Uh SQ) (limbs_ok _) (limbs_norm _) (by have:=(Uh SQ).len; have:=Uh HLQ; omega)
 rw [limbs_v] at KW
 by_cases hbig:bigN (Q0 + 1) = true
 ·rw [lowF_wide hbig] at KW
  unfold ResF at KW
  dsimp only at KW
  have HKW:=Hd KW
  have HR2:=Hd (show RR = (((false,[],[]),(false,[],[])),2) from by rw [← Uh HRR]; unfold DivdG; rw [Uh HQd,hbig]; simp)
  clear KW hbig SQ HRR
  go_wp2_with fail
  refine (Uh HKW).mono ?_
  rintro _ w6 ⟨vv,rfl,aX,mX,cX,aY,mY,cY,rfl,_,_,_,_,b6⟩
  unfold ratV
  obtain ⟨w7,hw7⟩:∃ z,w6.alloc (.cells #[.bool false,.slice aX mX cX,.slice aY mY cY] 25) = z:=⟨_,rfl⟩
  have b7:Below w6.heap.size w6 w7:=by rw [← hw7]; exact bAl
  have hb7:=((Uh HB4).trans (b6.mono (Uh HB4).size)).trans (b7.mono (Nat.le_trans (Uh HB4).size b6.size))
  have HOa:=Hd (And.intro ((Uh HO).1.keep hb7) ((Uh HO).2.keep hb7))
  have HBa:=Hd ((Uh HB).trans (hb7.mono (Uh HB).size))
  clear b6 b7 hb7 HKW
  have HO1:=Hd (Uh HOa).1
  have HO2:=Hd (Uh HOa).2
  obtain ⟨x0,q0⟩:=(Uh HO1).cells 0 (by decide)
  obtain ⟨x1',q1⟩:=(Uh HO1).cells 1 (by decide)
  obtain ⟨x2',q2⟩:=(Uh HO1).cells 2 (by decide)
  obtain ⟨x3',q3⟩:=(Uh HO2).cells 0 (by decide)
  obtain ⟨x4',q4⟩:=(Uh HO2).cells 1 (by decide)
  obtain ⟨x5',q5⟩:=(Uh HO2).cells 2 (by decide)
  have r0:=(Uh HO1).fz 0 (by decide)
  have r1:=(Uh HO1).fz 1 (by decide)
  have r2:=(Uh HO1).fz 2 (by decide)
  have r3:=(Uh HO2).fz 0 (by decide)
  have r4:=(Uh HO2).fz 1 (by decide)
  have r5:=(Uh HO2).fz 2 (by decide)
  have H6:=Hd (six_set w7 wb.heap.size wo.heap.size hne1 (.bool false) (.slice none 0 0) (.slice none 0 0) (.bool false) (.slice none 0 0) (.slice none 0 0) (Uh HO1) (Uh HO2))
  go_wp2_with fail
  obtain ⟨wf,hwf,⟨t0,t1,t2⟩,⟨t3,t4,t5⟩,c6⟩:=Uh H6
  rw [hwf]
  refine bodyPost_ret (by simp [results,Tryz.results92,go_sem,t0,t1,t2,t3,t4,t5]; try rfl) rfl ?_
  rw [Uh HR2]
  exact ⟨_,_,rfl,newR_two (Uh HRw) (Uh HRT) (Uh HBa) (sl_nil _) (newAt_nil _) (sl_nil _) (newAt_nil _) c6 false,newR_two (Uh HRw) (Uh HRT) (Uh HBa) (sl_nil _) (newAt_nil _) (sl_nil _) (newAt_nil _) c6 false⟩
 ·have hnb:bigN (Q0 + 1) = false:=by cases h:bigN (Q0 + 1) <;> simp [h] at hbig ⊢
  rw [lowF_whole hnb] at KW
  obtain ⟨SG,hSG⟩:∃ s,(true && decide (Q0 + 1 ≠ 0)) = s:=⟨_,rfl⟩
  rw [hSG] at KW
  unfold ResF at KW
  dsimp only at KW
  have HKW:=Hd KW
  have HSG:=Hd hSG
  have HNB:=Hd hnb
  clear KW hbig hSG hnb
  go_wp2_with fail
  refine (Uh HKW).mono ?_
  rintro _ w6 ⟨vv,rfl,aX,mX,cX,aY,mY,cY,rfl,sX,sY,nX,nY,b6⟩
  unfold ratV
  obtain ⟨w7,hw7⟩:∃ z,w6.alloc (.cells #[.bool SG,.slice aX mX cX,.slice aY mY cY] 25) = z:=⟨_,rfl⟩
  have b7:Below w6.heap.size w6 w7:=by rw [← hw7]; exact bAl
  have o0:w7.cell? ⟨w6.heap.size,0,none⟩ = some (.bool SG):=by rw [← hw7]; simp
  have o1:w7.cell? ⟨w6.heap.size,1,none⟩ = some (.slice aX mX cX):=by rw [← hw7]; simp
  have o2:w7.cell? ⟨w6.heap.size,2,none⟩ = some (.slice aY mY cY):=by rw [← hw7]; simp
  have hb67:=b6.trans (b7.mono b6.size)
  have hb7:=(Uh HB4).trans (hb67.mono (Uh HB4).size)
  have v0:=(ck hb67 i0)
  have v1:=(ck hb67 i1)
  have v2:=(ck hb67 i2)
  have v3:=(ck hb67 i3)
  have v4:=(ck hb67 i4)
  have v5:=(ck hb67 i5)
  have HB7:=Hd hb7
  have HW6:=Hd (show wp.heap.size ≤ w6.heap.size from Nat.le_trans (Uh HB4).size b6.size)
  have SX:=Hd (And.intro (sX.below b7) (And.intro (sY.below b7) (And.intro (show NewAt wp.heap.size aX from fun p hp => Nat.le_trans (Uh HB4).size (nX p hp)) (show NewAt wp.heap.size aY from fun p hp => Nat.le_trans (Uh HB4).size (nY p hp)))))
  have SQ:=Hd ((Uh SQ).below hb67)
  have HMQ:=Hd (fun (W:World) (hb:Below w7.heap.size w7 W) => wmulw_any aq a2 mq cq n2 c2 (limbs (Q0 + 1)) x2 W ((Uh SQ).below hb) ((Uh HS).2.2.1.below ((Uh HB7).trans (hb.mono (Uh HB7).size))) (limbs_ok _) ox2 (by have:=(Uh SQ).len; have:=Uh HLQ; omega))
  rw [limbs_v] at HMQ
  clear sX sY nX nY b6 b7 hb7 hb67 HKW i0 i1 i2 i3 i4 i5
  have hq1:w.heap.size ≠ w7.heap.size:=by have h1:=World.block_lt_of_cell? _ _ v0; have h2:w.heap.size < w7.heap.size:=h1; omega
  have hq2:wa.heap.size ≠ w7.heap.size:=by have h1:=World.block_lt_of_cell? _ _ v3; have h2:wa.heap.size < w7.heap.size:=h1; omega
  go_wp2_with fail
  go_region_held3 (fun w' => w'.cell? ⟨w.heap.size,0,none⟩ = some (.bool g1) ∧ w'.cell? ⟨w.heap.size,1,none⟩ = some (.slice a1 n1 c1) ∧ w'.cell? ⟨w.heap.size,2,none⟩ = some (.slice b1 m1 d1) ∧ w'.cell? ⟨wa.heap.size,0,none⟩ = some (.bool (!g1)) ∧ w'.cell? ⟨wa.heap.size,1,none⟩ = some (.slice a2 n2 c2) ∧ w'.cell? ⟨wa.heap.size,2,none⟩ = some (.slice b2 m2 d2)) (first | (with_reducible exact ⟨u0,u1,u2,u3,u4,u5⟩) | (refine ⟨?_,?_,?_,?_,?_,?_⟩ <;> (rw [World.cell?_setCell_other _ _ _ _ (fun h => by have h1:=congrArg Addr.block h; first | exact hq1 h1 | exact hq2 h1 | exact hq3 h1 | exact hq4 h1 | exact hq5 h1 | exact hq6 h1 | exact hq7 h1 | exact hq8 h1),World.cell?_setCell_other _ _ _ _ (fun h => by have h1:=congrArg Addr.block h; first | exact hq1 h1 | exact hq2 h1 | exact hq3 h1 | exact hq4 h1 | exact hq5 h1 | exact hq6 h1 | exact hq7 h1 | exact hq8 h1),World.cell?_setCell_other _ _ _ _ (fun h => by have h1:=congrArg Addr.block h; first | exact hq1 h1 | exact hq2 h1 | exact hq3 h1 | exact hq4 h1 | exact hq5 h1 | exact hq6 h1 | exact hq7 h1 | exact hq8 h1)]) <;> (first | assumption | (exact (ck (hAl _) u0)) | (exact (ck (hAl _) u1)) | (exact (ck (hAl _) u2)) | (exact (ck (hAl _) u3)) | (exact (ck (hAl _) u4)) | (exact (ck (hAl _) u5)))) | go_keep)
   (first
    | (go_at_call 138; refine (Uh HMQ _ (by first | exact (Below.refl _ _).drew | exact ((Below.refl _ _).drew).alloc (Nat.le_refl _) _)).mono ?_; rintro _ wt ⟨aT,mT,cT,rfl,sT,nT,zT,bT⟩; have hbt:Below w7.heap.size w7 wt:=(by first | exact (Below.refl _ _).drew.trans bT | exact (((Below.refl _ _).drew).alloc (Nat.le_refl _) _).trans (bT.mono (by simp))); have u0:=(ck hbt v0); have u1:=(ck hbt v1); have u2:=(ck hbt v2); have u3:=(ck hbt v3); have u4:=(ck hbt v4); have u5:=(ck hbt v5); have hq3:w.heap.size ≠ wt.heap.size:=(by have h1:w.heap.size < wt.heap.size:=World.block_lt_of_cell? _ _ u0; omega); have hq4:wa.heap.size ≠ wt.heap.size:=(by have h1:wa.heap.size < wt.heap.size:=World.block_lt_of_cell? _ _ u3; omega); have hq5:=hq1.symm; have hq6:=hq2.symm; have hq7:=hq3.symm; have hq8:=hq4.symm; have hAl:∀ o,Below wt.heap.size wt (wt.alloc o):=fun o => bAl; (first | (have hob:Out wt w7.heap.size:=(Out.made w7.drew).keep bT; have bb0:=hob.cells 0 (by decide); have bb1:=hob.cells 1 (by decide); have bb2:=hob.cells 2 (by decide); obtain ⟨_,b0⟩:=bb0; obtain ⟨_,b1_⟩:=bb1; obtain ⟨_,b2_⟩:=bb2; have z0:=hob.fz 0 (by decide); have z1:=hob.fz 1 (by decide); have z2:=hob.fz 2 (by decide); have hnT:∀ p,aT = some p → p.block ≠ w7.heap.size:=(fun p hp => by have h1:=nT p hp; simp at h1; omega)) | skip); have ST:=Hd (And.intro sT (And.intro zT hbt)); clear sT nT zT bT hbt))
  ·obtain ⟨w8,hw8⟩:∃ z,wt.alloc (.cells #[.bool g1,.slice aT mT cT,.slice b2 m2 d2] 25) = z:=⟨_,rfl⟩
   rw [hw8]
   have hb8:Below wt.heap.size wt w8:=by rw [← hw8]; exact bAl
   have y0:w8.cell? ⟨wt.heap.size,0,none⟩ = some (.bool g1):=by rw [← hw8]; simp
   have y1_:w8.cell? ⟨wt.heap.size,1,none⟩ = some (.slice aT mT cT):=by rw [← hw8]; simp
   have y2_:w8.cell? ⟨wt.heap.size,2,none⟩ = some (.slice b2 m2 d2):=by rw [← hw8]; simp
   have H78:=Hd ((Uh ST).2.2.trans (hb8.mono (Uh ST).2.2.size))
   have ST8:=Hd ((Uh ST).1.below hb8)
   obtain ⟨Yb,hYb⟩:∃ n,wt.heap.size = n:=⟨_,rfl⟩
   rw [hYb] at y0 y1_ y2_ ⊢
   clear hw8 hb8 hYb ST hq1 hq2 hq3 hq4 hq5 hq6 hq7 hq8 hAl u0 u1 u2 u3 u4 u5 hwa hwb hwo hwp hw7
   have HB8:=Hd ((Uh HB7).trans ((Uh H78).mono (Uh HB7).size))
   have u0:=(ck (Uh H78) v0)
   have u1:=(ck (Uh H78) v1)
   have u2:=(ck (Uh H78) v2)
   have u3:=(ck (Uh H78) v3)
   have u4:=(ck (Uh H78) v4)
   have u5:=(ck (Uh H78) v5)
   have oo0:=(ck (Uh H78) o0)
   have oo1:=(ck (Uh H78) o1)
   have oo2:=(ck (Uh H78) o2)
   have KP:=wplus_any g1 (!g1) a1 b1 aT b2 n1 c1 m1 d1 mT cT m2 d2 x1 y1 (limbs ((Q0 + 1) * val x2)) y2 w8 ((Uh HS).1.below (Uh HB8)) ((Uh HS).2.1.below (Uh HB8)) (Uh ST8) ((Uh HS).2.2.2.below (Uh HB8)) ox1 oy1 (limbs_ok _) oy2 (Uh HNO).1 (Uh HNO).2.1 (limbs_norm _) (Uh HNO).2.2.1 (Uh HNO).2.2.2.1 (Uh HNO).2.2.2.2 (by omega) (by omega) (by have h1:=(Uh ST8).len; have h2:=mul_len (limbs_ok (Q0 + 1)) ox2; rw [limbs_v] at h2; have:=Uh HLQ; have:=(Uh HS).2.2.1.len; omega) (by omega)
   rw [limbs_v,Uh HPe,Uh HDV] at KP
   have HB8':=H78
   clear v0 v1 v2 v3 v4 v5 o0 o1 o2 H78 HMQ SQ ST8
   by_cases hb2:(bigN (dvN (g1 != (!g1)) (val x1) (val y1) (val x2) (val y2)) || bigN (dvD (g1 != (!g1)) (val x1) (val y1) (val x2) (val y2))) = true
   ·rw [if_pos hb2] at KP
    have HR2:=Hd (show RR = (((false,[],[]),(false,[],[])),2) from by rw [← Uh HRR]; unfold DivdG; rw [Bool.or_assoc,hb2]; simp)
    unfold ResF ratV at KP
    dsimp only at KP
    have HKP:=Hd KP
    clear KP hb2 HRR
    go_wp2_with fail
    refine (Uh HKP).mono ?_
    rintro _ w9 ⟨vv,rfl,aZ,mZ,cZ,aV,mV,cV,rfl,_,_,_,_,b9⟩
    unfold ratV
    obtain ⟨w10,hw10⟩:∃ z,w9.alloc (.cells #[.bool false,.slice aZ mZ cZ,.slice aV mV cV] 25) = z:=⟨_,rfl⟩
    have b10:Below w9.heap.size w9 w10:=by rw [← hw10]; exact bAl
    have hb10:=((Uh HB8).trans (b9.mono (Uh HB8).size)).trans (b10.mono (Nat.le_trans (Uh HB8).size b9.size))
    have HOa:=Hd (And.intro ((Uh HO).1.keep hb10) ((Uh HO).2.keep hb10))
    have HBa:=Hd ((Uh HB).trans (hb10.mono (Uh HB).size))
    clear b9 b10 hb10 HKP
    have HO1:=Hd (Uh HOa).1
    have HO2:=Hd (Uh HOa).2
    obtain ⟨x0,q0⟩:=(Uh HO1).cells 0 (by decide)
    obtain ⟨x1',q1⟩:=(Uh HO1).cells 1 (by decide)
    obtain ⟨x2',q2⟩:=(Uh HO1).cells 2 (by decide)
    obtain ⟨x3',q3⟩:=(Uh HO2).cells 0 (by decide)
    obtain ⟨x4',q4⟩:=(Uh HO2).cells 1 (by decide)
    obtain ⟨x5',q5⟩:=(Uh HO2).cells 2 (by decide)
    have r0:=(Uh HO1).fz 0 (by decide)
    have r1:=(Uh HO1).fz 1 (by decide)
    have r2:=(Uh HO1).fz 2 (by decide)
    have r3:=(Uh HO2).fz 0 (by decide)
    have r4:=(Uh HO2).fz 1 (by decide)
    have r5:=(Uh HO2).fz 2 (by decide)
    have H6:=Hd (six_set w10 wb.heap.size wo.heap.size hne1 (.bool false) (.slice none 0 0) (.slice none 0 0) (.bool false) (.slice none 0 0) (.slice none 0 0) (Uh HO1) (Uh HO2))
    go_wp2_with fail
    obtain ⟨wf,hwf,⟨t0,t1,t2⟩,⟨t3,t4,t5⟩,c6⟩:=Uh H6
    rw [hwf]
    refine bodyPost_ret (by simp [results,Tryz.results92,go_sem,t0,t1,t2,t3,t4,t5]; try rfl) rfl ?_
    rw [Uh HR2]
    exact ⟨_,_,rfl,newR_two (Uh HRw) (Uh HRT) (Uh HBa) (sl_nil _) (newAt_nil _) (sl_nil _) (newAt_nil _) c6 false,newR_two (Uh HRw) (Uh HRT) (Uh HBa) (sl_nil _) (newAt_nil _) (sl_nil _) (newAt_nil _) c6 false⟩
   ·rw [if_neg hb2] at KP
    obtain ⟨SH,hSH⟩:∃ s,((!g1) && decide (dvN (g1 != (!g1)) (val x1) (val y1) (val x2) (val y2) ≠ 0)) = s:=⟨_,rfl⟩
    rw [hSH] at KP
    have HR2:=Hd (show RR = (((SG,limbs (Q0 + 1),[1]),(SH,limbs (dvN (g1 != (!g1)) (val x1) (val y1) (val x2) (val y2)),limbs (dvD (g1 != (!g1)) (val x1) (val y1) (val x2) (val y2)))),0) from by
     rw [← Uh HRR]
     unfold DivdG
     rw [if_neg (by rw [Bool.or_assoc,Uh HQd,Uh HNB,Bool.false_or]; exact hb2),Uh HQd,hSH,← Uh HSG]
     rw [(show (g1 != !g1) = true from by cases g1 <;> rfl)])
    generalize limbs (dvN (g1 != (!g1)) (val x1) (val y1) (val x2) (val y2)) = NNl at *
    generalize limbs (dvD (g1 != (!g1)) (val x1) (val y1) (val x2) (val y2)) = DDl at *
    unfold ResF ratV at KP
    dsimp only at KP
    have HKP:=Hd KP
    clear KP hb2 HRR hSH
    go_wp2_with fail
    refine (Uh HKP).mono ?_
    rintro _ w9 ⟨vv,rfl,aZ,mZ,cZ,aV,mV,cV,rfl,sZ,sV,nZ,nV,b9⟩
    unfold ratV
    obtain ⟨w10,hw10⟩:∃ z,w9.alloc (.cells #[.bool SH,.slice aZ mZ cZ,.slice aV mV cV] 25) = z:=⟨_,rfl⟩
    have b10:Below w9.heap.size w9 w10:=by rw [← hw10]; exact bAl
    have l0:w10.cell? ⟨w9.heap.size,0,none⟩ = some (.bool SH):=by rw [← hw10]; simp
    have l1_:w10.cell? ⟨w9.heap.size,1,none⟩ = some (.slice aZ mZ cZ):=by rw [← hw10]; simp
    have l2_:w10.cell? ⟨w9.heap.size,2,none⟩ = some (.slice aV mV cV):=by rw [← hw10]; simp
    have hb810:=b9.trans (b10.mono b9.size)
    have hb10:=(Uh HB8).trans (hb810.mono (Uh HB8).size)
    have op0:=(ck hb810 oo0)
    have op1:=(ck hb810 oo1)
    have op2:=(ck hb810 oo2)
    have HO1:=Hd ((Uh HO).1.keep hb10)
    have HO2:=Hd ((Uh HO).2.keep hb10)
    obtain ⟨x0,q0⟩:=(Uh HO1).cells 0 (by decide)
    obtain ⟨x1',q1⟩:=(Uh HO1).cells 1 (by decide)
    obtain ⟨x2',q2⟩:=(Uh HO1).cells 2 (by decide)
    obtain ⟨x3',q3⟩:=(Uh HO2).cells 0 (by decide)
    obtain ⟨x4',q4⟩:=(Uh HO2).cells 1 (by decide)
    obtain ⟨x5',q5⟩:=(Uh HO2).cells 2 (by decide)
    have r0:=(Uh HO1).fz 0 (by decide)
    have r1:=(Uh HO1).fz 1 (by decide)
    have r2:=(Uh HO1).fz 2 (by decide)
    have r3:=(Uh HO2).fz 0 (by decide)
    have r4:=(Uh HO2).fz 1 (by decide)
    have r5:=(Uh HO2).fz 2 (by decide)
    have H6:=Hd (six_set w10 wb.heap.size wo.heap.size hne1 (.bool SG) (.slice aX mX cX) (.slice aY mY cY) (.bool SH) (.slice aZ mZ cZ) (.slice aV mV cV) (Uh HO1) (Uh HO2))
    have HBw:=Hd ((Uh HB).trans (hb10.mono (Uh HB).size))
    have hzw:wo.heap.size + 1 ≤ wp.heap.size:=(Uh HO).2.lt
    have hz8:wp.heap.size ≤ w8.heap.size:=(Uh HB8).size
    have hq7:=(Uh HB8').trans (hb810.mono (Uh HB8').size)
    have HZ:=Hd (And.intro ((Uh SX).1.below hq7) (And.intro (show NewAt (wo.heap.size + 1) aX from fun p hp => Nat.le_trans hzw ((Uh SX).2.2.1 p hp)) (And.intro ((Uh SX).2.1.below hq7) (And.intro (show NewAt (wo.heap.size + 1) aY from fun p hp => Nat.le_trans hzw ((Uh SX).2.2.2 p hp)) (And.intro (sZ.below b10) (And.intro (show NewAt (wo.heap.size + 1) aZ from fun p hp => Nat.le_trans (Nat.le_trans hzw hz8) (nZ p hp)) (And.intro (sV.below b10) (show NewAt (wo.heap.size + 1) aV from fun p hp => Nat.le_trans (Nat.le_trans hzw hz8) (nV p hp)))))))))
    have HR69:=Hd (show wb.heap.size < wo.heap.size ∧ wo.heap.size < w6.heap.size ∧ wo.heap.size < w9.heap.size from by have h1:=Uh HRT; have h2:=Uh HW6; have h3:=b9.size; omega)
    clear sZ sV nZ nV b9 b10 hb810 hb10 hzw hz8 hq7 HKP oo0 oo1 oo2 u0 u1 u2 u3 u4 u5 y0 y1_ y2_
    have hr1:w6.heap.size ≠ wb.heap.size:=by have:=Uh HR69; omega
    have hr2:w6.heap.size ≠ wo.heap.size:=by have:=Uh HR69; omega
    have hr3:w9.heap.size ≠ wb.heap.size:=by have:=Uh HR69; omega
    have hr4:w9.heap.size ≠ wo.heap.size:=by have:=Uh HR69; omega
    have hr5:=hr1.symm
    have hr6:=hr2.symm
    have hr7:=hr3.symm
    have hr8:=hr4.symm
    go_wp2_with fail
    go_region
    all_goals try go_wp2_with fail
    all_goals
     obtain ⟨wf_,hwf,⟨t0,t1,t2⟩,⟨t3,t4,t5⟩,c6⟩:=Uh H6
     rw [hwf]
     refine bodyPost_ret (by simp [results,Tryz.results92,go_sem,t0,t1,t2,t3,t4,t5]; try rfl) rfl ?_
     rw [Uh HR2]
     obtain ⟨z1,z2,z3,z4,z5,z6,z7,z8⟩:=Uh HZ
     have c7:Chg (fun j => j = wb.heap.size ∨ j = wo.heap.size) w10 wf_.drew:=⟨c6.os,c6.tape,c6.output,c6.size,c6.block⟩
     first | exact ⟨_,_,rfl,newR_two (Uh HRw) (Uh HRT) (Uh HBw) z1 z2 z3 z4 c7 SG,newR_two (Uh HRw) (Uh HRT) (Uh HBw) z5 z6 z7 z8 c7 SH⟩ | exact ⟨_,_,rfl,newR_two (Uh HRw) (Uh HRT) (Uh HBw) z1 z2 z3 z4 c6 SG,newR_two (Uh HRw) (Uh HRT) (Uh HBw) z5 z6 z7 z8 c6 SH⟩
  ·have H4:=three_set wt w7.heap.size (.bool g1) (.slice aT mT cT) (.slice b2 m2 d2) hob.cells
   generalize ((wt.setCell ⟨w7.heap.size,0,none⟩ (.bool g1)).setCell ⟨w7.heap.size,1,none⟩ (.slice aT mT cT)).setCell ⟨w7.heap.size,2,none⟩ (.slice b2 m2 d2) = w8 at *
   obtain ⟨y0,y1_,y2_,c4⟩:=H4
   have H78:=Hd ((Uh ST).2.2.trans (c4.below (Uh ST).2.2.size (fun k hk e => by omega)))
   have ST8:=Hd ((Uh ST).1.chg c4 (fun p hp _ e => hnT p hp e))
   obtain ⟨Yb,hYb⟩:∃ n,w7.heap.size = n:=⟨_,rfl⟩
   rw [hYb] at y0 y1_ y2_ ⊢
   clear c4 hYb ST hob b0 b1_ b2_ z0 z1 z2 hnT hq1 hq2 hq3 hq4 hq5 hq6 hq7 hq8 hAl u0 u1 u2 u3 u4 u5 hwa hwb hwo hwp hw7
   have HB8:=Hd ((Uh HB7).trans ((Uh H78).mono (Uh HB7).size))
   have u0:=(ck (Uh H78) v0)
   have u1:=(ck (Uh H78) v1)
   have u2:=(ck (Uh H78) v2)
   have u3:=(ck (Uh H78) v3)
   have u4:=(ck (Uh H78) v4)
   have u5:=(ck (Uh H78) v5)
   have oo0:=(ck (Uh H78) o0)
   have oo1:=(ck (Uh H78) o1)
   have oo2:=(ck (Uh H78) o2)
   have KP:=wplus_any g1 (!g1) a1 b1 aT b2 n1 c1 m1 d1 mT cT m2 d2 x1 y1 (limbs ((Q0 + 1) * val x2)) y2 w8 ((Uh HS).1.below (Uh HB8)) ((Uh HS).2.1.below (Uh HB8)) (Uh ST8) ((Uh HS).2.2.2.below (Uh HB8)) ox1 oy1 (limbs_ok _) oy2 (Uh HNO).1 (Uh HNO).2.1 (limbs_norm _) (Uh HNO).2.2.1 (Uh HNO).2.2.2.1 (Uh HNO).2.2.2.2 (by omega) (by omega) (by have h1:=(Uh ST8).len; have h2:=mul_len (limbs_ok (Q0 + 1)) ox2; rw [limbs_v] at h2; have:=Uh HLQ; have:=(Uh HS).2.2.1.len; omega) (by omega)
   rw [limbs_v,Uh HPe,Uh HDV] at KP
   have HB8':=H78
   clear v0 v1 v2 v3 v4 v5 o0 o1 o2 H78 HMQ SQ ST8
   by_cases hb2:(bigN (dvN (g1 != (!g1)) (val x1) (val y1) (val x2) (val y2)) || bigN (dvD (g1 != (!g1)) (val x1) (val y1) (val x2) (val y2))) = true
   ·rw [if_pos hb2] at KP
    have HR2:=Hd (show RR = (((false,[],[]),(false,[],[])),2) from by rw [← Uh HRR]; unfold DivdG; rw [Bool.or_assoc,hb2]; simp)
    unfold ResF ratV at KP
    dsimp only at KP
    have HKP:=Hd KP
    clear KP hb2 HRR
    go_wp2_with fail
    refine (Uh HKP).mono ?_
    rintro _ w9 ⟨vv,rfl,aZ,mZ,cZ,aV,mV,cV,rfl,_,_,_,_,b9⟩
    unfold ratV
    obtain ⟨w10,hw10⟩:∃ z,w9.alloc (.cells #[.bool false,.slice aZ mZ cZ,.slice aV mV cV] 25) = z:=⟨_,rfl⟩
    have b10:Below w9.heap.size w9 w10:=by rw [← hw10]; exact bAl
    have hb10:=((Uh HB8).trans (b9.mono (Uh HB8).size)).trans (b10.mono (Nat.le_trans (Uh HB8).size b9.size))
    have HOa:=Hd (And.intro ((Uh HO).1.keep hb10) ((Uh HO).2.keep hb10))
    have HBa:=Hd ((Uh HB).trans (hb10.mono (Uh HB).size))
    clear b9 b10 hb10 HKP
    have HO1:=Hd (Uh HOa).1
    have HO2:=Hd (Uh HOa).2
    obtain ⟨x0,q0⟩:=(Uh HO1).cells 0 (by decide)
    obtain ⟨x1',q1⟩:=(Uh HO1).cells 1 (by decide)
    obtain ⟨x2',q2⟩:=(Uh HO1).cells 2 (by decide)
    obtain ⟨x3',q3⟩:=(Uh HO2).cells 0 (by decide)
    obtain ⟨x4',q4⟩:=(Uh HO2).cells 1 (by decide)
    obtain ⟨x5',q5⟩:=(Uh HO2).cells 2 (by decide)
    have r0:=(Uh HO1).fz 0 (by decide)
    have r1:=(Uh HO1).fz 1 (by decide)
    have r2:=(Uh HO1).fz 2 (by decide)
    have r3:=(Uh HO2).fz 0 (by decide)
    have r4:=(Uh HO2).fz 1 (by decide)
    have r5:=(Uh HO2).fz 2 (by decide)
    have H6:=Hd (six_set w10 wb.heap.size wo.heap.size hne1 (.bool false) (.slice none 0 0) (.slice none 0 0) (.bool false) (.slice none 0 0) (.slice none 0 0) (Uh HO1) (Uh HO2))
    go_wp2_with fail
    obtain ⟨wf,hwf,⟨t0,t1,t2⟩,⟨t3,t4,t5⟩,c6⟩:=Uh H6
    rw [hwf]
    refine bodyPost_ret (by simp [results,Tryz.results92,go_sem,t0,t1,t2,t3,t4,t5]; try rfl) rfl ?_
    rw [Uh HR2]
    exact ⟨_,_,rfl,newR_two (Uh HRw) (Uh HRT) (Uh HBa) (sl_nil _) (newAt_nil _) (sl_nil _) (newAt_nil _) c6 false,newR_two (Uh HRw) (Uh HRT) (Uh HBa) (sl_nil _) (newAt_nil _) (sl_nil _) (newAt_nil _) c6 false⟩
   ·rw [if_neg hb2] at KP
    obtain ⟨SH,hSH⟩:∃ s,((!g1) && decide (dvN (g1 != (!g1)) (val x1) (val y1) (val x2) (val y2) ≠ 0)) = s:=⟨_,rfl⟩
    rw [hSH] at KP
    have HR2:=Hd (show RR = (((SG,limbs (Q0 + 1),[1]),(SH,limbs (dvN (g1 != (!g1)) (val x1) (val y1) (val x2) (val y2)),limbs (dvD (g1 != (!g1)) (val x1) (val y1) (val x2) (val y2)))),0) from by
     rw [← Uh HRR]
     unfold DivdG
     rw [if_neg (by rw [Bool.or_assoc,Uh HQd,Uh HNB,Bool.false_or]; exact hb2),Uh HQd,hSH,← Uh HSG]
     rw [(show (g1 != !g1) = true from by cases g1 <;> rfl)])
    generalize limbs (dvN (g1 != (!g1)) (val x1) (val y1) (val x2) (val y2)) = NNl at *
    generalize limbs (dvD (g1 != (!g1)) (val x1) (val y1) (val x2) (val y2)) = DDl at *
    unfold ResF ratV at KP
    dsimp only at KP
    have HKP:=Hd KP
    clear KP hb2 HRR hSH
    go_wp2_with fail
    refine (Uh HKP).mono ?_
    rintro _ w9 ⟨vv,rfl,aZ,mZ,cZ,aV,mV,cV,rfl,sZ,sV,nZ,nV,b9⟩
    unfold ratV
    obtain ⟨w10,hw10⟩:∃ z,w9.alloc (.cells #[.bool SH,.slice aZ mZ cZ,.slice aV mV cV] 25) = z:=⟨_,rfl⟩
    have b10:Below w9.heap.size w9 w10:=by rw [← hw10]; exact bAl
    have l0:w10.cell? ⟨w9.heap.size,0,none⟩ = some (.bool SH):=by rw [← hw10]; simp
    have l1_:w10.cell? ⟨w9.heap.size,1,none⟩ = some (.slice aZ mZ cZ):=by rw [← hw10]; simp
    have l2_:w10.cell? ⟨w9.heap.size,2,none⟩ = some (.slice aV mV cV):=by rw [← hw10]; simp
    have hb810:=b9.trans (b10.mono b9.size)
    have hb10:=(Uh HB8).trans (hb810.mono (Uh HB8).size)
    have op0:=(ck hb810 oo0)
    have op1:=(ck hb810 oo1)
    have op2:=(ck hb810 oo2)
    have HO1:=Hd ((Uh HO).1.keep hb10)
    have HO2:=Hd ((Uh HO).2.keep hb10)
    obtain ⟨x0,q0⟩:=(Uh HO1).cells 0 (by decide)
    obtain ⟨x1',q1⟩:=(Uh HO1).cells 1 (by decide)
    obtain ⟨x2',q2⟩:=(Uh HO1).cells 2 (by decide)
    obtain ⟨x3',q3⟩:=(Uh HO2).cells 0 (by decide)
    obtain ⟨x4',q4⟩:=(Uh HO2).cells 1 (by decide)
    obtain ⟨x5',q5⟩:=(Uh HO2).cells 2 (by decide)
    have r0:=(Uh HO1).fz 0 (by decide)
    have r1:=(Uh HO1).fz 1 (by decide)
    have r2:=(Uh HO1).fz 2 (by decide)
    have r3:=(Uh HO2).fz 0 (by decide)
    have r4:=(Uh HO2).fz 1 (by decide)
    have r5:=(Uh HO2).fz 2 (by decide)
    have H6:=Hd (six_set w10 wb.heap.size wo.heap.size hne1 (.bool SG) (.slice aX mX cX) (.slice aY mY cY) (.bool SH) (.slice aZ mZ cZ) (.slice aV mV cV) (Uh HO1) (Uh HO2))
    have HBw:=Hd ((Uh HB).trans (hb10.mono (Uh HB).size))
    have hzw:wo.heap.size + 1 ≤ wp.heap.size:=(Uh HO).2.lt
    have hz8:wp.heap.size ≤ w8.heap.size:=(Uh HB8).size
    have hq7:=(Uh HB8').trans (hb810.mono (Uh HB8').size)
    have HZ:=Hd (And.intro ((Uh SX).1.below hq7) (And.intro (show NewAt (wo.heap.size + 1) aX from fun p hp => Nat.le_trans hzw ((Uh SX).2.2.1 p hp)) (And.intro ((Uh SX).2.1.below hq7) (And.intro (show NewAt (wo.heap.size + 1) aY from fun p hp => Nat.le_trans hzw ((Uh SX).2.2.2 p hp)) (And.intro (sZ.below b10) (And.intro (show NewAt (wo.heap.size + 1) aZ from fun p hp => Nat.le_trans (Nat.le_trans hzw hz8) (nZ p hp)) (And.intro (sV.below b10) (show NewAt (wo.heap.size + 1) aV from fun p hp => Nat.le_trans (Nat.le_trans hzw hz8) (nV p hp)))))))))
    have HR69:=Hd (show wb.heap.size < wo.heap.size ∧ wo.heap.size < w6.heap.size ∧ wo.heap.size < w9.heap.size from by have h1:=Uh HRT; have h2:=Uh HW6; have h3:=b9.size; omega)
    clear sZ sV nZ nV b9 b10 hb810 hb10 hzw hz8 hq7 HKP oo0 oo1 oo2 u0 u1 u2 u3 u4 u5 y0 y1_ y2_
    have hr1:w6.heap.size ≠ wb.heap.size:=by have:=Uh HR69; omega
    have hr2:w6.heap.size ≠ wo.heap.size:=by have:=Uh HR69; omega
    have hr3:w9.heap.size ≠ wb.heap.size:=by have:=Uh HR69; omega
    have hr4:w9.heap.size ≠ wo.heap.size:=by have:=Uh HR69; omega
    have hr5:=hr1.symm
    have hr6:=hr2.symm
    have hr7:=hr3.symm
    have hr8:=hr4.symm
    go_wp2_with fail
    go_region
    all_goals try go_wp2_with fail
    all_goals
     obtain ⟨wf_,hwf,⟨t0,t1,t2⟩,⟨t3,t4,t5⟩,c6⟩:=Uh H6
     rw [hwf]
     refine bodyPost_ret (by simp [results,Tryz.results92,go_sem,t0,t1,t2,t3,t4,t5]; try rfl) rfl ?_
     rw [Uh HR2]
     obtain ⟨z1,z2,z3,z4,z5,z6,z7,z8⟩:=Uh HZ
     have c7:Chg (fun j => j = wb.heap.size ∨ j = wo.heap.size) w10 wf_.drew:=⟨c6.os,c6.tape,c6.output,c6.size,c6.block⟩
     first | exact ⟨_,_,rfl,newR_two (Uh HRw) (Uh HRT) (Uh HBw) z1 z2 z3 z4 c7 SG,newR_two (Uh HRw) (Uh HRT) (Uh HBw) z5 z6 z7 z8 c7 SH⟩ | exact ⟨_,_,rfl,newR_two (Uh HRw) (Uh HRT) (Uh HBw) z1 z2 z3 z4 c6 SG,newR_two (Uh HRw) (Uh HRT) (Uh HBw) z5 z6 z7 z8 c6 SH⟩
end Go.Proofs.YtmmeiebbnjjijaaGreatDoor
