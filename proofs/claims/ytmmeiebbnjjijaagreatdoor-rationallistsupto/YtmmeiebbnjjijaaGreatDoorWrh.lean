/- Wrh -/
import Derived.Test.YtmmeiebbnjjijaaGreatDoorWrf
import Derived.Test.YtmmeiebbnjjijaaGreatDoorWin
namespace Go.Proofs.YtmmeiebbnjjijaaGreatDoor
open Go.RowKit Go.Deep
set_option linter.unusedVariables false
theorem add_len {X Y k:Nat} (h1:(limbs X).length ≤ k) (h2:(limbs Y).length ≤ k):(limbs (X + Y)).length ≤ k + 1:=by
 refine limbs_len ?_
 have a1:=limbs_lt X
 have a2:=limbs_lt Y
 have h3:4294967296 ^ (limbs X).length ≤ 4294967296 ^ k:=Nat.pow_le_pow_right (by decide) h1
 have h4:4294967296 ^ (limbs Y).length ≤ 4294967296 ^ k:=Nat.pow_le_pow_right (by decide) h2
 rw [Nat.pow_succ]
 generalize 4294967296 ^ k = T at *
 omega

set_option maxRecDepth 100000 in
set_option maxHeartbeats 16000000 in
theorem wplus_any (g1 g2:Bool) (a1 b1 a2 b2:Option Addr) (n1 c1 m1 d1 n2 c2 m2 d2:Nat) (x1 y1 x2 y2:List Nat) (w:World) (hx1:Sl w a1 n1 c1 x1) (hy1:Sl w b1 m1 d1 y1) (hx2:Sl w a2 n2 c2 x2) (hy2:Sl w b2 m2 d2 y2) (ox1:Ok x1) (oy1:Ok y1) (ox2:Ok x2) (oy2:Ok y2) (nx1:Norm x1) (ny1:Norm y1) (nx2:Norm x2) (ny2:Norm y2) (ey1:y1 ≠ []) (ey2:y2 ≠ []) (s1:n1 ≤ 1000000) (s2:m1 ≤ 1000000) (s3:n2 ≤ 1000000) (s4:m2 ≤ 1000000) :
  Calls Tryz.prog 128 #[ratV g1 a1 n1 c1 b1 m1 d1,ratV g2 a2 n2 c2 b2 m2 d2] w fun e w' => ResF w w' (lowF (cmbV g1 (val x1 * val y2) g2 (val x2 * val y1)).2 (cmbV g1 (val x1 * val y2) g2 (val x2 * val y1)).1 (val y1 * val y2)) e:=by
 obtain ⟨⟨⟨SG,LN,LD⟩,ER⟩,hFF⟩:∃ r,lowF (cmbV g1 (val x1 * val y2) g2 (val x2 * val y1)).2 (cmbV g1 (val x1 * val y2) g2 (val x2 * val y1)).1 (val y1 * val y2) = r:=⟨_,rfl⟩
 rw [hFF]
 unfold ResF
 dsimp only
 have bx:=Box.made w g1 a1 n1 c1 b1 m1 d1
 obtain ⟨wa,hwa⟩:∃ wa,ratBox w g1 a1 n1 c1 b1 m1 d1 = wa:=⟨_,rfl⟩
 rw [hwa] at bx
 have by_:=Box.made wa g2 a2 n2 c2 b2 m2 d2
 obtain ⟨wb,hwb⟩:∃ wb,ratBox wa g2 a2 n2 c2 b2 m2 d2 = wb:=⟨_,rfl⟩
 rw [hwb] at by_
 have hba:Below w.heap.size w wa:=by rw [← hwa]; exact bAl
 have hbb:Below wa.heap.size wa wb:=by rw [← hwb]; exact bAl
 unfold ratBox at hwa hwb
 obtain ⟨wo,hwo⟩:∃ x,wb.alloc (.cells #[.bool false,.slice none 0 0,.slice none 0 0] 25) = x:=⟨_,rfl⟩
 have hbo:Below wb.heap.size wb wo:=by rw [← hwo]; exact bAl
 have hO:Out wo wb.heap.size:=by rw [← hwo]; exact Out.made wb
 have bx2:=(bx.keep hbb).keep hbo
 have by2:=by_.keep hbo
 have hB:=(hba.trans (hbb.mono hba.size)).trans (hbo.mono (Nat.le_trans hba.size hbb.size))
 have hRw:w.heap.size ≤ wb.heap.size:=Nat.le_trans hba.size hbb.size
 have hlab:w.heap.size ≠ wa.heap.size:=by have:=bx.lt; omega
 have hlab2:w.heap.size < wb.heap.size:=Nat.lt_of_lt_of_le bx.lt hbb.size
 have hlab3:wa.heap.size < wb.heap.size:=by_.lt
 have hne1:w.heap.size ≠ wb.heap.size:=by omega
 have hne2:wa.heap.size ≠ wb.heap.size:=by omega
 have hne3:wb.heap.size ≠ w.heap.size:=by omega
 have hne4:wb.heap.size ≠ wa.heap.size:=by omega
 have p0:=bx2.d0
 have p1:=bx2.d1
 have p2:=bx2.d2
 have p3:=by2.d0
 have p4:=by2.d1
 have p5:=by2.d2
 have HRw:=Hd hRw
 have HO:=Hd hO
 have HBo:=Hd hB
 have HB_0:=Hd (Below.refl wo.heap.size wo)
 have HM1:=Hd (fun (W:World) (hb:Below wo.heap.size wo W) => wmulw_any a1 b2 n1 c1 m2 d2 x1 y2 W ((hx1.below hB).below hb) ((hy2.below hB).below hb) ox1 oy2 (by omega))
 have HM2:=Hd (fun (W:World) (hb:Below wo.heap.size wo W) => wmulw_any a2 b1 n2 c2 m1 d1 x2 y1 W ((hx2.below hB).below hb) ((hy1.below hB).below hb) ox2 oy1 (by omega))
 have HM3:=Hd (fun (W:World) (hb:Below wo.heap.size wo W) => wmulw_any b1 b2 m1 d1 m2 d2 y1 y2 W ((hy1.below hB).below hb) ((hy2.below hB).below hb) oy1 oy2 (by omega))
 have HYP:=Hd (Nat.mul_pos (Nat.pos_of_ne_zero (val_ne ny1 ey1)) (Nat.pos_of_ne_zero (val_ne ny2 ey2)))
 have HL1:=Hd (mul_len ox1 oy2)
 have HL2:=Hd (mul_len ox2 oy1)
 have HL3:=Hd (mul_len oy1 oy2)
 have HLN:=Hd (And.intro hx1.len (And.intro hy1.len (And.intro hx2.len hy2.len)))
 clear hx1 hy1 hx2 hy2 bx by_ bx2 by2 hba hbb hbo hB hO ey1 ey2 nx1 ny1 nx2 ny2
 obtain ⟨XX,hXX⟩:∃ r,val x1 * val y2 = r:=⟨_,rfl⟩
 obtain ⟨YY,hYY⟩:∃ r,val x2 * val y1 = r:=⟨_,rfl⟩
 obtain ⟨DD,hDD⟩:∃ r,val y1 * val y2 = r:=⟨_,rfl⟩
 rw [hXX] at HM1 HL1 hFF
 rw [hYY] at HM2 HL2 hFF
 rw [hDD] at HM3 HL3 HYP hFF
 have HBX:=Hd (show (limbs XX).length ≤ 2000000 by have:=Uh HL1; have:=Uh HLN; omega)
 have HBY:=Hd (show (limbs YY).length ≤ 2000000 by have:=Uh HL2; have:=Uh HLN; omega)
 have HBD:=Hd (show (limbs DD).length ≤ 2000000 by have:=Uh HL3; have:=Uh HLN; omega)
 clear hXX hYY hDD HL1 HL2 HL3 HLN
 unfold ratV
 have hSum:g1 = g2 → lowF g1 (XX + YY) DD = ((SG,LN,LD),ER):=fun h => by rw [← hFF]; unfold cmbV; rw [if_pos h]
 have hDif:g1 ≠ g2 → YY ≤ XX → lowF g1 (XX - YY) DD = ((SG,LN,LD),ER):=fun h h' => by rw [← hFF]; unfold cmbV; rw [if_neg h,if_neg (by omega)]
 have hDif2:g1 ≠ g2 → XX < YY → lowF g2 (YY - XX) DD = ((SG,LN,LD),ER):=fun h h' => by rw [← hFF]; unfold cmbV; rw [if_neg h,if_pos h']
 have HSum:=Hd hSum
 have HDif:=Hd hDif
 have HDif2:=Hd hDif2
 clear hFF hSum hDif hDif2
 by_cases hg:g1 = g2
 ·have tg:(g1 == g2) = true:=by simp [hg]
  have HR:=Hd (Uh HSum hg)
  clear hg HSum HDif HDif2
  go_enter Tryz.func128,Tryz.ntmps128
  go_wp2_with fail
  refine (Uh HM1 _ (Uh HB_0)).mono ?_
  rintro _ w1 ⟨aX,mX,cX,rfl,s_,n_,h_,b_⟩
  have e0:=(ck b_ p0)
  have e1:=(ck b_ p1)
  have e2:=(ck b_ p2)
  have e3:=(ck b_ p3)
  have e4:=(ck b_ p4)
  have e5:=(ck b_ p5)
  have HB_1:=Hd ((Uh HB_0).trans (b_.mono (Uh HB_0).size))
  have hlX:=s_.len
  have SX:=Hd s_
  have NX:=Hd h_
  clear s_ n_ h_ b_ HM1 p0 p1 p2 p3 p4 p5
  go_wp2_with fail
  refine (Uh HM2 _ (Uh HB_1)).mono ?_
  rintro _ w2 ⟨aY,mY,cY,rfl,s_,n_,h_,b_⟩
  have h0:=(ck b_ e0)
  have h1:=(ck b_ e1)
  have h2:=(ck b_ e2)
  have h3:=(ck b_ e3)
  have h4:=(ck b_ e4)
  have h5:=(ck b_ e5)
  have HB_2:=Hd ((Uh HB_1).trans (b_.mono (Uh HB_1).size))
  have hlY:=s_.len
  have SX:=Hd ((Uh SX).below b_)
  have SY:=Hd s_
  have NY:=Hd h_
  clear s_ n_ h_ b_ HM2 e0 e1 e2 e3 e4 e5
  go_wp2_with fail
  refine (Uh HM3 _ (Uh HB_2)).mono ?_
  rintro _ w3 ⟨aD,mD,cD,rfl,s_,n_,h_,b_⟩
  have f0:=(ck b_ h0)
  have f1:=(ck b_ h1)
  have f2:=(ck b_ h2)
  have f3:=(ck b_ h3)
  have f4:=(ck b_ h4)
  have f5:=(ck b_ h5)
  have HB_3:=Hd ((Uh HB_2).trans (b_.mono (Uh HB_2).size))
  have hlD:=s_.len
  have SX:=Hd ((Uh SX).below b_)
  have SY:=Hd ((Uh SY).below b_)
  have SD:=Hd s_
  have ND:=Hd h_
  clear s_ n_ h_ b_ HM3 h0 h1 h2 h3 h4 h5
  have KA:=waddw_any aX aY mX cX mY cY (limbs XX) (limbs YY)
  have HKA:=Hd (fun (W:World) (hb:Below w3.heap.size w3 W) => KA W ((Uh SX).below hb) ((Uh SY).below hb) (limbs_ok _) (limbs_ok _) (by have:=Uh HBX; omega) (by have:=Uh HBY; omega))
  have HBL3:=HB_3
  have hsl:(limbs (XX + YY)).length ≤ 4000001:=by have:=add_len (Uh HBX) (Uh HBY); omega
  have HSL:=Hd hsl
  clear KA hsl
  rw [limbs_v,limbs_v] at HKA
  go_wp2_with fail
  go_region_held3 (fun w' => w'.cell? ⟨w.heap.size,0,none⟩ = some (.bool g1) ∧ w'.cell? ⟨w.heap.size,1,none⟩ = some (.slice a1 n1 c1) ∧ w'.cell? ⟨w.heap.size,2,none⟩ = some (.slice b1 m1 d1) ∧ w'.cell? ⟨wa.heap.size,0,none⟩ = some (.bool g2) ∧ w'.cell? ⟨wa.heap.size,1,none⟩ = some (.slice a2 n2 c2) ∧ w'.cell? ⟨wa.heap.size,2,none⟩ = some (.slice b2 m2 d2)) (first | go_keep | (exact ⟨k0,k1,k2,k3,k4,k5⟩) | (exact ⟨i0,i1,i2,i3,i4,i5⟩))
   (first
    | (go_at_call_of 134 (Value.slice aX mX cX); refine (Uh HKA _ (Below.refl _ _).drew).mono ?_; rintro _ wk ⟨aq,mq,cq,rfl,sq,nq,hq,bl_k⟩; have hb_k:Below w3.heap.size w3 wk:=(Below.refl _ _).drew.trans bl_k; have k0:=(ck hb_k f0); have k1:=(ck hb_k f1); have k2:=(ck hb_k f2); have k3:=(ck hb_k f3); have k4:=(ck hb_k f4); have k5:=(ck hb_k f5); have SQ:=Hd sq; have hlq:=sq.len; have SDk:=Hd ((Uh SD).below hb_k); clear sq nq hq; have HB_k:=Hd hb_k; clear hb_k bl_k)
    | (go_at_call 70; have KL:=wlower_any g1 aq aD mq cq mD cD (limbs (XX + YY)) (limbs DD) wk (Uh SQ) (Uh SDk) (limbs_ok _) (limbs_ok _) (limbs_norm _) (limbs_norm _) (fun e => by have:=limbs_eq_nil.1 e; have:=Uh HYP; omega) (by have:=Uh HSL; omega) (by have:=Uh HBD; omega); rw [limbs_v,limbs_v,Uh HR] at KL; unfold ResF at KL; dsimp only at KL; refine KL.mono ?_; clear KL; rintro _ wi ⟨vv,rfl,aN,mN,cN,aE,mE,cE,rfl,sN,sD,nN,nD,bl_i⟩; unfold ratV; have i0:=(ck bl_i k0); have i1:=(ck bl_i k1); have i2:=(ck bl_i k2); have i3:=(ck bl_i k3); have i4:=(ck bl_i k4); have i5:=(ck bl_i k5); have hzz:wb.heap.size + 1 ≤ wk.heap.size:=Nat.le_trans (Uh HO).lt (Nat.le_trans (Uh HBL3).size (Uh HB_k).size); have HS3:=Hd (And.intro sN (And.intro (show NewAt (wb.heap.size + 1) aN from fun x hx => Nat.le_trans hzz (nN x hx)) (And.intro sD (show NewAt (wb.heap.size + 1) aE from fun x hx => Nat.le_trans hzz (nD x hx))))); have hb_i:=(Uh HB_k).trans (bl_i.mono (Uh HB_k).size); have HB_i:=Hd hb_i; have hO3:=(Uh HO).keep ((Uh HBL3).trans (hb_i.mono (Uh HBL3).size)); obtain ⟨x0,q0⟩:=hO3.cells 0 (by decide); obtain ⟨x1',q1⟩:=hO3.cells 1 (by decide); obtain ⟨x2',q2⟩:=hO3.cells 2 (by decide); have r0:=hO3.fz 0 (by decide); have r1:=hO3.fz 1 (by decide); have r2:=hO3.fz 2 (by decide); have HO3:=Hd hO3; clear sN sD nN nD bl_i hb_i hO3))
  have H4:=Hd (three_set wi wb.heap.size (.bool SG) (.slice aN mN cN) (.slice aE mE cE) (Uh HO3).cells)
  have HB3:=Hd ((Uh HBo).trans (((Uh HBL3).trans ((Uh HB_i).mono (Uh HBL3).size)).mono (Uh HBo).size))
  clear q0 q1 q2 r0 r1 r2
  try go_wp2_with fail
  obtain ⟨t0,t1,t2,c4⟩:=Uh H4
  generalize ((wi.setCell ⟨wb.heap.size,0,none⟩ (.bool SG)).setCell ⟨wb.heap.size,1,none⟩ (.slice aN mN cN)).setCell ⟨wb.heap.size,2,none⟩ (.slice aE mE cE) = wf at *
  refine bodyPost_ret (by simp [results,Tryz.results128,go_sem,t0,t1,t2]; try rfl) rfl ?_
  obtain ⟨sN,nN,sD,nD⟩:=Uh HS3
  exact ⟨_,rfl,newR_of (Uh HRw) (Uh HO3).lt (Uh HB3) sN nN sD nD c4 SG⟩
 ·have tg:(g1 == g2) = false:=by simp [hg]
  have HBL3:=HB_0
  clear HBL3 HSum
  by_cases hc:XX < YY
  ·have HR:=Hd (Uh HDif2 hg hc)
   have hcg:cmpN XX YY < 0:=by rw [cmpN_lt hc]; decide
   have hle:XX ≤ YY:=Nat.le_of_lt hc
   have hcg2:¬ (0:Int) ≤ cmpN XX YY:=by omega
   clear hg HDif HDif2
   go_enter Tryz.func128,Tryz.ntmps128
   go_wp2_with fail
   refine (Uh HM1 _ (Uh HB_0)).mono ?_
   rintro _ w1 ⟨aX,mX,cX,rfl,s_,n_,h_,b_⟩
   have e0:=(ck b_ p0)
   have e1:=(ck b_ p1)
   have e2:=(ck b_ p2)
   have e3:=(ck b_ p3)
   have e4:=(ck b_ p4)
   have e5:=(ck b_ p5)
   have HB_1:=Hd ((Uh HB_0).trans (b_.mono (Uh HB_0).size))
   have hlX:=s_.len
   have SX:=Hd s_
   have NX:=Hd h_
   clear s_ n_ h_ b_ HM1 p0 p1 p2 p3 p4 p5
   go_wp2_with fail
   refine (Uh HM2 _ (Uh HB_1)).mono ?_
   rintro _ w2 ⟨aY,mY,cY,rfl,s_,n_,h_,b_⟩
   have h0:=(ck b_ e0)
   have h1:=(ck b_ e1)
   have h2:=(ck b_ e2)
   have h3:=(ck b_ e3)
   have h4:=(ck b_ e4)
   have h5:=(ck b_ e5)
   have HB_2:=Hd ((Uh HB_1).trans (b_.mono (Uh HB_1).size))
   have hlY:=s_.len
   have SX:=Hd ((Uh SX).below b_)
   have SY:=Hd s_
   have NY:=Hd h_
   clear s_ n_ h_ b_ HM2 e0 e1 e2 e3 e4 e5
   go_wp2_with fail
   refine (Uh HM3 _ (Uh HB_2)).mono ?_
   rintro _ w3 ⟨aD,mD,cD,rfl,s_,n_,h_,b_⟩
   have f0:=(ck b_ h0)
   have f1:=(ck b_ h1)
   have f2:=(ck b_ h2)
   have f3:=(ck b_ h3)
   have f4:=(ck b_ h4)
   have f5:=(ck b_ h5)
   have HB_3:=Hd ((Uh HB_2).trans (b_.mono (Uh HB_2).size))
   have hlD:=s_.len
   have SX:=Hd ((Uh SX).below b_)
   have SY:=Hd ((Uh SY).below b_)
   have SD:=Hd s_
   have ND:=Hd h_
   clear s_ n_ h_ b_ HM3 h0 h1 h2 h3 h4 h5
   have KC:=wcmp_any aX aY mX cX mY cY (limbs XX) (limbs YY) w3 (Uh SX) (Uh SY) (limbs_ok _) (limbs_ok _) (limbs_norm _) (limbs_norm _) (by have:=Uh HBX; omega) (by have:=Uh HBY; omega)
   rw [limbs_v,limbs_v] at KC
   have HKC:=Hd KC
   clear KC hc
   generalize cmpN XX YY = cc at *
   go_wp2_with fail
   refine (Uh HKC).mono ?_
   rintro _ w4 ⟨rfl,jj,hw4⟩
   have b_:Below w3.heap.size w3 w4:=by rw [hw4]; exact bel_drewN (Below.refl _ _) jj
   have u0:=(ck b_ f0)
   have u1:=(ck b_ f1)
   have u2:=(ck b_ f2)
   have u3:=(ck b_ f3)
   have u4:=(ck b_ f4)
   have u5:=(ck b_ f5)
   have HB_4:=Hd ((Uh HB_3).trans (b_.mono (Uh HB_3).size))
   have SX:=Hd ((Uh SX).below b_)
   have SY:=Hd ((Uh SY).below b_)
   have SD:=Hd ((Uh SD).below b_)
   clear b_ hw4 HKC f0 f1 f2 f3 f4 f5
   have KA:=wsubw_any aY aX mY cY mX cX (limbs YY) (limbs XX)
   have HKA:=Hd (fun (W:World) (hb:Below w4.heap.size w4 W) => KA W ((Uh SY).below hb) (Uh NY) ((Uh SX).below hb) (limbs_ok _) (limbs_ok _) (by have:=Uh HBY; omega) (by have:=limbs_mono hle; omega) (by rw [limbs_v,limbs_v]; exact hle))
   have HBL3:=HB_4
   have HSL:=Hd (show (limbs (YY - XX)).length ≤ 4000001 by have h1:=limbs_mono (show YY - XX ≤ YY by omega); have:=Uh HBY; omega)
   clear KA
   rw [limbs_v,limbs_v] at HKA
   go_wp2_with fail
   go_region_held3 (fun w' => w'.cell? ⟨w.heap.size,0,none⟩ = some (.bool g1) ∧ w'.cell? ⟨w.heap.size,1,none⟩ = some (.slice a1 n1 c1) ∧ w'.cell? ⟨w.heap.size,2,none⟩ = some (.slice b1 m1 d1) ∧ w'.cell? ⟨wa.heap.size,0,none⟩ = some (.bool g2) ∧ w'.cell? ⟨wa.heap.size,1,none⟩ = some (.slice a2 n2 c2) ∧ w'.cell? ⟨wa.heap.size,2,none⟩ = some (.slice b2 m2 d2)) (first | go_keep | (exact ⟨k0,k1,k2,k3,k4,k5⟩) | (exact ⟨i0,i1,i2,i3,i4,i5⟩))
    (first
     | (go_at_call_of 174 (Value.slice aY mY cY); refine (Uh HKA _ (Below.refl _ _).drew).mono ?_; rintro _ wk ⟨aq,mq,cq,rfl,sq,nq,hq,bl_k⟩; have hb_k:Below w4.heap.size w4 wk:=(Below.refl _ _).drew.trans bl_k; have k0:=(ck hb_k u0); have k1:=(ck hb_k u1); have k2:=(ck hb_k u2); have k3:=(ck hb_k u3); have k4:=(ck hb_k u4); have k5:=(ck hb_k u5); have SQ:=Hd sq; have hlq:=sq.len; have SDk:=Hd ((Uh SD).below hb_k); clear sq nq hq; have HB_k:=Hd hb_k; clear hb_k bl_k)
     | (go_at_call 70; have KL:=wlower_any g2 aq aD mq cq mD cD (limbs (YY - XX)) (limbs DD) wk (Uh SQ) (Uh SDk) (limbs_ok _) (limbs_ok _) (limbs_norm _) (limbs_norm _) (fun e => by have:=limbs_eq_nil.1 e; have:=Uh HYP; omega) (by have:=Uh HSL; omega) (by have:=Uh HBD; omega); rw [limbs_v,limbs_v,Uh HR] at KL; unfold ResF at KL; dsimp only at KL; refine KL.mono ?_; clear KL; rintro _ wi ⟨vv,rfl,aN,mN,cN,aE,mE,cE,rfl,sN,sD,nN,nD,bl_i⟩; unfold ratV; have i0:=(ck bl_i k0); have i1:=(ck bl_i k1); have i2:=(ck bl_i k2); have i3:=(ck bl_i k3); have i4:=(ck bl_i k4); have i5:=(ck bl_i k5); have hzz:wb.heap.size + 1 ≤ wk.heap.size:=Nat.le_trans (Uh HO).lt (Nat.le_trans (Uh HBL3).size (Uh HB_k).size); have HS3:=Hd (And.intro sN (And.intro (show NewAt (wb.heap.size + 1) aN from fun x hx => Nat.le_trans hzz (nN x hx)) (And.intro sD (show NewAt (wb.heap.size + 1) aE from fun x hx => Nat.le_trans hzz (nD x hx))))); have hb_i:=(Uh HB_k).trans (bl_i.mono (Uh HB_k).size); have HB_i:=Hd hb_i; have hO3:=(Uh HO).keep ((Uh HBL3).trans (hb_i.mono (Uh HBL3).size)); obtain ⟨x0,q0⟩:=hO3.cells 0 (by decide); obtain ⟨x1',q1⟩:=hO3.cells 1 (by decide); obtain ⟨x2',q2⟩:=hO3.cells 2 (by decide); have r0:=hO3.fz 0 (by decide); have r1:=hO3.fz 1 (by decide); have r2:=hO3.fz 2 (by decide); have HO3:=Hd hO3; clear sN sD nN nD bl_i hb_i hO3))
   have H4:=Hd (three_set wi wb.heap.size (.bool SG) (.slice aN mN cN) (.slice aE mE cE) (Uh HO3).cells)
   have HB3:=Hd ((Uh HBo).trans (((Uh HBL3).trans ((Uh HB_i).mono (Uh HBL3).size)).mono (Uh HBo).size))
   clear q0 q1 q2 r0 r1 r2
   try go_wp2_with fail
   obtain ⟨t0,t1,t2,c4⟩:=Uh H4
   generalize ((wi.setCell ⟨wb.heap.size,0,none⟩ (.bool SG)).setCell ⟨wb.heap.size,1,none⟩ (.slice aN mN cN)).setCell ⟨wb.heap.size,2,none⟩ (.slice aE mE cE) = wf at *
   refine bodyPost_ret (by simp [results,Tryz.results128,go_sem,t0,t1,t2]; try rfl) rfl ?_
   obtain ⟨sN,nN,sD,nD⟩:=Uh HS3
   exact ⟨_,rfl,newR_of (Uh HRw) (Uh HO3).lt (Uh HB3) sN nN sD nD c4 SG⟩
  ·have HR:=Hd (Uh HDif hg (by omega))
   have hcg:(0:Int) ≤ cmpN XX YY:=by unfold cmpN; rw [if_neg hc]; split <;> omega
   have hle:YY ≤ XX:=by omega
   clear hg HDif HDif2
   go_enter Tryz.func128,Tryz.ntmps128
   go_wp2_with fail
   refine (Uh HM1 _ (Uh HB_0)).mono ?_
   rintro _ w1 ⟨aX,mX,cX,rfl,s_,n_,h_,b_⟩
   have e0:=(ck b_ p0)
   have e1:=(ck b_ p1)
   have e2:=(ck b_ p2)
   have e3:=(ck b_ p3)
   have e4:=(ck b_ p4)
   have e5:=(ck b_ p5)
   have HB_1:=Hd ((Uh HB_0).trans (b_.mono (Uh HB_0).size))
   have hlX:=s_.len
   have SX:=Hd s_
   have NX:=Hd h_
   clear s_ n_ h_ b_ HM1 p0 p1 p2 p3 p4 p5
   go_wp2_with fail
   refine (Uh HM2 _ (Uh HB_1)).mono ?_
   rintro _ w2 ⟨aY,mY,cY,rfl,s_,n_,h_,b_⟩
   have h0:=(ck b_ e0)
   have h1:=(ck b_ e1)
   have h2:=(ck b_ e2)
   have h3:=(ck b_ e3)
   have h4:=(ck b_ e4)
   have h5:=(ck b_ e5)
   have HB_2:=Hd ((Uh HB_1).trans (b_.mono (Uh HB_1).size))
   have hlY:=s_.len
   have SX:=Hd ((Uh SX).below b_)
   have SY:=Hd s_
   have NY:=Hd h_
   clear s_ n_ h_ b_ HM2 e0 e1 e2 e3 e4 e5
   go_wp2_with fail
   refine (Uh HM3 _ (Uh HB_2)).mono ?_
   rintro _ w3 ⟨aD,mD,cD,rfl,s_,n_,h_,b_⟩
   have f0:=(ck b_ h0)
   have f1:=(ck b_ h1)
   have f2:=(ck b_ h2)
   have f3:=(ck b_ h3)
   have f4:=(ck b_ h4)
   have f5:=(ck b_ h5)
   have HB_3:=Hd ((Uh HB_2).trans (b_.mono (Uh HB_2).size))
   have hlD:=s_.len
   have SX:=Hd ((Uh SX).below b_)
   have SY:=Hd ((Uh SY).below b_)
   have SD:=Hd s_
   have ND:=Hd h_
   clear s_ n_ h_ b_ HM3 h0 h1 h2 h3 h4 h5
   have KC:=wcmp_any aX aY mX cX mY cY (limbs XX) (limbs YY) w3 (Uh SX) (Uh SY) (limbs_ok _) (limbs_ok _) (limbs_norm _) (limbs_norm _) (by have:=Uh HBX; omega) (by have:=Uh HBY; omega)
   rw [limbs_v,limbs_v] at KC
   have HKC:=Hd KC
   clear KC hc
   generalize cmpN XX YY = cc at *
   go_wp2_with fail
   refine (Uh HKC).mono ?_
   rintro _ w4 ⟨rfl,jj,hw4⟩
   have b_:Below w3.heap.size w3 w4:=by rw [hw4]; exact bel_drewN (Below.refl _ _) jj
   have u0:=(ck b_ f0)
   have u1:=(ck b_ f1)
   have u2:=(ck b_ f2)
   have u3:=(ck b_ f3)
   have u4:=(ck b_ f4)
   have u5:=(ck b_ f5)
   have HB_4:=Hd ((Uh HB_3).trans (b_.mono (Uh HB_3).size))
   have SX:=Hd ((Uh SX).below b_)
   have SY:=Hd ((Uh SY).below b_)
   have SD:=Hd ((Uh SD).below b_)
   clear b_ hw4 HKC f0 f1 f2 f3 f4 f5
   have KA:=wsubw_any aX aY mX cX mY cY (limbs XX) (limbs YY)
   have HKA:=Hd (fun (W:World) (hb:Below w4.heap.size w4 W) => KA W ((Uh SX).below hb) (Uh NX) ((Uh SY).below hb) (limbs_ok _) (limbs_ok _) (by have:=Uh HBX; omega) (by have:=limbs_mono hle; omega) (by rw [limbs_v,limbs_v]; exact hle))
   have HBL3:=HB_4
   have HSL:=Hd (show (limbs (XX - YY)).length ≤ 4000001 by have h1:=limbs_mono (show XX - YY ≤ XX by omega); have:=Uh HBX; omega)
   clear KA
   rw [limbs_v,limbs_v] at HKA
   go_wp2_with fail
   go_region_held3 (fun w' => w'.cell? ⟨w.heap.size,0,none⟩ = some (.bool g1) ∧ w'.cell? ⟨w.heap.size,1,none⟩ = some (.slice a1 n1 c1) ∧ w'.cell? ⟨w.heap.size,2,none⟩ = some (.slice b1 m1 d1) ∧ w'.cell? ⟨wa.heap.size,0,none⟩ = some (.bool g2) ∧ w'.cell? ⟨wa.heap.size,1,none⟩ = some (.slice a2 n2 c2) ∧ w'.cell? ⟨wa.heap.size,2,none⟩ = some (.slice b2 m2 d2)) (first | go_keep | (exact ⟨k0,k1,k2,k3,k4,k5⟩) | (exact ⟨i0,i1,i2,i3,i4,i5⟩))
    (first
     | (go_at_call_of 174 (Value.slice aX mX cX); refine (Uh HKA _ (Below.refl _ _).drew).mono ?_; rintro _ wk ⟨aq,mq,cq,rfl,sq,nq,hq,bl_k⟩; have hb_k:Below w4.heap.size w4 wk:=(Below.refl _ _).drew.trans bl_k; have k0:=(ck hb_k u0); have k1:=(ck hb_k u1); have k2:=(ck hb_k u2); have k3:=(ck hb_k u3); have k4:=(ck hb_k u4); have k5:=(ck hb_k u5); have SQ:=Hd sq; have hlq:=sq.len; have SDk:=Hd ((Uh SD).below hb_k); clear sq nq hq; have HB_k:=Hd hb_k; clear hb_k bl_k)
     | (go_at_call 70; have KL:=wlower_any g1 aq aD mq cq mD cD (limbs (XX - YY)) (limbs DD) wk (Uh SQ) (Uh SDk) (limbs_ok _) (limbs_ok _) (limbs_norm _) (limbs_norm _) (fun e => by have:=limbs_eq_nil.1 e; have:=Uh HYP; omega) (by have:=Uh HSL; omega) (by have:=Uh HBD; omega); rw [limbs_v,limbs_v,Uh HR] at KL; unfold ResF at KL; dsimp only at KL; refine KL.mono ?_; clear KL; rintro _ wi ⟨vv,rfl,aN,mN,cN,aE,mE,cE,rfl,sN,sD,nN,nD,bl_i⟩; unfold ratV; have i0:=(ck bl_i k0); have i1:=(ck bl_i k1); have i2:=(ck bl_i k2); have i3:=(ck bl_i k3); have i4:=(ck bl_i k4); have i5:=(ck bl_i k5); have hzz:wb.heap.size + 1 ≤ wk.heap.size:=Nat.le_trans (Uh HO).lt (Nat.le_trans (Uh HBL3).size (Uh HB_k).size); have HS3:=Hd (And.intro sN (And.intro (show NewAt (wb.heap.size + 1) aN from fun x hx => Nat.le_trans hzz (nN x hx)) (And.intro sD (show NewAt (wb.heap.size + 1) aE from fun x hx => Nat.le_trans hzz (nD x hx))))); have hb_i:=(Uh HB_k).trans (bl_i.mono (Uh HB_k).size); have HB_i:=Hd hb_i; have hO3:=(Uh HO).keep ((Uh HBL3).trans (hb_i.mono (Uh HBL3).size)); obtain ⟨x0,q0⟩:=hO3.cells 0 (by decide); obtain ⟨x1',q1⟩:=hO3.cells 1 (by decide); obtain ⟨x2',q2⟩:=hO3.cells 2 (by decide); have r0:=hO3.fz 0 (by decide); have r1:=hO3.fz 1 (by decide); have r2:=hO3.fz 2 (by decide); have HO3:=Hd hO3; clear sN sD nN nD bl_i hb_i hO3))
   have H4:=Hd (three_set wi wb.heap.size (.bool SG) (.slice aN mN cN) (.slice aE mE cE) (Uh HO3).cells)
   have HB3:=Hd ((Uh HBo).trans (((Uh HBL3).trans ((Uh HB_i).mono (Uh HBL3).size)).mono (Uh HBo).size))
   clear q0 q1 q2 r0 r1 r2
   try go_wp2_with fail
   obtain ⟨t0,t1,t2,c4⟩:=Uh H4
   generalize ((wi.setCell ⟨wb.heap.size,0,none⟩ (.bool SG)).setCell ⟨wb.heap.size,1,none⟩ (.slice aN mN cN)).setCell ⟨wb.heap.size,2,none⟩ (.slice aE mE cE) = wf at *
   refine bodyPost_ret (by simp [results,Tryz.results128,go_sem,t0,t1,t2]; try rfl) rfl ?_
   obtain ⟨sN,nN,sD,nD⟩:=Uh HS3
   exact ⟨_,rfl,newR_of (Uh HRw) (Uh HO3).lt (Uh HB3) sN nN sD nD c4 SG⟩
end Go.Proofs.YtmmeiebbnjjijaaGreatDoor
