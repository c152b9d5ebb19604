/- Wrh -/
import Derived.Test.YtgfpfjghdbcihaaGreatDoorWrf
import Derived.Test.YtgfpfjghdbcihaaGreatDoorWin
import Derived.Test.YtgfpfjghdbcihaaGreatDoorPa2
import Derived.Test.YtgfpfjghdbcihaaGreatDoorWrd
import Derived.Test.YtgfpfjghdbcihaaGreatDoorWij
import Derived.Test.YtgfpfjghdbcihaaGreatDoorRv4
import Derived.Test.YtgfpfjghdbcihaaGreatDoorWr1
import Derived.Test.YtgfpfjghdbcihaaGreatDoorRl4
import Derived.Deep.RegionHeld3
import Derived.Test.YtgfpfjghdbcihaaGreatDoorWi2
namespace Go.Proofs.YtgfpfjghdbcihaaGreatDoor
open Go.RowKit Go.Deep
set_option linter.unusedVariables false
theorem add_len {X Y k:Nat} (h1:(limbs X).length ≤ k) (h2:(limbs Y).length ≤ k):(limbs (X + Y)).length ≤ k + 1:=by
 refine limbs_len ?_
 have a1:=limbs_lt X
 have a2:=limbs_lt Y
 have h3:4294967296 ^ (limbs X).length ≤ 4294967296 ^ k:=Nat.pow_le_pow_right (by decide) h1
 have h4:4294967296 ^ (limbs Y).length ≤ 4294967296 ^ k:=Nat.pow_le_pow_right (by decide) h2
 rw [Nat.pow_succ]
 generalize 4294967296 ^ k = T at *
 omega

set_option maxRecDepth 100000 in
set_option maxHeartbeats 16000000 in
theorem wplus_any (g1 g2:Bool) (a1 b1 a2 b2:Option Addr) (n1 c1 m1 d1 n2 c2 m2 d2:Nat) (x1 y1 x2 y2:List Nat) (w:World) (hx1:Sl w a1 n1 c1 x1) (hy1:Sl w b1 m1 d1 y1) (hx2:Sl w a2 n2 c2 x2) (hy2:Sl w b2 m2 d2 y2) (ox1:Ok x1) (oy1:Ok y1) (ox2:Ok x2) (oy2:Ok y2) (nx1:Norm x1) (ny1:Norm y1) (nx2:Norm x2) (ny2:Norm y2) (ey1:y1 ≠ []) (ey2:y2 ≠ []) (s1:n1 ≤ 1000000) (s2:m1 ≤ 1000000) (s3:n2 ≤ 1000000) (s4:m2 ≤ 1000000) :
  Calls Tryz.prog 94 #[ratV g1 a1 n1 c1 b1 m1 d1,ratV g2 a2 n2 c2 b2 m2 d2] w fun e w' => ResF w w' (lowF (cmbV g1 (val x1 * val y2) g2 (val x2 * val y1)).2 (cmbV g1 (val x1 * val y2) g2 (val x2 * val y1)).1 (val y1 * val y2)) e:=by
 obtain ⟨⟨⟨SG,LN,LD⟩,ER⟩,hFF⟩:∃ r,lowF (cmbV g1 (val x1 * val y2) g2 (val x2 * val y1)).2 (cmbV g1 (val x1 * val y2) g2 (val x2 * val y1)).1 (val y1 * val y2) = r:=⟨_,rfl⟩
 rw [hFF]
 unfold ResF
 dsimp only
 have bx:=Box.made w g1 a1 n1 c1 b1 m1 d1
 obtain ⟨wa,hwa⟩:∃ wa,ratBox w g1 a1 n1 c1 b1 m1 d1 = wa:=⟨_,rfl⟩
 rw [hwa] at bx
 have by_:=Box.made wa g2 a2 n2 c2 b2 m2 d2
 obtain ⟨wb,hwb⟩:∃ wb,ratBox wa g2 a2 n2 c2 b2 m2 d2 = wb:=⟨_,rfl⟩
 rw [hwb] at by_
 have hba:Below w.heap.size w wa:=by rw [← hwa]; exact bAl
 have hbb:Below wa.heap.size wa wb:=by rw [← hwb]; exact bAl
 unfold ratBox at hwa hwb
 obtain ⟨wo,hwo⟩:∃ x,wb.alloc (.cells #[.bool false,.slice none 0 0,.slice none 0 0] 25) = x:=⟨_,rfl⟩
 have hbo:Below wb.heap.size wb wo:=by rw [← hwo]; exact bAl
 have hO:Out wo wb.heap.size:=by rw [← hwo]; exact Out.made wb
 have bx2:=(bx.keep hbb).keep hbo
 have by2:=by_.keep hbo
 have hB:=(hba.trans (hbb.mono hba.size)).trans (hbo.mono (Nat.le_trans hba.size hbb.size))
 have hRw:w.heap.size ≤ wb.heap.size:=Nat.le_trans hba.size hbb.size
 have hlab:w.heap.size ≠ wa.heap.size:=by have:=bx.lt; omega
 have hlab2:w.heap.size < wb.heap.size:=Nat.lt_of_lt_of_le bx.lt hbb.size
 have hlab3:wa.heap.size < wb.heap.size:=by_.lt
 have hne1:w.heap.size ≠ wb.heap.size:=by omega
 have hne2:wa.heap.size ≠ wb.heap.size:=by omega
 have hne3:wb.heap.size ≠ w.heap.size:=by omega
 have hne4:wb.heap.size ≠ wa.heap.size:=by omega
 have p0:=bx2.d0
 have p1:=bx2.d1
 have p2:=bx2.d2
 have p3:=by2.d0
 have p4:=by2.d1
 have p5:=by2.d2
 have HRw:=Hd hRw
 have HO:=Hd hO
 have HBo:=Hd hB
 have HB_0:=Hd (Below.refl wo.heap.size wo)
 have HM1:=Hd (fun (W:World) (hb:Below wo.heap.size wo W) => wmulw_any a1 b2 n1 c1 m2 d2 x1 y2 W ((hx1.below hB).below hb) ((hy2.below hB).below hb) ox1 oy2 (by omega))
 have HM2:=Hd (fun (W:World) (hb:Below wo.heap.size wo W) => wmulw_any a2 b1 n2 c2 m1 d1 x2 y1 W ((hx2.below hB).below hb) ((hy1.below hB).below hb) ox2 oy1 (by omega))
 have HM3:=Hd (fun (W:World) (hb:Below wo.heap.size wo W) => wmulw_any b1 b2 m1 d1 m2 d2 y1 y2 W ((hy1.below hB).below hb) ((hy2.below hB).below hb) oy1 oy2 (by omega))
 have HYP:=Hd (Nat.mul_pos (Nat.pos_of_ne_zero (val_ne ny1 ey1)) (Nat.pos_of_ne_zero (val_ne ny2 ey2)))
 have HL1:=Hd (mul_len ox1 oy2)
 have HL2:=Hd (mul_len ox2 oy1)
 have HL3:=Hd (mul_len oy1 oy2)
 have HLN:=Hd (And.intro hx1.len (And.intro hy1.len (And.intro hx2.len hy2.len)))
 clear hx1 hy1 hx2 hy2 bx by_ bx2 by2 hba hbb hbo hB hO ey1 ey2 nx1 ny1 nx2 ny2
 obtain ⟨XX,hXX⟩:∃ r,val x1 * val y2 = r:=⟨_,rfl⟩
 obtain ⟨YY,hYY⟩:∃ r,val x2 * val y1 = r:=⟨_,rfl⟩
 obtain ⟨DD,hDD⟩:∃ r,val y1 * val y2 = r:=⟨_,rfl⟩
 rw [hXX] at HM1 HL1 hFF
 rw [hYY] at HM2 HL2 hFF
 rw [hDD] at HM3 HL3 HYP hFF
 have HBX:=Hd (show (limbs XX).length ≤ 2000000 by have:=Uh HL1; have:=Uh HLN; omega)
 have HBY:=Hd (show (limbs YY).length ≤ 2000000 by have:=Uh HL2; have:=Uh HLN; omega)
 have HBD:=Hd (show (limbs DD).length ≤ 2000000 by have:=Uh HL3; have:=Uh HLN; omega)
 clear hXX hYY hDD HL1 HL2 HL3 HLN
 unfold ratV
 have hSum:g1 = g2 → lowF g1 (XX + YY) DD = ((SG,LN,LD),ER):=fun h => by rw [← hFF]; unfold cmbV; rw [if_pos h]
 have hDif:g1 ≠ g2 → YY ≤ XX → lowF g1 (XX - YY) DD = ((SG,LN,LD),ER):=fun h h' => by rw [← hFF]; unfold cmbV; rw [if_neg h,if_neg (by omega)]
 have hDif2:g1 ≠ g2 → XX < YY → lowF g2 (YY - XX) DD = ((SG,LN,LD),ER):=fun h h' => by rw [← hFF]; unfold cmbV; rw [if_neg h,if_pos h']
 have HSum:=Hd hSum
 have HDif:=Hd hDif
 have HDif2:=Hd hDif2
 clear hFF hSum hDif hDif2
 by_cases hg:g1 = g2
 ·have tg:(g1 == g2) = true:=by simp [hg]
  have HR:=Hd (Uh HSum hg)
  clear hg HSum HDif HDif2
  go_enter Tryz.func94,Tryz.ntmps94
  go_wp2_with fail
  refine (Uh HM1 _ (Uh HB_0)).mono ?_
  rintro _ w1 ⟨aX,mX,cX,rfl,s_,n_,h_,b_⟩
  have e0:=(ck b_ p0)
  have e1:=(ck b_ p1)
  have e2:=(ck b_ p2)
  have e3:=(ck b_ p3)
  have e4:=(ck b_ p4)
  have e5:=(ck b_ p5)
  have HB_1:=Hd ((Uh HB_0).trans (b_.mono (Uh HB_0).size))
  have hlX:=s_.len
  have SX:=Hd s_
  have NX:=Hd h_
  clear s_ n_ h_ b_ HM1 p0 p1 p2 p3 p4 p5
  go_wp2_with fail
  refine (Uh HM2 _ (Uh HB_1)).mono ?_
  rintro _ w2 ⟨aY,mY,cY,rfl,s_,n_,h_,b_⟩
  have h0:=(ck b_ e0)
  have h1:=(ck b_ e1)
  have h2:=(ck b_ e2)
  have h3:=(ck b_ e3)
  have h4:=(ck b_ e4)
  have h5:=(ck b_ e5)
  have HB_2:=Hd ((Uh HB_1).trans (b_.mono (Uh HB_1).size))
  have hlY:=s_.len
  have SX:=Hd ((Uh SX).below b_)
  have SY:=Hd s_
  have NY:=Hd h_
  clear s_ n_ h_ b_ HM2 e0 e1 e2 e3 e4 e5
  go_wp2_with fail
  refine (Uh HM3 _ (Uh HB_2)).mono ?_
  rintro _ w3 ⟨aD,mD,cD,rfl,s_,n_,h_,b_⟩
  have f0:=(ck b_ h0)
  have f1:=(ck b_ h1)
  have f2:=(ck b_ h2)
  have f3:=(ck b_ h3)
  have f4:=(ck b_ h4)
  have f5:=(ck b_ h5)
  have HB_3:=Hd ((Uh HB_2).trans (b_.mono (Uh HB_2).size))
  have hlD:=s_.len
  have SX:=Hd ((Uh SX).below b_)
  have SY:=Hd ((Uh SY).below b_)
  have SD:=Hd s_
  have ND:=Hd h_
  clear s_ n_ h_ b_ HM3 h0 h1 h2 h3 h4 h5
  have KA:=waddw_any aX aY mX cX mY cY (limbs XX) (limbs YY)
  have HKA:=Hd (fun (W:World) (hb:Below w3.heap.size w3 W) => KA W ((Uh SX).below hb) ((Uh SY).below hb) (limbs_ok _) (limbs_ok _) (by have:=Uh HBX; omega) (by have:=Uh HBY; omega))
  have HBL3:=HB_3
  have hsl:(limbs (XX + YY)).length ≤ 4000001:=by have:=add_len (Uh HBX) (Uh HBY); omega
  have HSL:=Hd hsl
  clear KA hsl
  rw [limbs_v,limbs_v] at HKA
  go_wp2_with fail
  go_region_held3 (fun w' => w'.cell? ⟨w.heap.size,0,none⟩ = some (.bool g1) ∧ w'.cell? ⟨w.heap.size,1,none⟩ = some (.slice a1 n1 c1) ∧ w'.cell? ⟨w.heap.size,2,none⟩ = some (.slice b1 m1 d1) ∧ w'.cell? ⟨wa.heap.size,0,none⟩ = some (.bool g2) ∧ w'.cell? ⟨wa.heap.size,1,none⟩ = some (.slice a2 n2 c2) ∧ w'.cell? ⟨wa.heap.size,2,none⟩ = some (.slice b2 m2 d2)) (first | go_keep | (exact ⟨k0,k1,k2,k3,k4,k5⟩) | (exact ⟨i0,i1,i2,i3,i4,i5⟩))
   (first
    | (go_at_call_of 92 (Value.slice aX mX cX); refine (Uh HKA _ (Below.refl _ _).drew).mono ?_; rintro _ wk ⟨aq,mq,cq,rfl,sq,nq,hq,bl_k⟩; have hb_k:Below w3.heap.size w3 wk:=(Below.refl _ _).drew.trans bl_k; have k0:=(ck hb_k f0); have k1:=(ck hb_k f1); have k2:=(ck hb_k f2); have k3:=(ck hb_k f3); have k4:=(ck hb_k f4); have k5:=(ck hb_k f5); have SQ:=Hd sq; have hlq:=sq.len; have SDk:=Hd ((Uh SD).below hb_k); clear sq nq hq; have HB_k:=Hd hb_k; clear hb_k bl_k)
    | (go_at_call 21; have KL:=wlower_any g1 aq aD mq cq mD cD (limbs (XX + YY)) (limbs DD) wk (Uh SQ) (Uh SDk) (limbs_ok _) (limbs_ok _) (limbs_norm _) (limbs_norm _) (fun e => by have:=limbs_eq_nil.1 e; have:=Uh HYP; omega) (by have:=Uh HSL; omega) (by have:=Uh HBD; omega); rw [limbs_v,limbs_v,Uh HR] at KL; unfold ResF at KL; dsimp only at KL; refine KL.mono ?_; clear KL; rintro _ wi ⟨vv,rfl,aN,mN,cN,aE,mE,cE,rfl,sN,sD,nN,nD,bl_i⟩; unfold ratV; have i0:=(ck bl_i k0); have i1:=(ck bl_i k1); have i2:=(ck bl_i k2); have i3:=(ck bl_i k3); have i4:=(ck bl_i k4); have i5:=(ck bl_i k5); have hzz:wb.heap.size + 1 ≤ wk.heap.size:=Nat.le_trans (Uh HO).lt (Nat.le_trans (Uh HBL3).size (Uh HB_k).size); have HS3:=Hd (And.intro sN (And.intro (show NewAt (wb.heap.size + 1) aN from fun x hx => Nat.le_trans hzz (nN x hx)) (And.intro sD (show NewAt (wb.heap.size + 1) aE from fun x hx => Nat.le_trans hzz (nD x hx))))); have hb_i:=(Uh HB_k).trans (bl_i.mono (Uh HB_k).size); have HB_i:=Hd hb_i; have hO3:=(Uh HO).keep ((Uh HBL3).trans (hb_i.mono (Uh HBL3).size)); obtain ⟨x0,q0⟩:=hO3.cells 0 (by decide); obtain ⟨x1',q1⟩:=hO3.cells 1 (by decide); obtain ⟨x2',q2⟩:=hO3.cells 2 (by decide); have r0:=hO3.fz 0 (by decide); have r1:=hO3.fz 1 (by decide); have r2:=hO3.fz 2 (by decide); have HO3:=Hd hO3; clear sN sD nN nD bl_i hb_i hO3))
  have H4:=Hd (three_set wi wb.heap.size (.bool SG) (.slice aN mN cN) (.slice aE mE cE) (Uh HO3).cells)
  have HB3:=Hd ((Uh HBo).trans (((Uh HBL3).trans ((Uh HB_i).mono (Uh HBL3).size)).mono (Uh HBo).size))
  clear q0 q1 q2 r0 r1 r2
  try go_wp2_with fail
  obtain ⟨t0,t1,t2,c4⟩:=Uh H4
  generalize ((wi.setCell ⟨wb.heap.size,0,none⟩ (.bool SG)).setCell ⟨wb.heap.size,1,none⟩ (.slice aN mN cN)).setCell ⟨wb.heap.size,2,none⟩ (.slice aE mE cE) = wf at *
  refine bodyPost_ret (by simp [results,Tryz.results94,go_sem,t0,t1,t2]; try rfl) rfl ?_
  obtain ⟨sN,nN,sD,nD⟩:=Uh HS3
  exact ⟨_,rfl,newR_of (Uh HRw) (Uh HO3).lt (Uh HB3) sN nN sD nD c4 SG⟩
 ·have tg:(g1 == g2) = false:=by simp [hg]
  have HBL3:=HB_0
  clear HBL3 HSum
  by_cases hc:XX < YY
  ·have HR:=Hd (Uh HDif2 hg hc)
   have hcg:cmpN XX YY < 0:=by rw [cmpN_lt hc]; decide
   have hle:XX ≤ YY:=Nat.le_of_lt hc
   have hcg2:¬ (0:Int) ≤ cmpN XX YY:=by omega
   clear hg HDif HDif2
   go_enter Tryz.func94,Tryz.ntmps94
   go_wp2_with fail
   refine (Uh HM1 _ (Uh HB_0)).mono ?_
   rintro _ w1 ⟨aX,mX,cX,rfl,s_,n_,h_,b_⟩
   have e0:=(ck b_ p0)
   have e1:=(ck b_ p1)
   have e2:=(ck b_ p2)
   have e3:=(ck b_ p3)
   have e4:=(ck b_ p4)
   have e5:=(ck b_ p5)
   have HB_1:=Hd ((Uh HB_0).trans (b_.mono (Uh HB_0).size))
   have hlX:=s_.len
   have SX:=Hd s_
   have NX:=Hd h_
   clear s_ n_ h_ b_ HM1 p0 p1 p2 p3 p4 p5
   go_wp2_with fail
   refine (Uh HM2 _ (Uh HB_1)).mono ?_
   rintro _ w2 ⟨aY,mY,cY,rfl,s_,n_,h_,b_⟩
   have h0:=(ck b_ e0)
   have h1:=(ck b_ e1)
   have h2:=(ck b_ e2)
   have h3:=(ck b_ e3)
   have h4:=(ck b_ e4)
   have h5:=(ck b_ e5)
   have HB_2:=Hd ((Uh HB_1).trans (b_.mono (Uh HB_1).size))
   have hlY:=s_.len
   have SX:=Hd ((Uh SX).below b_)
   have SY:=Hd s_
   have NY:=Hd h_
   clear s_ n_ h_ b_ HM2 e0 e1 e2 e3 e4 e5
   go_wp2_with fail
   refine (Uh HM3 _ (Uh HB_2)).mono ?_
   rintro _ w3 ⟨aD,mD,cD,rfl,s_,n_,h_,b_⟩
   have f0:=(ck b_ h0)
   have f1:=(ck b_ h1)
   have f2:=(ck b_ h2)
   have f3:=(ck b_ h3)
   have f4:=(ck b_ h4)
   have f5:=(ck b_ h5)
   have HB_3:=Hd ((Uh HB_2).trans (b_.mono (Uh HB_2).size))
   have hlD:=s_.len
   have SX:=Hd ((Uh SX).below b_)
   have SY:=Hd ((Uh SY).below b_)
   have SD:=Hd s_
   have ND:=Hd h_
   clear s_ n_ h_ b_ HM3 h0 h1 h2 h3 h4 h5
   have KC:=wcmp_any aX aY mX cX mY cY (limbs XX) (limbs YY) w3 (Uh SX) (Uh SY) (limbs_ok _) (limbs_ok _) (limbs_norm _) (limbs_norm _) (by have:=Uh HBX; omega) (by have:=Uh HBY; omega)
   rw [limbs_v,limbs_v] at KC
   have HKC:=Hd KC
   clear KC hc
   generalize cmpN XX YY = cc at *
   go_wp2_with fail
   refine (Uh HKC).mono ?_
   rintro _ w4 ⟨rfl,jj,hw4⟩
   have b_:Below w3.heap.size w3 w4:=by rw [hw4]; exact bel_drewN (Below.refl _ _) jj
   have u0:=(ck b_ f0)
   have u1:=(ck b_ f1)
   have u2:=(ck b_ f2)
   have u3:=(ck b_ f3)
   have u4:=(ck b_ f4)
   have u5:=(ck b_ f5)
   have HB_4:=Hd ((Uh HB_3).trans (b_.mono (Uh HB_3).size))
   have SX:=Hd ((Uh SX).below b_)
   have SY:=Hd ((Uh SY).below b_)
   have SD:=Hd ((Uh SD).below b_)
   clear b_ hw4 HKC f0 f1 f2 f3 f4 f5
   have KA:=wsubw_any aY aX mY cY mX cX (limbs YY) (limbs XX)
   have HKA:=Hd (fun (W:World) (hb:Below w4.heap.size w4 W) => KA W ((Uh SY).below hb) (Uh NY) ((Uh SX).below hb) (limbs_ok _) (limbs_ok _) (by have:=Uh HBY; omega) (by have:=limbs_mono hle; omega) (by rw [limbs_v,limbs_v]; exact hle))
   have HBL3:=HB_4
   have HSL:=Hd (show (limbs (YY - XX)).length ≤ 4000001 by have h1:=limbs_mono (show YY - XX ≤ YY by omega); have:=Uh HBY; omega)
   clear KA
   rw [limbs_v,limbs_v] at HKA
   go_wp2_with fail
   go_region_held3 (fun w' => w'.cell? ⟨w.heap.size,0,none⟩ = some (.bool g1) ∧ w'.cell? ⟨w.heap.size,1,none⟩ = some (.slice a1 n1 c1) ∧ w'.cell? ⟨w.heap.size,2,none⟩ = some (.slice b1 m1 d1) ∧ w'.cell? ⟨wa.heap.size,0,none⟩ = some (.bool g2) ∧ w'.cell? ⟨wa.heap.size,1,none⟩ = some (.slice a2 n2 c2) ∧ w'.cell? ⟨wa.heap.size,2,none⟩ = some (.slice b2 m2 d2)) (first | go_keep | (exact ⟨k0,k1,k2,k3,k4,k5⟩) | (exact ⟨i0,i1,i2,i3,i4,i5⟩))
    (first
     | (go_at_call_of 107 (Value.slice aY mY cY); refine (Uh HKA _ (Below.refl _ _).drew).mono ?_; rintro _ wk ⟨aq,mq,cq,rfl,sq,nq,hq,bl_k⟩; have hb_k:Below w4.heap.size w4 wk:=(Below.refl _ _).drew.trans bl_k; have k0:=(ck hb_k u0); have k1:=(ck hb_k u1); have k2:=(ck hb_k u2); have k3:=(ck hb_k u3); have k4:=(ck hb_k u4); have k5:=(ck hb_k u5); have SQ:=Hd sq; have hlq:=sq.len; have SDk:=Hd ((Uh SD).below hb_k); clear sq nq hq; have HB_k:=Hd hb_k; clear hb_k bl_k)
     | (go_at_call 21; have KL:=wlower_any g2 aq aD mq cq mD cD (limbs (YY - XX)) (limbs DD) wk (Uh SQ) (Uh SDk) (limbs_ok _) (limbs_ok _) (limbs_norm _) (limbs_norm _) (fun e => by have:=limbs_eq_nil.1 e; have:=Uh HYP; omega) (by have:=Uh HSL; omega) (by have:=Uh HBD; omega); rw [limbs_v,limbs_v,Uh HR] at KL; unfold ResF at KL; dsimp only at KL; refine KL.mono ?_; clear KL; rintro _ wi ⟨vv,rfl,aN,mN,cN,aE,mE,cE,rfl,sN,sD,nN,nD,bl_i⟩; unfold ratV; have i0:=(ck bl_i k0); have i1:=(ck bl_i k1); have i2:=(ck bl_i k2); have i3:=(ck bl_i k3); have i4:=(ck bl_i k4); have i5:=(ck bl_i k5); have hzz:wb.heap.size + 1 ≤ wk.heap.size:=Nat.le_trans (Uh HO).lt (Nat.le_trans (Uh HBL3).size (Uh HB_k).size); have HS3:=Hd (And.intro sN (And.intro (show NewAt (wb.heap.size + 1) aN from fun x hx => Nat.le_trans hzz (nN x hx)) (And.intro sD (show NewAt (wb.heap.size + 1) aE from fun x hx => Nat.le_trans hzz (nD x hx))))); have hb_i:=(Uh HB_k).trans (bl_i.mono (Uh HB_k).size); have HB_i:=Hd hb_i; have hO3:=(Uh HO).keep ((Uh HBL3).trans (hb_i.mono (Uh HBL3).size)); obtain ⟨x0,q0⟩:=hO3.cells 0 (by decide); obtain ⟨x1',q1⟩:=hO3.cells 1 (by decide); obtain ⟨x2',q2⟩:=hO3.cells 2 (by decide); have r0:=hO3.fz 0 (by decide); have r1:=hO3.fz 1 (by decide); have r2:=hO3.fz 2 (by decide); have HO3:=Hd hO3; clear sN sD nN nD bl_i hb_i hO3))
   have H4:=Hd (three_set wi wb.heap.size (.bool SG) (.slice aN mN cN) (.slice aE mE cE) (Uh HO3).cells)
   have HB3:=Hd ((Uh HBo).trans (((Uh HBL3).trans ((Uh HB_i).mono (Uh HBL3).size)).mono (Uh HBo).size))
   clear q0 q1 q2 r0 r1 r2
   try go_wp2_with fail
   obtain ⟨t0,t1,t2,c4⟩:=Uh H4
   generalize ((wi.setCell ⟨wb.heap.size,0,none⟩ (.bool SG)).setCell ⟨wb.heap.size,1,none⟩ (.slice aN mN cN)).setCell ⟨wb.heap.size,2,none⟩ (.slice aE mE cE) = wf at *
   refine bodyPost_ret (by simp [results,Tryz.results94,go_sem,t0,t1,t2]; try rfl) rfl ?_
   obtain ⟨sN,nN,sD,nD⟩:=Uh HS3
   exact ⟨_,rfl,newR_of (Uh HRw) (Uh HO3).lt (Uh HB3) sN nN sD nD c4 SG⟩
  ·have HR:=Hd (Uh HDif hg (by omega))
   have hcg:(0:Int) ≤ cmpN XX YY:=by unfold cmpN; rw [if_neg hc]; split <;> omega
   have hle:YY ≤ XX:=by omega
   clear hg HDif HDif2
   go_enter Tryz.func94,Tryz.ntmps94
   go_wp2_with fail
   refine (Uh HM1 _ (Uh HB_0)).mono ?_
   rintro _ w1 ⟨aX,mX,cX,rfl,s_,n_,h_,b_⟩
   have e0:=(ck b_ p0)
   have e1:=(ck b_ p1)
   have e2:=(ck b_ p2)
   have e3:=(ck b_ p3)
   have e4:=(ck b_ p4)
   have e5:=(ck b_ p5)
   have HB_1:=Hd ((Uh HB_0).trans (b_.mono (Uh HB_0).size))
   have hlX:=s_.len
   have SX:=Hd s_
   have NX:=Hd h_
   clear s_ n_ h_ b_ HM1 p0 p1 p2 p3 p4 p5
   go_wp2_with fail
   refine (Uh HM2 _ (Uh HB_1)).mono ?_
   rintro _ w2 ⟨aY,mY,cY,rfl,s_,n_,h_,b_⟩
   have h0:=(ck b_ e0)
   have h1:=(ck b_ e1)
   have h2:=(ck b_ e2)
   have h3:=(ck b_ e3)
   have h4:=(ck b_ e4)
   have h5:=(ck b_ e5)
   have HB_2:=Hd ((Uh HB_1).trans (b_.mono (Uh HB_1).size))
   have hlY:=s_.len
   have SX:=Hd ((Uh SX).below b_)
   have SY:=Hd s_
   have NY:=Hd h_
   clear s_ n_ h_ b_ HM2 e0 e1 e2 e3 e4 e5
   go_wp2_with fail
   refine (Uh HM3 _ (Uh HB_2)).mono ?_
   rintro _ w3 ⟨aD,mD,cD,rfl,s_,n_,h_,b_⟩
   have f0:=(ck b_ h0)
   have f1:=(ck b_ h1)
   have f2:=(ck b_ h2)
   have f3:=(ck b_ h3)
   have f4:=(ck b_ h4)
   have f5:=(ck b_ h5)
   have HB_3:=Hd ((Uh HB_2).trans (b_.mono (Uh HB_2).size))
   have hlD:=s_.len
   have SX:=Hd ((Uh SX).below b_)
   have SY:=Hd ((Uh SY).below b_)
   have SD:=Hd s_
   have ND:=Hd h_
   clear s_ n_ h_ b_ HM3 h0 h1 h2 h3 h4 h5
   have KC:=wcmp_any aX aY mX cX mY cY (limbs XX) (limbs YY) w3 (Uh SX) (Uh SY) (limbs_ok _) (limbs_ok _) (limbs_norm _) (limbs_norm _) (by have:=Uh HBX; omega) (by have:=Uh HBY; omega)
   rw [limbs_v,limbs_v] at KC
   have HKC:=Hd KC
   clear KC hc
   generalize cmpN XX YY = cc at *
   go_wp2_with fail
   refine (Uh HKC).mono ?_
   rintro _ w4 ⟨rfl,jj,hw4⟩
   have b_:Below w3.heap.size w3 w4:=by rw [hw4]; exact bel_drewN (Below.refl _ _) jj
   have u0:=(ck b_ f0)
   have u1:=(ck b_ f1)
   have u2:=(ck b_ f2)
   have u3:=(ck b_ f3)
   have u4:=(ck b_ f4)
   have u5:=(ck b_ f5)
   have HB_4:=Hd ((Uh HB_3).trans (b_.mono (Uh HB_3).size))
   have SX:=Hd ((Uh SX).below b_)
   have SY:=Hd ((Uh SY).below b_)
   have SD:=Hd ((Uh SD).below b_)
   clear b_ hw4 HKC f0 f1 f2 f3 f4 f5
   have KA:=wsubw_any aX aY mX cX mY cY (limbs XX) (limbs YY)
   have HKA:=Hd (fun (W:World) (hb:Below w4.heap.size w4 W) => KA W ((Uh SX).below hb) (Uh NX) ((Uh SY).below hb) (limbs_ok _) (limbs_ok _) (by have:=Uh HBX; omega) (by have:=limbs_mono hle; omega) (by rw [limbs_v,limbs_v]; exact hle))
   have HBL3:=HB_4
   have HSL:=Hd (show (limbs (XX - YY)).length ≤ 4000001 by have h1:=limbs_mono (show XX - YY ≤ XX by omega); have:=Uh HBX; omega)
   clear KA
   rw [limbs_v,limbs_v] at HKA
   go_wp2_with fail
   go_region_held3 (fun w' => w'.cell? ⟨w.heap.size,0,none⟩ = some (.bool g1) ∧ w'.cell? ⟨w.heap.size,1,none⟩ = some (.slice a1 n1 c1) ∧ w'.cell? ⟨w.heap.size,2,none⟩ = some (.slice b1 m1 d1) ∧ w'.cell? ⟨wa.heap.size,0,none⟩ = some (.bool g2) ∧ w'.cell? ⟨wa.heap.size,1,none⟩ = some (.slice a2 n2 c2) ∧ w'.cell? ⟨wa.heap.size,2,none⟩ = some (.slice b2 m2 d2)) (first | go_keep | (exact ⟨k0,k1,k2,k3,k4,k5⟩) | (exact ⟨i0,i1,i2,i3,i4,i5⟩))
    (first
     | (go_at_call_of 107 (Value.slice aX mX cX); refine (Uh HKA _ (Below.refl _ _).drew).mono ?_; rintro _ wk ⟨aq,mq,cq,rfl,sq,nq,hq,bl_k⟩; have hb_k:Below w4.heap.size w4 wk:=(Below.refl _ _).drew.trans bl_k; have k0:=(ck hb_k u0); have k1:=(ck hb_k u1); have k2:=(ck hb_k u2); have k3:=(ck hb_k u3); have k4:=(ck hb_k u4); have k5:=(ck hb_k u5); have SQ:=Hd sq; have hlq:=sq.len; have SDk:=Hd ((Uh SD).below hb_k); clear sq nq hq; have HB_k:=Hd hb_k; clear hb_k bl_k)
     | (go_at_call 21; have KL:=wlower_any g1 aq aD mq cq mD cD (limbs (XX - YY)) (limbs DD) wk (Uh SQ) (Uh SDk) (limbs_ok _) (limbs_ok _) (limbs_norm _) (limbs_norm _) (fun e => by have:=limbs_eq_nil.1 e; have:=Uh HYP; omega) (by have:=Uh HSL; omega) (by have:=Uh HBD; omega); rw [limbs_v,limbs_v,Uh HR] at KL; unfold ResF at KL; dsimp only at KL; refine KL.mono ?_; clear KL; rintro _ wi ⟨vv,rfl,aN,mN,cN,aE,mE,cE,rfl,sN,sD,nN,nD,bl_i⟩; unfold ratV; have i0:=(ck bl_i k0); have i1:=(ck bl_i k1); have i2:=(ck bl_i k2); have i3:=(ck bl_i k3); have i4:=(ck bl_i k4); have i5:=(ck bl_i k5); have hzz:wb.heap.size + 1 ≤ wk.heap.size:=Nat.le_trans (Uh HO).lt (Nat.le_trans (Uh HBL3).size (Uh HB_k).size); have HS3:=Hd (And.intro sN (And.intro (show NewAt (wb.heap.size + 1) aN from fun x hx => Nat.le_trans hzz (nN x hx)) (And.intro sD (show NewAt (wb.heap.size + 1) aE from fun x hx => Nat.le_trans hzz (nD x hx))))); have hb_i:=(Uh HB_k).trans (bl_i.mono (Uh HB_k).size); have HB_i:=Hd hb_i; have hO3:=(Uh HO).keep ((Uh HBL3).trans (hb_i.mono (Uh HBL3).size)); obtain ⟨x0,q0⟩:=hO3.cells 0 (by decide); obtain ⟨x1',q1⟩:=hO3.cells 1 (by decide); obtain ⟨x2',q2⟩:=hO3.cells 2 (by decide); have r0:=hO3.fz 0 (by decide); have r1:=hO3.fz 1 (by decide); have r2:=hO3.fz 2 (by decide); have HO3:=Hd hO3; clear sN sD nN nD bl_i hb_i hO3))
   have H4:=Hd (three_set wi wb.heap.size (.bool SG) (.slice aN mN cN) (.slice aE mE cE) (Uh HO3).cells)
   have HB3:=Hd ((Uh HBo).trans (((Uh HBL3).trans ((Uh HB_i).mono (Uh HBL3).size)).mono (Uh HBo).size))
   clear q0 q1 q2 r0 r1 r2
   try go_wp2_with fail
   obtain ⟨t0,t1,t2,c4⟩:=Uh H4
   generalize ((wi.setCell ⟨wb.heap.size,0,none⟩ (.bool SG)).setCell ⟨wb.heap.size,1,none⟩ (.slice aN mN cN)).setCell ⟨wb.heap.size,2,none⟩ (.slice aE mE cE) = wf at *
   refine bodyPost_ret (by simp [results,Tryz.results94,go_sem,t0,t1,t2]; try rfl) rfl ?_
   obtain ⟨sN,nN,sD,nD⟩:=Uh HS3
   exact ⟨_,rfl,newR_of (Uh HRw) (Uh HO3).lt (Uh HB3) sN nN sD nD c4 SG⟩

theorem plus_lowest {g1 g2 g3:Bool} {x1 y1 x2 y2:List Nat} (h1:MayR g1 x1 y1 = true) (h2:MayR g2 x2 y2 = true) (h3:Bool) (e3:nI h3 (val x2) = nI g3 (val x2)) :
  lowF (cmbV g1 (val x1 * val y2) h3 (val x2 * val y1)).2 (cmbV g1 (val x1 * val y2) h3 (val x2 * val y1)).1 (val y1 * val y2) = if bigN (adN g1 x1 y1 g3 x2 y2) || bigN (adD g1 x1 y1 g3 x2 y2) then ((false,[],[]),2) else (((adS g1 x1 y1 g3 x2 y2).2 && decide (adN g1 x1 y1 g3 x2 y2 ≠ 0),limbs (adN g1 x1 y1 g3 x2 y2),limbs (adD g1 x1 y1 g3 x2 y2)),0):=by
 obtain ⟨_,_,_,_,l1⟩:=MayR.parts h1
 obtain ⟨_,_,_,_,l2⟩:=MayR.parts h2
 have p1:=mayR_pos h1
 have p2:=mayR_pos h2
 have hGp:0 < adG y1 y2:=Nat.gcd_pos_of_pos_right _ p2
 have hD:0 < adD g1 x1 y1 g3 x2 y2:=by
  unfold adD adC
  exact Nat.mul_pos (Nat.mul_pos (div_pos_of_dvd (Nat.gcd_dvd_left _ _) p1) (div_pos_of_dvd (Nat.gcd_dvd_right _ _) p2)) (div_pos_of_dvd (Nat.gcd_dvd_right _ _) hGp)
 refine lowF_is (add_low (G:=adG y1 y2) l1 l2 p1 p2 rfl (cmbV_abs g1 g3 _ _)) hD (Nat.mul_pos p1 p2) ?_
 rw [cmbV_val,nI_mul,nI_mul,e3]
 exact add_val (G:=adG y1 y2) rfl p2 (cmbV_val g1 g3 _ _)
theorem radd_F (g1 g2:Bool) (a1 b1 a2 b2:Option Addr) (n1 c1 m1 d1 n2 c2 m2 d2:Nat) (x1 y1 x2 y2:List Nat) (w:World) (hx1:Sl w a1 n1 c1 x1) (hy1:Sl w b1 m1 d1 y1) (hx2:Sl w a2 n2 c2 x2) (hy2:Sl w b2 m2 d2 y2) (ox1:Ok x1) (oy1:Ok y1) (ox2:Ok x2) (oy2:Ok y2) (k1:MayR g1 x1 y1 = true) (k2:MayR g2 x2 y2 = true) (hT:Tab64 w) :
  Calls Tryz.prog 77 #[ratV g1 a1 n1 c1 b1 m1 d1,ratV g2 a2 n2 c2 b2 m2 d2] w fun e w' => ResF w w' (AddF g1 x1 y1 g2 x2 y2) e:=by
 obtain ⟨ka1,kb1,e1,_,_⟩:=MayR.parts k1
 obtain ⟨ka2,kb2,e2,_,_⟩:=MayR.parts k2
 refine (ratadd_any g1 g2 a1 b1 a2 b2 n1 c1 m1 d1 n2 c2 m2 d2 x1 y1 x2 y2 w hx1 hy1 hx2 hy2 ox1 oy1 ox2 oy2 ka1 kb1 ka2 kb2 e1 e2 hT (by_any w)).mono (fun e w' h => ?_)
 unfold MuPost at h
 unfold ResF AddF
 rw [if_pos (by rw [k1,k2]; rfl)]
 split at h
 ·rename_i hbig
  rw [if_pos hbig]
  exact h
 ·rename_i hbig
  rw [if_neg hbig]
  exact h
theorem wplus_F (g1 g2:Bool) (a1 b1 a2 b2:Option Addr) (n1 c1 m1 d1 n2 c2 m2 d2:Nat) (x1 y1 x2 y2:List Nat) (w:World) (hx1:Sl w a1 n1 c1 x1) (hy1:Sl w b1 m1 d1 y1) (hx2:Sl w a2 n2 c2 x2) (hy2:Sl w b2 m2 d2 y2) (ox1:Ok x1) (oy1:Ok y1) (ox2:Ok x2) (oy2:Ok y2) (k1:MayR g1 x1 y1 = true) (k2:MayR g2 x2 y2 = true) :
  Calls Tryz.prog 94 #[ratV g1 a1 n1 c1 b1 m1 d1,ratV g2 a2 n2 c2 b2 m2 d2] w fun e w' => ResF w w' (AddF g1 x1 y1 g2 x2 y2) e:=by
 obtain ⟨ka1,kb1,e1,_,_⟩:=MayR.parts k1
 obtain ⟨ka2,kb2,e2,_,_⟩:=MayR.parts k2
 have hF:lowF (cmbV g1 (val x1 * val y2) g2 (val x2 * val y1)).2 (cmbV g1 (val x1 * val y2) g2 (val x2 * val y1)).1 (val y1 * val y2) = AddF g1 x1 y1 g2 x2 y2:=by
  rw [plus_lowest (g3:=g2) k1 k2 g2 rfl]
  unfold AddF; rw [k1,k2]; rfl
 have sz:∀ {a:Option Addr} {n c:Nat} {x:List Nat},Sl w a n c x → MayL x = true → n ≤ 1000000:=fun h m => by
  have h1:=h.len
  have h2:_ ≤ 2048:=MayL.len m
  omega
 have K:=wplus_any g1 g2 a1 b1 a2 b2 n1 c1 m1 d1 n2 c2 m2 d2 x1 y1 x2 y2 w hx1 hy1 hx2 hy2 ox1 oy1 ox2 oy2 (MayL.norm ka1) (MayL.norm kb1) (MayL.norm ka2) (MayL.norm kb2) e1 e2 (sz hx1 ka1) (sz hy1 kb1) (sz hx2 ka2) (sz hy2 kb2)
 rwa [hF] at K
def ftV:List Nat → Nat × Nat
 | [] => (1,0)
 | t :: r => (t * (ftV r).1 + (ftV r).2,(ftV r).1)
theorem ftV_gcd (r:List Nat):Nat.gcd (ftV r).1 (ftV r).2 = 1:=by
 induction r with
 | nil => rfl
 | cons t r ih =>
  show Nat.gcd (t * (ftV r).1 + (ftV r).2) (ftV r).1 = 1
  rw [Nat.add_comm,Nat.mul_comm,Nat.gcd_add_mul_left_left,Nat.gcd_comm]
  exact ih
theorem ftV_pos {r:List Nat} (h:∀ t ∈ r,0 < t):0 < (ftV r).1:=by
 induction r with
 | nil => exact Nat.one_pos
 | cons t r ih =>
  have h1:=ih (fun u hu => h u (List.mem_cons_of_mem _ hu))
  have h2:=h t (List.mem_cons_self ..)
  show 0 < t * (ftV r).1 + (ftV r).2
  exact Nat.add_pos_left (Nat.mul_pos h2 h1) _
def ftB:List Nat → Bool
 | [] => false
 | t :: r => ftB r || bigN (ftV (t :: r)).1
theorem ftB_tail {t:Nat} {r:List Nat} (h:ftB (t :: r) = false):ftB r = false ∧ bigN (ftV (t :: r)).1 = false:=by
 unfold ftB at h
 simpa using h
theorem bigN_false {v:Nat} (h:bigN v = false):MayL (limbs v) = true:=by
 have e:¬ 2048 < (limbs v).length:=by
  intro k
  unfold bigN at h
  simp at h
  omega
 exact MayL.mk (limbs_norm v) (by omega)
theorem ftB_fit {r:List Nat} (h:ftB r = false):bigN (ftV r).1 = false ∧ bigN (ftV r).2 = false:=by
 have b1:bigN 1 = false:=by decide
 have b0:bigN 0 = false:=by decide
 cases r with
 | nil => exact ⟨b1,b0⟩
 | cons t r =>
  obtain ⟨h1,h2⟩:=ftB_tail h
  refine ⟨h2,?_⟩
  show bigN (ftV r).1 = false
  cases r with
  | nil => exact b1
  | cons u s => exact (ftB_tail h1).2
theorem ftV_may {r:List Nat} (h:ftB r = false) (hp:∀ t ∈ r,0 < t):MayR false (limbs (ftV r).2) (limbs (ftV r).1) = true:=by
 obtain ⟨h1,h2⟩:=ftB_fit h
 have hpos:=ftV_pos hp
 unfold MayR
 simp only [Bool.and_eq_true,Bool.not_eq_true',decide_eq_false_iff_not,decide_eq_true_eq]
 refine ⟨⟨⟨⟨bigN_false h2,bigN_false h1⟩,?_⟩,?_⟩,?_⟩
 ·rw [limbs_eq_nil]; omega
 ·simp
 ·rw [limbs_v,limbs_v,Nat.gcd_comm]; exact ftV_gcd r
theorem val_1:val [1] = 1:=by decide
theorem addF_is {g1 g2:Bool} {x1 y1 x2 y2:List Nat} (k1:MayR g1 x1 y1 = true) (k2:MayR g2 x2 y2 = true) :
  AddF g1 x1 y1 g2 x2 y2 = lowF (cmbV g1 (val x1 * val y2) g2 (val x2 * val y1)).2 (cmbV g1 (val x1 * val y2) g2 (val x2 * val y1)).1 (val y1 * val y2):=by
 rw [plus_lowest (g3:=g2) k1 k2 g2 rfl]
 unfold AddF; rw [k1,k2]; rfl
theorem whole_may {t:Nat} (h:MayL (limbs t) = true):MayR false (limbs t) [1] = true:=by
 unfold MayR
 simp only [Bool.and_eq_true,Bool.not_eq_true',decide_eq_false_iff_not,decide_eq_true_eq]
 refine ⟨⟨⟨⟨h,by decide⟩,by decide⟩,by simp⟩,?_⟩
 rw [val_1]; exact Nat.gcd_one_right _
theorem addF_term {t:Nat} {r:List Nat} (hB:ftB r = false) (hp:∀ u ∈ r,0 < u) (ht:0 < t) (mt:MayL (limbs t) = true) :
  AddF false (limbs t) [1] false (limbs (ftV r).2) (limbs (ftV r).1) = if bigN (ftV (t :: r)).1 then ((false,[],[]),2) else ((false,limbs (ftV (t :: r)).1,limbs (ftV (t :: r)).2),0):=by
 rw [addF_is (whole_may mt) (ftV_may hB hp),limbs_v,limbs_v,limbs_v,val_1,Nat.mul_one,Nat.one_mul]
 have hN:cmbV false (t * (ftV r).1) false (ftV r).2 = ((ftV (t :: r)).1,false):=rfl
 rw [hN]
 have hP:=ftV_pos hp
 have hN0:(ftV (t :: r)).1 ≠ 0:=by
  show t * (ftV r).1 + (ftV r).2 ≠ 0
  have:=Nat.mul_pos ht hP
  omega
 have hg:Nat.gcd (ftV (t :: r)).1 (ftV r).1 = 1:=ftV_gcd (t :: r)
 unfold lowF
 rw [if_neg hN0,hg,Nat.div_one,Nat.div_one,(ftB_fit hB).1,Bool.or_false]
 rfl
theorem addF_zero {g:Bool} {x:List Nat} (ox:Ok x) (k:MayR g x [1] = true):AddF g x [1] false [] [1] = ((g,x,[1]),0):=by
 obtain ⟨kx,_,_,hg,_⟩:=MayR.parts k
 have k0:MayR false [] [1] = true:=by decide
 rw [addF_is k k0,val_1,show val [] = 0 from rfl,Nat.mul_one,Nat.zero_mul]
 have hc:cmbV g (val x) false 0 = (val x,g) ∨ (g = true ∧ val x = 0):=by
  unfold cmbV
  cases g
  ·left; simp
  ·by_cases e:val x = 0
   ·right; exact ⟨rfl,e⟩
   ·left; simp
 have hx:limbs (val x) = x:=limbs_val ox (MayL.norm kx)
 rcases hc with hc | ⟨h1,h2⟩
 ·rw [hc]
  unfold lowF
  by_cases e:val x = 0
  ·rw [if_pos e]
   have hx0:x = []:=by rw [← hx,e]; rfl
   have hg0:g = false:=by
    cases g
    ·rfl
    ·exact absurd hx0 (hg rfl)
   rw [hx0,hg0]
  ·rw [if_neg e,Nat.gcd_one_right,Nat.div_one,hx]
   have hb:bigN (val x) = false:=by unfold bigN; rw [hx]; have:=MayL.len kx; simp; omega
   have hb1:bigN (1 / 1) = false:=by decide
   rw [hb,hb1]
   rfl
 ·exfalso
  have hx0:x = []:=by rw [← hx,h2]; rfl
  exact hg h1 hx0
theorem tri_setQ {w:World} {R:Nat} (h:Out w R) (v0 v1 v2:Value):Tri (((w.setCell ⟨R,0,none⟩ v0).setCell ⟨R,1,none⟩ v1).setCell ⟨R,2,none⟩ v2) R v0 v1 v2:=by
 obtain ⟨a,b,c,d⟩:=three_set w R v0 v1 v2 h.cells
 have f:∀ j,(((w.setCell ⟨R,0,none⟩ v0).setCell ⟨R,1,none⟩ v1).setCell ⟨R,2,none⟩ v2).frozen? ⟨R,j,none⟩ = w.frozen? ⟨R,j,none⟩:=fun j => by rw [World.frozen?_setCell,World.frozen?_setCell,World.frozen?_setCell]
 exact ⟨a,b,c,(f 0).trans (h.fz 0 (by decide)),(f 1).trans (h.fz 1 (by decide)),(f 2).trans (h.fz 2 (by decide)),Nat.lt_of_lt_of_le h.lt d.size⟩
structure SmX (w wr:World) (Ro Rx:Nat) (z:Nq):Prop where
 bel:Below w.heap.size w wr
 out:Out wr Ro
 tx:Tri wr Rx (.bool z.g) (.slice z.a z.n z.c) (.slice z.b z.m z.d)
 num:Sl wr z.a z.n z.c z.x
 den:Sl wr z.b z.m z.d z.y
 ox:Ok z.x
 oy:Ok z.y
 may:MayR z.g z.x z.y = true
 na:NewAt (Ro + 1) z.a
 nb:NewAt (Ro + 1) z.b
 ro:w.heap.size ≤ Ro
 rx:Ro < Rx
structure LdY (wr wy:World) (Ry:Nat) (gy:Bool) (ay:Option Addr) (ny cy:Nat) (xy:List Nat) (by_:Option Addr) (my dy:Nat) (yy:List Nat):Prop where
 tri:Tri wy Ry (.bool gy) (.slice ay ny cy) (.slice by_ my dy)
 num:Sl wy ay ny cy xy
 den:Sl wy by_ my dy yy
 na:NewAt wr.heap.size ay
 nb:NewAt wr.heap.size by_
 bel:Below wr.heap.size wr wy
theorem NewR.drewQ {w w':World} {g:Bool} {xs ys:List Nat} {v:Value} (h:NewR w w' g xs ys v):NewR w w'.drew g xs ys v:=by
 obtain ⟨a,m,c,b,k,d,e,h1,h2,h3,h4,h5⟩:=h
 exact ⟨a,m,c,b,k,d,e,h1.below (Below.refl _ _).drew,h2.below (Below.refl _ _).drew,h3,h4,h5.drew⟩
theorem Out.chgQ {S:Nat → Prop} {w w':World} {R:Nat} (h:Out w R) (k:Chg S w w') (hs:¬ S R):Out w' R :=
 ⟨fun i hi => by obtain ⟨v,hv⟩:=h.cells i hi; exact ⟨v,k.cell hs hv⟩,fun i hi => by rw [World.frozen?_of_block (w:=w) (k.block R h.lt hs)]; exact h.fz i hi,Nat.lt_of_lt_of_le h.lt k.size⟩
theorem SmX.next {w wr wy:World} {Ro Rx Ry:Nat} {z:Nq} {gy:Bool} {ay by_:Option Addr} {ny cy my dy:Nat} {xy yy:List Nat} (h:SmX w wr Ro Rx z) (hN:LdY wr wy Ry gy ay ny cy xy by_ my dy yy) (ox:Ok xy) (oy:Ok yy) (hm:MayR gy xy yy = true) :
  SmX w (((wy.setCell ⟨Rx,0,none⟩ (.bool gy)).setCell ⟨Rx,1,none⟩ (.slice ay ny cy)).setCell ⟨Rx,2,none⟩ (.slice by_ my dy)) Ro Rx ⟨gy,ay,ny,cy,xy,by_,my,dy,yy⟩:=by
 have hO:=(h.tx.keep hN.bel).out
 have c4:=(three_set wy Rx (.bool gy) (.slice ay ny cy) (.slice by_ my dy) hO.cells).2.2.2
 have hlt:=h.tx.lt
 have hr:=h.rx
 have hB:=h.bel.trans (hN.bel.mono h.bel.size)
 exact ⟨hB.trans (c4.below hB.size (fun k hk e => by have:=h.ro; omega)),(h.out.keep hN.bel).chgQ c4 (fun e => by omega),tri_setQ hO _ _ _,hN.num.chg c4 (fun p hp _ e => by have:=hN.na p hp; omega),hN.den.chg c4 (fun p hp _ e => by have:=hN.nb p hp; omega),ox,oy,hm,fun p hp => by have:=hN.na p hp; omega,fun p hp => by have:=hN.nb p hp; omega,h.ro,h.rx⟩
theorem ret_Q {w wy:World} {Ro:Nat} {gy:Bool} {ay by_:Option Addr} {ny cy my dy:Nat} {xy yy:List Nat} (hO:Out wy Ro) (hx:Sl wy ay ny cy xy) (hy:Sl wy by_ my dy yy) (na:NewAt (Ro + 1) ay) (nb:NewAt (Ro + 1) by_) (hB:Below w.heap.size w wy) (hR:w.heap.size ≤ Ro) :
  NewR w (((wy.setCell ⟨Ro,0,none⟩ (.bool gy)).setCell ⟨Ro,1,none⟩ (.slice ay ny cy)).setCell ⟨Ro,2,none⟩ (.slice by_ my dy)) gy xy yy (ratV gy ay ny cy by_ my dy):=by
 have c4:=(three_set wy Ro (.bool gy) (.slice ay ny cy) (.slice by_ my dy) hO.cells).2.2.2
 exact ⟨ay,ny,cy,by_,my,dy,rfl,hx.chg c4 (fun p hp _ e => by have:=na p hp; omega),hy.chg c4 (fun p hp _ e => by have:=nb p hp; omega),fun p hp => by have:=na p hp; omega,fun p hp => by have:=nb p hp; omega,hB.trans (c4.below hB.size (fun k hk e => by omega))⟩
structure FdX (w wr:World) (Rz Ro B:Nat) (z:Nq):Prop where
 bel:Below w.heap.size w wr
 out:Out wr Ro
 tx:Tri wr Rz (.bool z.g) (.slice z.a z.n z.c) (.slice z.b z.m z.d)
 num:Sl wr z.a z.n z.c z.x
 den:Sl wr z.b z.m z.d z.y
 ox:Ok z.x
 oy:Ok z.y
 may:MayR z.g z.x z.y = true
 na:NewAt B z.a
 nb:NewAt B z.b
 pa:∀ p,z.a = some p → z.x ≠ [] → ¬ p.block = Ro
 pb:∀ p,z.b = some p → z.y ≠ [] → ¬ p.block = Ro
 rz:w.heap.size ≤ Rz
 ro:w.heap.size ≤ Ro
 ne:Rz ≠ Ro
 hB:B ≤ w.heap.size
def FdP (w w':World) (B:Nat) (r:(Bool × List Nat × List Nat) × Int) (e:Ending):Prop:=∃ a m c b k d,e = .returned (.tuple #[ratV r.1.1 a m c b k d,.int .i64 r.2]) ∧ Sl w' a m c r.1.2.1 ∧ Sl w' b k d r.1.2.2 ∧ NewAt B a ∧ NewAt B b ∧ Below w.heap.size w w'
theorem FdX.next {w wr wk:World} {Rz Ro B:Nat} {z:Nq} {gy:Bool} {ay by_:Option Addr} {ny cy my dy:Nat} {xy yy:List Nat} (h:FdX w wr Rz Ro B z) (hb:Below wr.heap.size wr wk) (hx:Sl wk ay ny cy xy) (hy:Sl wk by_ my dy yy) (nx:NewAt wr.heap.size ay) (ny_:NewAt wr.heap.size by_) (ox:Ok xy) (oy:Ok yy) (hm:MayR gy xy yy = true) :
  FdX w (((wk.setCell ⟨Rz,0,none⟩ (.bool gy)).setCell ⟨Rz,1,none⟩ (.slice ay ny cy)).setCell ⟨Rz,2,none⟩ (.slice by_ my dy)) Rz Ro B ⟨gy,ay,ny,cy,xy,by_,my,dy,yy⟩:=by
 have hO:=(h.tx.keep hb).out
 have c4:=(three_set wk Rz (.bool gy) (.slice ay ny cy) (.slice by_ my dy) hO.cells).2.2.2
 have hlt:=h.tx.lt
 have hlo:=h.out.lt
 have hB:=h.bel.trans (hb.mono h.bel.size)
 have hs:=h.bel.size
 have hbb:=h.hB
 exact ⟨hB.trans (c4.below hB.size (fun k hk e => by have:=h.rz; omega)),(h.out.keep hb).chgQ c4 (fun e => h.ne e.symm),tri_setQ hO _ _ _,hx.chg c4 (fun p hp _ e => by have:=nx p hp; omega),hy.chg c4 (fun p hp _ e => by have:=ny_ p hp; omega),ox,oy,hm,fun p hp => by have:=nx p hp; omega,fun p hp => by have:=ny_ p hp; omega,fun p hp _ e => by have:=nx p hp; omega,fun p hp _ e => by have:=ny_ p hp; omega,h.rz,h.ro,h.ne,h.hB⟩
theorem addF_err {g1 g2 g:Bool} {x1 y1 x2 y2 x y:List Nat} {e:Int} (h:AddF g1 x1 y1 g2 x2 y2 = ((g,x,y),e)) (he:e ≠ 0):g = false ∧ x = [] ∧ y = []:=by
 unfold AddF at h
 split at h
 ·split at h
  ·cases h; exact ⟨rfl,rfl,rfl⟩
  ·cases h; exact absurd rfl he
 ·cases h; exact ⟨rfl,rfl,rfl⟩
theorem ret_F {w wy:World} {Ro B:Nat} {gy:Bool} {ay by_:Option Addr} {ny cy my dy:Nat} {xy yy:List Nat} (hO:Out wy Ro) (hx:Sl wy ay ny cy xy) (hy:Sl wy by_ my dy yy) (na:NewAt B ay) (nb:NewAt B by_) (pa:∀ p,ay = some p → xy ≠ [] → ¬ p.block = Ro) (pb:∀ p,by_ = some p → yy ≠ [] → ¬ p.block = Ro) (hB:Below w.heap.size w wy) (hR:w.heap.size ≤ Ro) (er:Int) :
  FdP w (((wy.setCell ⟨Ro,0,none⟩ (.bool gy)).setCell ⟨Ro,1,none⟩ (.slice ay ny cy)).setCell ⟨Ro,2,none⟩ (.slice by_ my dy)) B ((gy,xy,yy),er) (.returned (.tuple #[.agg #[.bool gy,.slice ay ny cy,.slice by_ my dy],.int .i64 er])):=by
 have c4:=(three_set wy Ro (.bool gy) (.slice ay ny cy) (.slice by_ my dy) hO.cells).2.2.2
 exact ⟨ay,ny,cy,by_,my,dy,rfl,hx.chg c4 (fun p hp hh e => pa p hp hh e),hy.chg c4 (fun p hp hh e => pb p hp hh e),na,nb,hB.trans (c4.below hB.size (fun k hk e => by omega))⟩
theorem FdP.drewQ {w w':World} {B:Nat} {r:(Bool × List Nat × List Nat) × Int} {e:Ending} (h:FdP w w' B r e):FdP w w'.drew B r e:=by
 obtain ⟨a,m,c,b,k,d,e,h1,h2,h3,h4,h5⟩:=h
 exact ⟨a,m,c,b,k,d,e,h1.below (Below.refl _ _).drew,h2.below (Below.refl _ _).drew,h3,h4,h5.drew⟩
end Go.Proofs.YtgfpfjghdbcihaaGreatDoor
