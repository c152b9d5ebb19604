/- Wrg -/
import Derived.Test.YthmcfpeobkgihaaGreatDoorWrf
import Derived.Test.YthmcfpeobkgihaaGreatDoorWjb
namespace Go.Proofs.YthmcfpeobkgihaaGreatDoor
open Go.RowKit Go.Deep
set_option linter.unusedVariables false
set_option maxRecDepth 100000 in
set_option maxHeartbeats 16000000 in
theorem wDiv_any (g1 g2:Bool) (a1 b1 a2 b2:Option Addr) (n1 c1 m1 d1 n2 c2 m2 d2:Nat) (x1 y1 x2 y2:List Nat) (w:World) (hx1:Sl w a1 n1 c1 x1) (hy1:Sl w b1 m1 d1 y1) (hx2:Sl w a2 n2 c2 x2) (hy2:Sl w b2 m2 d2 y2) (ox1:Ok x1) (oy1:Ok y1) (ox2:Ok x2) (oy2:Ok y2) :
  Calls Tryz.prog 44 #[ratV g1 a1 n1 c1 b1 m1 d1,ratV g2 a2 n2 c2 b2 m2 d2] w fun e w' => ResF w w' (DivF g1 x1 y1 g2 x2 y2) e:=by
 obtain ⟨⟨⟨SG,LN,LD⟩,ER⟩,hFF⟩:∃ r,DivF g1 x1 y1 g2 x2 y2 = r:=⟨_,rfl⟩
 rw [hFF]
 unfold ResF
 dsimp only
 have bx:=Box.made w g1 a1 n1 c1 b1 m1 d1
 obtain ⟨wa,hwa⟩:∃ wa,ratBox w g1 a1 n1 c1 b1 m1 d1 = wa:=⟨_,rfl⟩
 rw [hwa] at bx
 have by_:=Box.made wa g2 a2 n2 c2 b2 m2 d2
 obtain ⟨wb,hwb⟩:∃ wb,ratBox wa g2 a2 n2 c2 b2 m2 d2 = wb:=⟨_,rfl⟩
 rw [hwb] at by_
 have hba:Below w.heap.size w wa:=by rw [← hwa]; exact bAl
 have hbb:Below wa.heap.size wa wb:=by rw [← hwb]; exact bAl
 unfold ratBox at hwa hwb
 obtain ⟨wo,hwo⟩:∃ x,wb.alloc (.cells #[.bool false,.slice none 0 0,.slice none 0 0] 25) = x:=⟨_,rfl⟩
 have hbo:Below wb.heap.size wb wo:=by rw [← hwo]; exact bAl
 have hO:Out wo wb.heap.size:=by rw [← hwo]; exact Out.made wb
 have bx2:=(bx.keep hbb).keep hbo
 have by2:=by_.keep hbo
 have hB:=(hba.trans (hbb.mono hba.size)).trans (hbo.mono (Nat.le_trans hba.size hbb.size))
 have hRw:w.heap.size ≤ wb.heap.size:=Nat.le_trans hba.size hbb.size
 have hlab:w.heap.size ≠ wa.heap.size:=by have:=bx.lt; omega
 have hlab2:w.heap.size < wb.heap.size:=Nat.lt_of_lt_of_le bx.lt hbb.size
 have hlab3:wa.heap.size < wb.heap.size:=by_.lt
 have hne1:w.heap.size ≠ wb.heap.size:=by omega
 have hne2:wa.heap.size ≠ wb.heap.size:=by omega
 have hne3:wb.heap.size ≠ w.heap.size:=by omega
 have hne4:wb.heap.size ≠ wa.heap.size:=by omega
 have p0:=bx2.d0
 have p1:=bx2.d1
 have p2:=bx2.d2
 have p3:=by2.d0
 have p4:=by2.d1
 have p5:=by2.d2
 have HRw:=Hd hRw
 have HO:=Hd hO
 have HBo:=Hd hB
 have K1:=wmay_any g1 a1 b1 n1 c1 m1 d1 x1 y1 wo (hx1.below hB) (hy1.below hB) ox1 oy1
 have HK2:=Hd (fun (W:World) (hb:Below wo.heap.size wo W) => wmay_any g2 a2 b2 n2 c2 m2 d2 x2 y2 W ((hx2.below hB).below hb) ((hy2.below hB).below hb) ox2 oy2)
 cases k1:MayR g1 x1 y1
 ·rw [k1] at K1
  have h40:=hFF.symm.trans (show DivF g1 x1 y1 g2 x2 y2 = ((false,[],[]),40) from by unfold DivF; rw [k1]; rfl)
  cases h40
  clear hFF
  have HK1:=Hd K1
  clear K1 HK2 hx1 hy1 hx2 hy2 bx by_ bx2 by2 hba hbb hbo hB hO
  unfold ratV at HK1 ⊢
  go_enter Tryz.func44,Tryz.ntmps44
  go_wp2_with fail
  refine (Uh HK1).mono ?_
  rintro _ w3 ⟨rfl,b3⟩
  have HO3:=Hd ((Uh HO).keep b3)
  have HB3:=Hd ((Uh HBo).trans (b3.mono (Uh HBo).size))
  clear b3 HK1 HO HBo
  have hO3:=Uh HO3
  obtain ⟨x0,q0⟩:=hO3.cells 0 (by decide)
  obtain ⟨x1,q1⟩:=hO3.cells 1 (by decide)
  obtain ⟨x2,q2⟩:=hO3.cells 2 (by decide)
  have r0:=hO3.fz 0 (by decide)
  have r1:=hO3.fz 1 (by decide)
  have r2:=hO3.fz 2 (by decide)
  have H4:=Hd (three_set w3 wb.heap.size (.bool false) (.slice none 0 0) (.slice none 0 0) hO3.cells)
  clear hO3
  go_wp2_with fail
  obtain ⟨p0,p1,p2,c4⟩:=Uh H4
  generalize ((w3.setCell ⟨wb.heap.size,0,none⟩ (.bool false)).setCell ⟨wb.heap.size,1,none⟩ (.slice none 0 0)).setCell ⟨wb.heap.size,2,none⟩ (.slice none 0 0) = wf at *
  refine bodyPost_ret (by simp [results,Tryz.results44,go_sem,p0,p1,p2]; try rfl) rfl ?_
  exact ⟨_,rfl,newR_of (Uh HRw) (Uh HO3).lt (Uh HB3) (sl_nil _) (newAt_nil _) (sl_nil _) (newAt_nil _) c4 false⟩
 ·rw [k1] at K1
  have HK1:=Hd K1
  clear K1
  cases k2:MayR g2 x2 y2
  ·rw [k2] at HK2
   have h40:=hFF.symm.trans (show DivF g1 x1 y1 g2 x2 y2 = ((false,[],[]),40) from by unfold DivF; rw [k1,k2]; rfl)
   cases h40
   clear hFF
   clear hx1 hy1 hx2 hy2 bx by_ bx2 by2 hba hbb hbo hB hO
   unfold ratV at HK1 HK2 ⊢
   go_enter Tryz.func44,Tryz.ntmps44
   go_wp2_with fail
   refine (Uh HK1).mono ?_
   rintro _ w2 ⟨rfl,b2⟩
   have e0:=(ck b2 p0)
   have e1:=(ck b2 p1)
   have e2:=(ck b2 p2)
   have e3:=(ck b2 p3)
   have e4:=(ck b2 p4)
   have e5:=(ck b2 p5)
   have HO2:=Hd ((Uh HO).keep b2)
   have HB2:=Hd ((Uh HBo).trans (b2.mono (Uh HBo).size))
   have HBL2:=Hd b2
   clear b2 HK1 HO HBo
   go_wp2_with fail
   refine (Uh HK2 _ (Uh HBL2)).mono ?_
   rintro _ w3 ⟨rfl,b3⟩
   have HO3:=Hd ((Uh HO2).keep b3)
   have HB3:=Hd ((Uh HB2).trans (b3.mono (Uh HB2).size))
   clear b3 HK2 HO2 HB2 HBL2
   have hO3:=Uh HO3
   obtain ⟨x0,q0⟩:=hO3.cells 0 (by decide)
   obtain ⟨x1,q1⟩:=hO3.cells 1 (by decide)
   obtain ⟨x2,q2⟩:=hO3.cells 2 (by decide)
   have r0:=hO3.fz 0 (by decide)
   have r1:=hO3.fz 1 (by decide)
   have r2:=hO3.fz 2 (by decide)
   have H4:=Hd (three_set w3 wb.heap.size (.bool false) (.slice none 0 0) (.slice none 0 0) hO3.cells)
   clear hO3
   go_wp2_with fail
   obtain ⟨p0,p1,p2,c4⟩:=Uh H4
   generalize ((w3.setCell ⟨wb.heap.size,0,none⟩ (.bool false)).setCell ⟨wb.heap.size,1,none⟩ (.slice none 0 0)).setCell ⟨wb.heap.size,2,none⟩ (.slice none 0 0) = wf at *
   refine bodyPost_ret (by simp [results,Tryz.results44,go_sem,p0,p1,p2]; try rfl) rfl ?_
   exact ⟨_,rfl,newR_of (Uh HRw) (Uh HO3).lt (Uh HB3) (sl_nil _) (newAt_nil _) (sl_nil _) (newAt_nil _) c4 false⟩
  ·rw [k2] at HK2
   obtain ⟨kx1,ky1,ey1,_,l1⟩:=MayR.parts k1
   obtain ⟨kx2,ky2,ey2,_,l2⟩:=MayR.parts k2
   have s1:n1 ≤ 2048:=by have:=hx1.len; have:=MayL.len kx1; omega
   have s2:m1 ≤ 2048:=by have:=hy1.len; have:=MayL.len ky1; omega
   have s3:n2 ≤ 2048:=by have:=hx2.len; have:=MayL.len kx2; omega
   have s4:m2 ≤ 2048:=by have:=hy2.len; have:=MayL.len ky2; omega
   by_cases hx2n:x2 = []
   ·have h3:=hFF.symm.trans (show DivF g1 x1 y1 g2 x2 y2 = ((false,[],[]),3) from by unfold DivF; rw [k1,k2,if_pos hx2n]; rfl)
    cases h3
    have hn20:n2 = 0:=by rw [← hx2.len,hx2n]; rfl
    subst hn20
    clear hFF hx1 hy1 hx2 hy2 bx by_ bx2 by2 hba hbb hbo hB hO k1 k2 kx1 kx2 ky1 ky2 ey1 ey2 l1 l2 hx2n
    unfold ratV at HK1 HK2 ⊢
    go_enter Tryz.func44,Tryz.ntmps44
    go_wp2_with fail
    refine (Uh HK1).mono ?_
    rintro _ w2 ⟨rfl,b2⟩
    have e0:=(ck b2 p0)
    have e1:=(ck b2 p1)
    have e2:=(ck b2 p2)
    have e3:=(ck b2 p3)
    have e4:=(ck b2 p4)
    have e5:=(ck b2 p5)
    have HBL2:=Hd b2
    clear b2 HK1
    go_wp2_with fail
    refine (Uh HK2 _ (Uh HBL2)).mono ?_
    rintro _ w3 ⟨rfl,b3⟩
    have f0:=(ck b3 e0)
    have f1:=(ck b3 e1)
    have f2:=(ck b3 e2)
    have f3:=(ck b3 e3)
    have f4:=(ck b3 e4)
    have f5:=(ck b3 e5)
    have HBL3:=Hd ((Uh HBL2).trans (b3.mono (Uh HBL2).size))
    clear b3 HK2 HBL2 e0 e1 e2 e3 e4 e5 p0 p1 p2 p3 p4 p5
    have HO3:=Hd ((Uh HO).keep (Uh HBL3))
    have HB3:=Hd ((Uh HBo).trans ((Uh HBL3).mono (Uh HBo).size))
    clear HBL3
    have hO3:=Uh HO3
    obtain ⟨x0,q0⟩:=hO3.cells 0 (by decide)
    obtain ⟨x1,q1⟩:=hO3.cells 1 (by decide)
    obtain ⟨x2,q2⟩:=hO3.cells 2 (by decide)
    have r0:=hO3.fz 0 (by decide)
    have r1:=hO3.fz 1 (by decide)
    have r2:=hO3.fz 2 (by decide)
    have H4:=Hd (three_set w3 wb.heap.size (.bool false) (.slice none 0 0) (.slice none 0 0) hO3.cells)
    clear hO3
    go_wp2_with fail
    obtain ⟨p0,p1,p2,c4⟩:=Uh H4
    generalize ((w3.setCell ⟨wb.heap.size,0,none⟩ (.bool false)).setCell ⟨wb.heap.size,1,none⟩ (.slice none 0 0)).setCell ⟨wb.heap.size,2,none⟩ (.slice none 0 0) = wf at *
    refine bodyPost_ret (by simp [results,Tryz.results44,go_sem,p0,p1,p2]; try rfl) rfl ?_
    exact ⟨_,rfl,newR_of (Uh HRw) (Uh HO3).lt (Uh HB3) (sl_nil _) (newAt_nil _) (sl_nil _) (newAt_nil _) c4 false⟩
   ·have hx2p:0 < val x2:=val_pos_of_may kx2 hx2n
    have hn2p:0 < n2:=by rw [← hx2.len]; exact List.length_pos_iff.2 hx2n
    have tn2:((n2:Int) == 0) = false:=by simp; omega
    have l2':Nat.gcd (val y2) (val x2) = 1:=by rw [Nat.gcd_comm]; exact l2
    have HR:=Hd ((show lowF (g1 != g2) (val x1 * val y2) (val y1 * val x2) = DivF g1 x1 y1 g2 x2 y2 from by
     rw [lowF_is (g:=(g1 != g2)) (sg:=(g1 != g2)) (N:=mulN x1 y1 y2 x2) (M:=mulD x1 y1 y2 x2) (mul_low l1 l2' (mayR_pos k1) hx2p) (Nat.mul_pos (div_pos_of_dvd (Nat.gcd_dvd_right _ _) (mayR_pos k1)) (div_pos_of_dvd (Nat.gcd_dvd_right _ _) hx2p)) (Nat.mul_pos (mayR_pos k1) hx2p) ?_]
     ·unfold DivF; rw [k1,k2,if_neg hx2n]; rfl
     ·rw [← nI_mul,← nI_mul]; exact congrArg _ (mul_val (mayR_pos k1) hx2p)).trans hFF)
    clear hFF
    have HM1:=Hd (fun (W:World) (hb:Below wo.heap.size wo W) => wmulw_any a1 b2 n1 c1 m2 d2 x1 y2 W ((hx1.below hB).below hb) ((hy2.below hB).below hb) ox1 oy2 (by omega))
    have HM2:=Hd (fun (W:World) (hb:Below wo.heap.size wo W) => wmulw_any b1 a2 m1 d1 n2 c2 y1 x2 W ((hy1.below hB).below hb) ((hx2.below hB).below hb) oy1 ox2 (by omega))
    have HYP:=Hd (Nat.mul_pos (mayR_pos k1) hx2p)
    have HL1:=Hd (mul_len ox1 oy2)
    have HL2:=Hd (mul_len oy1 ox2)
    have HLN:=Hd (And.intro hx1.len (And.intro hy1.len (And.intro hx2.len hy2.len)))
    clear hx1 hy1 hx2 hy2 bx by_ bx2 by2 hba hbb hbo hB hO k1 k2 kx1 kx2 ky1 ky2 ey1 ey2 l1 l2 l2' hx2p hx2n
    unfold ratV at HK1 HK2 ⊢
    go_enter Tryz.func44,Tryz.ntmps44
    go_wp2_with fail
    refine (Uh HK1).mono ?_
    rintro _ w2 ⟨rfl,b2⟩
    have e0:=(ck b2 p0)
    have e1:=(ck b2 p1)
    have e2:=(ck b2 p2)
    have e3:=(ck b2 p3)
    have e4:=(ck b2 p4)
    have e5:=(ck b2 p5)
    have HBL2:=Hd b2
    clear b2 HK1
    go_wp2_with fail
    refine (Uh HK2 _ (Uh HBL2)).mono ?_
    rintro _ w3 ⟨rfl,b3⟩
    have f0:=(ck b3 e0)
    have f1:=(ck b3 e1)
    have f2:=(ck b3 e2)
    have f3:=(ck b3 e3)
    have f4:=(ck b3 e4)
    have f5:=(ck b3 e5)
    have HBL3:=Hd ((Uh HBL2).trans (b3.mono (Uh HBL2).size))
    clear b3 HK2 HBL2 e0 e1 e2 e3 e4 e5 p0 p1 p2 p3 p4 p5
    have HM1':=Hd (fun (W:World) (hb:Below w3.heap.size w3 W) => Uh HM1 W ((Uh HBL3).trans (hb.mono (Uh HBL3).size)))
    have HM2':=Hd (fun (W:World) (hb:Below w3.heap.size w3 W) => Uh HM2 W ((Uh HBL3).trans (hb.mono (Uh HBL3).size)))
    clear HM1 HM2
    generalize val x1 * val y2 = XX at *
    generalize val y1 * val x2 = YY at *
    go_wp2_with fail
    go_region_held3 (fun w' => w'.cell? ⟨w.heap.size,0,none⟩ = some (.bool g1) ∧ w'.cell? ⟨w.heap.size,1,none⟩ = some (.slice a1 n1 c1) ∧ w'.cell? ⟨w.heap.size,2,none⟩ = some (.slice b1 m1 d1) ∧ w'.cell? ⟨wa.heap.size,0,none⟩ = some (.bool g2) ∧ w'.cell? ⟨wa.heap.size,1,none⟩ = some (.slice a2 n2 c2) ∧ w'.cell? ⟨wa.heap.size,2,none⟩ = some (.slice b2 m2 d2)) (first | go_keep | (exact ⟨k0,k1,k2,k3,k4,k5⟩) | (exact ⟨j0,j1,j2,j3,j4,j5⟩) | (exact ⟨i0,i1,i2,i3,i4,i5⟩))
     (first
      | (go_at_call_of 54 (Value.slice a1 n1 c1); refine (Uh HM1' _ (Below.refl _ _).drew).mono ?_; rintro _ wk ⟨aq,mq,cq,rfl,sq,nq,hq,bl_k⟩; have hb_k:Below w3.heap.size w3 wk:=(Below.refl _ _).drew.trans bl_k; have k0:=(ck hb_k f0); have k1:=(ck hb_k f1); have k2:=(ck hb_k f2); have k3:=(ck hb_k f3); have k4:=(ck hb_k f4); have k5:=(ck hb_k f5); have SQ:=Hd (And.intro sq nq); clear sq nq hq; have HB_k:=Hd hb_k; clear hb_k bl_k)
      | (go_at_call_of 54 (Value.slice b1 m1 d1); refine (Uh HM2' _ (Uh HB_k)).mono ?_; rintro _ wj ⟨ar,mr,cr,rfl,sr,nr,hr,bl_j⟩; have hb_j:Below w3.heap.size w3 wj:=(Uh HB_k).trans (bl_j.mono (Uh HB_k).size); have j0:=(ck bl_j k0); have j1:=(ck bl_j k1); have j2:=(ck bl_j k2); have j3:=(ck bl_j k3); have j4:=(ck bl_j k4); have j5:=(ck bl_j k5); have SR:=Hd (And.intro ((Uh SQ).1.below bl_j) (And.intro (Uh SQ).2 (And.intro sr nr))); have hlq:=((Uh SQ).1.below bl_j).len; have hlr:=sr.len; clear sr nr hr SQ; have HB_j:=Hd hb_j; clear hb_j bl_j)
      | (go_at_call 80; have KL:=wlower_any (g1 != g2) aq ar mq cq mr cr (limbs XX) (limbs YY) wj (Uh SR).1 (Uh SR).2.2.1 (limbs_ok _) (limbs_ok _) (limbs_norm _) (limbs_norm _) (fun e => by have:=limbs_eq_nil.1 e; have:=Uh HYP; omega) (by have:=Uh HL1; have:=Uh HLN; omega) (by have:=Uh HL2; have:=Uh HLN; omega); rw [limbs_v,limbs_v,Uh HR] at KL; unfold ResF at KL; dsimp only at KL; refine KL.mono ?_; clear KL; rintro _ wi ⟨vv,rfl,aN,mN,cN,aD,mD,cD,rfl,sN,sD,nN,nD,bl_i⟩; unfold ratV; have i0:=(ck bl_i j0); have i1:=(ck bl_i j1); have i2:=(ck bl_i j2); have i3:=(ck bl_i j3); have i4:=(ck bl_i j4); have i5:=(ck bl_i j5); have hzz:wb.heap.size + 1 ≤ wj.heap.size:=Nat.le_trans (Uh HO).lt (Nat.le_trans (Uh HBL3).size (Uh HB_j).size); have HS3:=Hd (And.intro sN (And.intro (show NewAt (wb.heap.size + 1) aN from fun x hx => Nat.le_trans hzz (nN x hx)) (And.intro sD (show NewAt (wb.heap.size + 1) aD from fun x hx => Nat.le_trans hzz (nD x hx))))); have hb_i:=(Uh HB_j).trans (bl_i.mono (Uh HB_j).size); have HB_i:=Hd hb_i; have hO3:=(Uh HO).keep ((Uh HBL3).trans (hb_i.mono (Uh HBL3).size)); obtain ⟨x0,q0⟩:=hO3.cells 0 (by decide); obtain ⟨x1',q1⟩:=hO3.cells 1 (by decide); obtain ⟨x2',q2⟩:=hO3.cells 2 (by decide); have r0:=hO3.fz 0 (by decide); have r1:=hO3.fz 1 (by decide); have r2:=hO3.fz 2 (by decide); have HO3:=Hd hO3; clear sN sD nN nD bl_i hb_i hO3))
    have H4:=Hd (three_set wi wb.heap.size (.bool SG) (.slice aN mN cN) (.slice aD mD cD) (Uh HO3).cells)
    have HB3:=Hd ((Uh HBo).trans (((Uh HBL3).trans ((Uh HB_i).mono (Uh HBL3).size)).mono (Uh HBo).size))
    clear q0 q1 q2 r0 r1 r2
    try go_wp2_with fail
    obtain ⟨t0,t1,t2,c4⟩:=Uh H4
    generalize ((wi.setCell ⟨wb.heap.size,0,none⟩ (.bool SG)).setCell ⟨wb.heap.size,1,none⟩ (.slice aN mN cN)).setCell ⟨wb.heap.size,2,none⟩ (.slice aD mD cD) = wf at *
    refine bodyPost_ret (by simp [results,Tryz.results44,go_sem,t0,t1,t2]; try rfl) rfl ?_
    obtain ⟨sN,nN,sD,nD⟩:=Uh HS3
    exact ⟨_,rfl,newR_of (Uh HRw) (Uh HO3).lt (Uh HB3) sN nN sD nD c4 SG⟩
set_option maxRecDepth 100000 in
set_option maxHeartbeats 8000000 in
theorem wSign_any (g1:Bool) (a1 b1:Option Addr) (n1 c1 m1 d1:Nat) (x1 y1:List Nat) (w:World) (hx1:Sl w a1 n1 c1 x1) (hy1:Sl w b1 m1 d1 y1) (ox1:Ok x1) (oy1:Ok y1) :
  Calls Tryz.prog 36 #[ratV g1 a1 n1 c1 b1 m1 d1] w fun e w' => e = .returned (.int .i64 (SignF g1 x1 y1)) ∧ Below w.heap.size w w':=by
 have bx:=Box.made w g1 a1 n1 c1 b1 m1 d1
 obtain ⟨wa,hwa⟩:∃ wa,ratBox w g1 a1 n1 c1 b1 m1 d1 = wa:=⟨_,rfl⟩
 rw [hwa] at bx
 unfold ratBox at hwa
 have hB:=bx.bel
 have p0:=bx.d0
 have p1:=bx.d1
 have p2:=bx.d2
 have HB:=Hd hB
 have K1:=wmay_any g1 a1 b1 n1 c1 m1 d1 x1 y1 wa (hx1.below hB) (hy1.below hB) ox1 oy1
 have hl:=hx1.len
 obtain ⟨SF,hSF⟩:∃ s,SignF g1 x1 y1 = s:=⟨_,rfl⟩
 rw [hSF]
 by_cases h0:x1 = []
 ·have hn:n1 = 0:=by rw [← hl,h0]; rfl
  subst hn
  have hS:SF = 0:=by
   rw [← hSF]
   unfold SignF
   by_cases hm:MayR g1 x1 y1 = true
   ·rw [if_pos hm]
    have hg:g1 = false:=by
     cases g1
     ·rfl
     ·exact absurd h0 ((MayR.parts hm).2.2.2.1 rfl)
    unfold signR
    simp [hg,h0]
   ·rw [if_neg hm]
  subst hS
  clear hSF K1 hx1 hy1 bx hB h0 hl
  unfold ratV
  go_enter Tryz.func36,Tryz.ntmps36
  go_wp2_with fail
  go_ret
  exact ⟨rfl,Uh HB⟩
 ·have hn:0 < n1:=by rw [← hl]; exact List.length_pos_iff.2 h0
  have t0:((n1:Int) == 0) = false:=by simp; omega
  cases hm:MayR g1 x1 y1
  ·rw [hm] at K1
   have hS:SF = 0:=by rw [← hSF]; unfold SignF; rw [hm]; rfl
   subst hS
   have HK1:=Hd K1
   clear hSF K1 hx1 hy1 bx hB h0 hl
   unfold ratV at HK1 ⊢
   go_enter Tryz.func36,Tryz.ntmps36
   go_wp2_with fail
   refine (Uh HK1).mono ?_
   rintro _ w1 ⟨rfl,b1'⟩
   have HB1:=Hd ((Uh HB).trans (b1'.mono (Uh HB).size))
   clear b1' HK1
   go_wp2_with fail
   go_ret
   exact ⟨rfl,Uh HB1⟩
  ·rw [hm] at K1
   have HK1:=Hd K1
   have hS:SF = if g1 then -1 else 1:=by rw [← hSF]; unfold SignF signR; rw [hm]; simp [h0]
   clear hSF K1 hx1 hy1 bx hB h0 hl
   unfold ratV at HK1 ⊢
   cases g1
   ·obtain rfl:SF = 1:=by rw [hS]; rfl
    clear hS
    go_enter Tryz.func36,Tryz.ntmps36
    go_wp2_with fail
    refine (Uh HK1).mono ?_
    rintro _ w1 ⟨rfl,b1'⟩
    have e0:=(ck b1' p0)
    have HB1:=Hd ((Uh HB).trans (b1'.mono (Uh HB).size))
    clear b1' HK1
    go_wp2_with fail
    go_ret
    exact ⟨rfl,Uh HB1⟩
   ·obtain rfl:SF = -1:=by rw [hS]; rfl
    clear hS
    go_enter Tryz.func36,Tryz.ntmps36
    go_wp2_with fail
    refine (Uh HK1).mono ?_
    rintro _ w1 ⟨rfl,b1'⟩
    have e0:=(ck b1' p0)
    have HB1:=Hd ((Uh HB).trans (b1'.mono (Uh HB).size))
    clear b1' HK1
    go_wp2_with fail
    go_ret
    exact ⟨rfl,Uh HB1⟩

theorem cmpN_swap (a b:Nat):cmpN b a = -cmpN a b:=by
 rw [cmpN_sign,cmpN_sign,← Int.sign_neg]
 congr 1
 omega
theorem cmpR_ne {g1 g2:Bool} {x1 y1 x2 y2:List Nat} (h:signR g1 x1 ≠ signR g2 x2):(signR g1 x1 - signR g2 x2).sign = cmpR g1 x1 y1 g2 x2 y2:=by
 unfold cmpR
 by_cases h1:signR g1 x1 < signR g2 x2
 ·rw [if_pos h1,Int.sign_eq_neg_one_of_neg (by omega)]
 ·rw [if_neg h1,if_pos (by omega),Int.sign_eq_one_of_pos (by omega)]
theorem cmpR_eq {g1 g2:Bool} {x1 y1 x2 y2:List Nat} (h1:MayR g1 x1 y1 = true) (h2:MayR g2 x2 y2 = true) (h:signR g1 x1 = signR g2 x2):signR g1 x1 * cmpN (val x1 * val y2) (val x2 * val y1) = cmpR g1 x1 y1 g2 x2 y2:=by
 unfold cmpR
 rw [if_neg (by omega),if_neg (by omega)]
 cases g1
 ·by_cases hz:x1 = []
  ·have hz2:x2 = []:=by
    unfold signR at h
    simp [hz] at h
    cases g2
    ·simp at h; exact h
    ·simp at h
   subst hz hz2
   have e:signR false [] = 0:=rfl
   rw [e,Int.zero_mul]
   simp [val,cmpN]
  ·have e:signR false x1 = 1:=by unfold signR; simp [hz]
   rw [e,Int.one_mul]
   simp
 ·have e:signR true x1 = -1:=rfl
  rw [e,cmpN_swap (val x1 * val y2)]
  simp

set_option maxRecDepth 100000 in
set_option maxHeartbeats 16000000 in
theorem wCmp_any (g1 g2:Bool) (a1 b1 a2 b2:Option Addr) (n1 c1 m1 d1 n2 c2 m2 d2:Nat) (x1 y1 x2 y2:List Nat) (w:World) (hx1:Sl w a1 n1 c1 x1) (hy1:Sl w b1 m1 d1 y1) (hx2:Sl w a2 n2 c2 x2) (hy2:Sl w b2 m2 d2 y2) (ox1:Ok x1) (oy1:Ok y1) (ox2:Ok x2) (oy2:Ok y2) :
  Calls Tryz.prog 37 #[ratV g1 a1 n1 c1 b1 m1 d1,ratV g2 a2 n2 c2 b2 m2 d2] w fun e w' => e = .returned (.int .i64 (CmpF g1 x1 y1 g2 x2 y2)) ∧ Below w.heap.size w w':=by
 obtain ⟨CF,hCF⟩:∃ s,CmpF g1 x1 y1 g2 x2 y2 = s:=⟨_,rfl⟩
 rw [hCF]
 have bx:=Box.made w g1 a1 n1 c1 b1 m1 d1
 obtain ⟨wa,hwa⟩:∃ wa,ratBox w g1 a1 n1 c1 b1 m1 d1 = wa:=⟨_,rfl⟩
 rw [hwa] at bx
 have by_:=Box.made wa g2 a2 n2 c2 b2 m2 d2
 obtain ⟨wb,hwb⟩:∃ wb,ratBox wa g2 a2 n2 c2 b2 m2 d2 = wb:=⟨_,rfl⟩
 rw [hwb] at by_
 have hba:Below w.heap.size w wa:=by rw [← hwa]; exact bAl
 have hbb:Below wa.heap.size wa wb:=by rw [← hwb]; exact bAl
 unfold ratBox at hwa hwb
 have bx2:=bx.keep hbb
 have by2:=by_
 have hB:=hba.trans (hbb.mono hba.size)
 have p0:=bx2.d0
 have p1:=bx2.d1
 have p2:=bx2.d2
 have p3:=by2.d0
 have p4:=by2.d1
 have p5:=by2.d2
 have HBo:=Hd hB
 have K1:=wmay_any g1 a1 b1 n1 c1 m1 d1 x1 y1 wb (hx1.below hB) (hy1.below hB) ox1 oy1
 have HK2:=Hd (fun (W:World) (hb:Below wb.heap.size wb W) => wmay_any g2 a2 b2 n2 c2 m2 d2 x2 y2 W ((hx2.below hB).below hb) ((hy2.below hB).below hb) ox2 oy2)
 cases k1:MayR g1 x1 y1
 ·rw [k1] at K1
  obtain rfl:CF = 0:=by rw [← hCF]; unfold CmpF; rw [k1]; rfl
  have HK1:=Hd K1
  clear K1 HK2 hx1 hy1 hx2 hy2 bx by_ bx2 by2 hba hbb hB hCF
  unfold ratV at HK1 ⊢
  go_enter Tryz.func37,Tryz.ntmps37
  go_wp2_with fail
  refine (Uh HK1).mono ?_
  rintro _ w3 ⟨rfl,b3⟩
  have HB3:=Hd ((Uh HBo).trans (b3.mono (Uh HBo).size))
  clear b3 HK1
  go_wp2_with fail
  go_ret
  exact ⟨rfl,Uh HB3⟩
 ·rw [k1] at K1
  have HK1:=Hd K1
  clear K1
  cases k2:MayR g2 x2 y2
  ·rw [k2] at HK2
   obtain rfl:CF = 0:=by rw [← hCF]; unfold CmpF; rw [k1,k2]; rfl
   clear hx1 hy1 hx2 hy2 bx by_ bx2 by2 hba hbb hB hCF
   unfold ratV at HK1 HK2 ⊢
   go_enter Tryz.func37,Tryz.ntmps37
   go_wp2_with fail
   refine (Uh HK1).mono ?_
   rintro _ w2 ⟨rfl,b2⟩
   have e0:=(ck b2 p0)
   have e1:=(ck b2 p1)
   have e2:=(ck b2 p2)
   have e3:=(ck b2 p3)
   have e4:=(ck b2 p4)
   have e5:=(ck b2 p5)
   have HBL2:=Hd b2
   clear b2 HK1
   go_wp2_with fail
   refine (Uh HK2 _ (Uh HBL2)).mono ?_
   rintro _ w3 ⟨rfl,b3⟩
   have HB3:=Hd ((Uh HBo).trans (((Uh HBL2).trans (b3.mono (Uh HBL2).size)).mono (Uh HBo).size))
   clear b3 HK2 HBL2
   go_wp2_with fail
   go_ret
   exact ⟨rfl,Uh HB3⟩
  ·rw [k2] at HK2
   obtain ⟨kx1,ky1,ey1,_,l1⟩:=MayR.parts k1
   obtain ⟨kx2,ky2,ey2,_,l2⟩:=MayR.parts k2
   have s1:n1 ≤ 2048:=by have:=hx1.len; have:=MayL.len kx1; omega
   have s2:m1 ≤ 2048:=by have:=hy1.len; have:=MayL.len ky1; omega
   have s3:n2 ≤ 2048:=by have:=hx2.len; have:=MayL.len kx2; omega
   have s4:m2 ≤ 2048:=by have:=hy2.len; have:=MayL.len ky2; omega
   have HKS1:=Hd (fun (W:World) (hb:Below wb.heap.size wb W) => wSign_any g1 a1 b1 n1 c1 m1 d1 x1 y1 W ((hx1.below hB).below hb) ((hy1.below hB).below hb) ox1 oy1)
   have HKS2:=Hd (fun (W:World) (hb:Below wb.heap.size wb W) => wSign_any g2 a2 b2 n2 c2 m2 d2 x2 y2 W ((hx2.below hB).below hb) ((hy2.below hB).below hb) ox2 oy2)
   have e1:SignF g1 x1 y1 = signR g1 x1:=by unfold SignF; rw [k1]; rfl
   have e2:SignF g2 x2 y2 = signR g2 x2:=by unfold SignF; rw [k2]; rfl
   rw [e1] at HKS1
   rw [e2] at HKS2
   have hCF2:cmpR g1 x1 y1 g2 x2 y2 = CF:=by rw [← hCF]; unfold CmpF; rw [k1,k2]; rfl
   have hne:=fun h => (cmpR_ne (y1:=y1) (y2:=y2) (g1:=g1) (g2:=g2) (x1:=x1) (x2:=x2) h).trans hCF2
   have heq:=fun h => (cmpR_eq k1 k2 h).trans hCF2
   have sb1:-1 ≤ signR g1 x1 ∧ signR g1 x1 ≤ 1:=by unfold signR; split <;> (try split) <;> omega
   have sb2:-1 ≤ signR g2 x2 ∧ signR g2 x2 ≤ 1:=by unfold signR; split <;> (try split) <;> omega
   have HM1:=Hd (fun (W:World) (hb:Below wb.heap.size wb W) => wmulw_any a1 b2 n1 c1 m2 d2 x1 y2 W ((hx1.below hB).below hb) ((hy2.below hB).below hb) ox1 oy2 (by omega))
   have HM2:=Hd (fun (W:World) (hb:Below wb.heap.size wb W) => wmulw_any a2 b1 n2 c2 m1 d1 x2 y1 W ((hx2.below hB).below hb) ((hy1.below hB).below hb) ox2 oy1 (by omega))
   have HL1:=Hd (mul_len ox1 oy2)
   have HL2:=Hd (mul_len ox2 oy1)
   have HLN:=Hd (And.intro hx1.len (And.intro hy1.len (And.intro hx2.len hy2.len)))
   obtain ⟨sa,hsa⟩:∃ s,signR g1 x1 = s:=⟨_,rfl⟩
   obtain ⟨sb,hsb⟩:∃ s,signR g2 x2 = s:=⟨_,rfl⟩
   rw [hsa] at HKS1 sb1
   rw [hsb] at HKS2 sb2
   rw [hsa,hsb] at hne heq
   obtain ⟨XX,hXX⟩:∃ s,val x1 * val y2 = s:=⟨_,rfl⟩
   obtain ⟨YY,hYY⟩:∃ s,val x2 * val y1 = s:=⟨_,rfl⟩
   rw [hXX,hYY] at heq
   rw [hXX] at HM1 HL1
   rw [hYY] at HM2 HL2
   have HNE:=Hd hne
   have HEQ:=Hd heq
   have hcn:-1 ≤ cmpN XX YY ∧ cmpN XX YY ≤ 1:=by unfold cmpN; split <;> (try split) <;> omega
   clear hx1 hy1 hx2 hy2 bx by_ bx2 by2 hba hbb hB k1 k2 kx1 kx2 ky1 ky2 ey1 ey2 l1 l2 e1 e2 hCF hCF2 hne heq hsa hsb hXX hYY
   unfold ratV at HK1 HK2 HKS1 HKS2 ⊢
   obtain ⟨CC,hCC⟩:∃ c,cmpN XX YY = c:=⟨_,rfl⟩
   rw [hCC] at HEQ hcn
   have HCC:=Hd hCC
   clear hCC
   by_cases hs:sa = sb
   ·have ts:(sa != sb) = false:=by simp [hs]
    have HCE:=Hd (Uh HEQ hs)
    have hmb:-1 ≤ sa * CC ∧ sa * CC ≤ 1:=by
     rcases (show sa = -1 ∨ sa = 0 ∨ sa = 1 by omega) with h | h | h <;> rw [h] <;> omega
    clear hs HNE HEQ
    go_enter Tryz.func37,Tryz.ntmps37
    go_wp2_with fail
    refine (Uh HK1).mono ?_
    rintro _ w2 ⟨rfl,b_⟩
    have e0:=(ck b_ p0)
    have e1:=(ck b_ p1)
    have e2:=(ck b_ p2)
    have e3:=(ck b_ p3)
    have e4:=(ck b_ p4)
    have e5:=(ck b_ p5)
    have HBL2:=Hd b_
    clear b_ HK1 p0 p1 p2 p3 p4 p5
    go_wp2_with fail
    refine (Uh HK2 _ (Uh HBL2)).mono ?_
    rintro _ w3 ⟨rfl,b_⟩
    have h0:=(ck b_ e0)
    have h1:=(ck b_ e1)
    have h2:=(ck b_ e2)
    have h3:=(ck b_ e3)
    have h4:=(ck b_ e4)
    have h5:=(ck b_ e5)
    have HBL3:=Hd ((Uh HBL2).trans (b_.mono (Uh HBL2).size))
    clear b_ HK2 e0 e1 e2 e3 e4 e5
    go_wp2_with fail
    refine (Uh HKS1 _ (Uh HBL3)).mono ?_
    rintro _ w4 ⟨rfl,b_⟩
    have u0:=(ck b_ h0)
    have u1:=(ck b_ h1)
    have u2:=(ck b_ h2)
    have u3:=(ck b_ h3)
    have u4:=(ck b_ h4)
    have u5:=(ck b_ h5)
    have HBL4:=Hd ((Uh HBL3).trans (b_.mono (Uh HBL3).size))
    clear b_ HKS1 h0 h1 h2 h3 h4 h5
    go_wp2_with fail
    refine (Uh HKS2 _ (Uh HBL4)).mono ?_
    rintro _ w5 ⟨rfl,b_⟩
    have f0:=(ck b_ u0)
    have f1:=(ck b_ u1)
    have f2:=(ck b_ u2)
    have f3:=(ck b_ u3)
    have f4:=(ck b_ u4)
    have f5:=(ck b_ u5)
    have HBL5:=Hd ((Uh HBL4).trans (b_.mono (Uh HBL4).size))
    clear b_ HKS2 u0 u1 u2 u3 u4 u5
    have HM1':=Hd (fun (W:World) (hb:Below w5.heap.size w5 W) => Uh HM1 W ((Uh HBL5).trans (hb.mono (Uh HBL5).size)))
    have HM2':=Hd (fun (W:World) (hb:Below w5.heap.size w5 W) => Uh HM2 W ((Uh HBL5).trans (hb.mono (Uh HBL5).size)))
    clear HM1 HM2
    go_wp2_with fail
    go_region_held3 (fun w' => w'.cell? ⟨w.heap.size,0,none⟩ = some (.bool g1) ∧ w'.cell? ⟨w.heap.size,1,none⟩ = some (.slice a1 n1 c1) ∧ w'.cell? ⟨w.heap.size,2,none⟩ = some (.slice b1 m1 d1) ∧ w'.cell? ⟨wa.heap.size,0,none⟩ = some (.bool g2) ∧ w'.cell? ⟨wa.heap.size,1,none⟩ = some (.slice a2 n2 c2) ∧ w'.cell? ⟨wa.heap.size,2,none⟩ = some (.slice b2 m2 d2)) (first | go_keep | (exact ⟨k0,k1,k2,k3,k4,k5⟩) | (exact ⟨j0,j1,j2,j3,j4,j5⟩) | (exact ⟨i0,i1,i2,i3,i4,i5⟩))
     (first
      | (go_at_call_of 54 (Value.slice a1 n1 c1); refine (Uh HM1' _ (Below.refl _ _).drew).mono ?_; rintro _ wk ⟨aq,mq,cq,rfl,sq,nq,hq,bl_k⟩; have hb_k:Below w5.heap.size w5 wk:=(Below.refl _ _).drew.trans bl_k; have k0:=(ck hb_k f0); have k1:=(ck hb_k f1); have k2:=(ck hb_k f2); have k3:=(ck hb_k f3); have k4:=(ck hb_k f4); have k5:=(ck hb_k f5); have SQ:=Hd sq; clear sq nq hq; have HB_k:=Hd hb_k; clear hb_k bl_k)
      | (go_at_call_of 54 (Value.slice a2 n2 c2); refine (Uh HM2' _ (Uh HB_k)).mono ?_; rintro _ wj ⟨ar,mr,cr,rfl,sr,nr,hr,bl_j⟩; have hb_j:Below w5.heap.size w5 wj:=(Uh HB_k).trans (bl_j.mono (Uh HB_k).size); have j0:=(ck bl_j k0); have j1:=(ck bl_j k1); have j2:=(ck bl_j k2); have j3:=(ck bl_j k3); have j4:=(ck bl_j k4); have j5:=(ck bl_j k5); have SR:=Hd (And.intro ((Uh SQ).below bl_j) sr); have hlq:=((Uh SQ).below bl_j).len; have hlr:=sr.len; clear sr nr hr SQ; have HB_j:=Hd hb_j; clear hb_j bl_j)
      | (go_at_call 76; have KL:=wcmp_any aq ar mq cq mr cr (limbs XX) (limbs YY) wj (Uh SR).1 (Uh SR).2 (limbs_ok _) (limbs_ok _) (limbs_norm _) (limbs_norm _) (by have:=Uh HL1; have:=Uh HLN; omega) (by have:=Uh HL2; have:=Uh HLN; omega); rw [limbs_v,limbs_v,Uh HCC] at KL; refine KL.mono ?_; clear KL; rintro _ wi ⟨rfl,jj,hwi⟩; have bl_i:Below wj.heap.size wj wi:=(by rw [hwi]; exact bel_drewN (Below.refl _ _) jj); have i0:=(ck bl_i j0); have i1:=(ck bl_i j1); have i2:=(ck bl_i j2); have i3:=(ck bl_i j3); have i4:=(ck bl_i j4); have i5:=(ck bl_i j5); have HB_i:=Hd ((Uh HB_j).trans (bl_i.mono (Uh HB_j).size)); clear bl_i hwi))
    try go_wp2_with fail
    try go_ret
    refine ⟨?_,(Uh HBo).trans (((Uh HBL5).trans ((Uh HB_i).mono (Uh HBL5).size)).mono (Uh HBo).size)⟩
    show Ending.returned (Value.int IntKind.i64 (IntKind.i64.wrap (sa * CC))) = _
    rw [show IntKind.i64.wrap (sa * CC) = sa * CC from by rw [IntKind.wrap_i64]; omega,Uh HCE]
   ·have ts:(sa != sb) = true:=by simp [hs]
    have HCE:=Uh HNE hs
    have KS:=fun W => wsign_any (sa - sb) W (by omega) (by omega)
    rw [HCE] at KS
    have HKS:=Hd KS
    clear hs HNE HEQ HCE KS HM1 HM2
    go_enter Tryz.func37,Tryz.ntmps37
    go_wp2_with fail
    refine (Uh HK1).mono ?_
    rintro _ w2 ⟨rfl,b_⟩
    have e0:=(ck b_ p0)
    have e1:=(ck b_ p1)
    have e2:=(ck b_ p2)
    have e3:=(ck b_ p3)
    have e4:=(ck b_ p4)
    have e5:=(ck b_ p5)
    have HBL2:=Hd b_
    clear b_ HK1 p0 p1 p2 p3 p4 p5
    go_wp2_with fail
    refine (Uh HK2 _ (Uh HBL2)).mono ?_
    rintro _ w3 ⟨rfl,b_⟩
    have h0:=(ck b_ e0)
    have h1:=(ck b_ e1)
    have h2:=(ck b_ e2)
    have h3:=(ck b_ e3)
    have h4:=(ck b_ e4)
    have h5:=(ck b_ e5)
    have HBL3:=Hd ((Uh HBL2).trans (b_.mono (Uh HBL2).size))
    clear b_ HK2 e0 e1 e2 e3 e4 e5
    go_wp2_with fail
    refine (Uh HKS1 _ (Uh HBL3)).mono ?_
    rintro _ w4 ⟨rfl,b_⟩
    have u0:=(ck b_ h0)
    have u1:=(ck b_ h1)
    have u2:=(ck b_ h2)
    have u3:=(ck b_ h3)
    have u4:=(ck b_ h4)
    have u5:=(ck b_ h5)
    have HBL4:=Hd ((Uh HBL3).trans (b_.mono (Uh HBL3).size))
    clear b_ HKS1 h0 h1 h2 h3 h4 h5
    go_wp2_with fail
    refine (Uh HKS2 _ (Uh HBL4)).mono ?_
    rintro _ w5 ⟨rfl,b_⟩
    have f0:=(ck b_ u0)
    have f1:=(ck b_ u1)
    have f2:=(ck b_ u2)
    have f3:=(ck b_ u3)
    have f4:=(ck b_ u4)
    have f5:=(ck b_ u5)
    have HBL5:=Hd ((Uh HBL4).trans (b_.mono (Uh HBL4).size))
    clear b_ HKS2 u0 u1 u2 u3 u4 u5
    go_wp2_with fail
    refine (Uh HKS _).mono ?_
    rintro _ _ ⟨rfl,hw⟩
    obtain rfl:=hw.symm
    clear hw
    go_wp2_with fail
    go_ret
    exact ⟨rfl,(Uh HBo).trans ((Uh HBL5).mono (Uh HBo).size)⟩
end Go.Proofs.YthmcfpeobkgihaaGreatDoor
