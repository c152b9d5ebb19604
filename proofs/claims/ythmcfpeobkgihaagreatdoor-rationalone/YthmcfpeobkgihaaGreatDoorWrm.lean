/- Wrj -/
import Derived.Test.YthmcfpeobkgihaaGreatDoorWri
import Derived.Test.YthmcfpeobkgihaaGreatDoorBy7
import Derived.Test.YthmcfpeobkgihaaGreatDoorWij
import Derived.Test.YthmcfpeobkgihaaGreatDoorWr1
import Derived.Test.YthmcfpeobkgihaaGreatDoorWic
import Derived.Test.YthmcfpeobkgihaaGreatDoorWre
import Derived.Test.YthmcfpeobkgihaaGreatDoorRa6
namespace Go.Proofs.YthmcfpeobkgihaaGreatDoor
open Go.RowKit Go.Deep
set_option linter.unusedVariables false



def DivF (g1:Bool) (x1 y1:List Nat) (g2:Bool) (x2 y2:List Nat):(Bool × List Nat × List Nat) × Int :=
 if MayR g1 x1 y1 && MayR g2 x2 y2 then (if x2 = [] then ((false,[],[]),3) else if bigN (mulN x1 y1 y2 x2) || bigN (mulD x1 y1 y2 x2) then ((false,[],[]),2) else (((g1 != g2) && decide (mulN x1 y1 y2 x2 ≠ 0),limbs (mulN x1 y1 y2 x2),limbs (mulD x1 y1 y2 x2)),0)) else ((false,[],[]),40)
set_option maxRecDepth 100000 in
set_option maxHeartbeats 16000000 in
theorem wDiv_any (g1 g2:Bool) (a1 b1 a2 b2:Option Addr) (n1 c1 m1 d1 n2 c2 m2 d2:Nat) (x1 y1 x2 y2:List Nat) (w:World) (hx1:Sl w a1 n1 c1 x1) (hy1:Sl w b1 m1 d1 y1) (hx2:Sl w a2 n2 c2 x2) (hy2:Sl w b2 m2 d2 y2) (ox1:Ok x1) (oy1:Ok y1) (ox2:Ok x2) (oy2:Ok y2) :
  Calls Tryz.prog 44 #[ratV g1 a1 n1 c1 b1 m1 d1,ratV g2 a2 n2 c2 b2 m2 d2] w fun e w' => ResF w w' (DivF g1 x1 y1 g2 x2 y2) e:=by
 obtain ⟨⟨⟨SG,LN,LD⟩,ER⟩,hFF⟩:∃ r,DivF g1 x1 y1 g2 x2 y2 = r:=⟨_,rfl⟩
 rw [hFF]
 unfold ResF
 dsimp only
 have bx:=Box.made w g1 a1 n1 c1 b1 m1 d1
 obtain ⟨wa,hwa⟩:∃ wa,ratBox w g1 a1 n1 c1 b1 m1 d1 = wa:=⟨_,rfl⟩
 rw [hwa] at bx
 have by_:=Box.made wa g2 a2 n2 c2 b2 m2 d2
 obtain ⟨wb,hwb⟩:∃ wb,ratBox wa g2 a2 n2 c2 b2 m2 d2 = wb:=⟨_,rfl⟩
 rw [hwb] at by_
 have hba:Below w.heap.size w wa:=by rw [← hwa]; exact bAl
 have hbb:Below wa.heap.size wa wb:=by rw [← hwb]; exact bAl
 unfold ratBox at hwa hwb
 obtain ⟨wo,hwo⟩:∃ x,wb.alloc (.cells #[.bool false,.slice none 0 0,.slice none 0 0] 25) = x:=⟨_,rfl⟩
 have hbo:Below wb.heap.size wb wo:=by rw [← hwo]; exact bAl
 have hO:Out wo wb.heap.size:=by rw [← hwo]; exact Out.made wb
 have bx2:=(bx.keep hbb).keep hbo
 have by2:=by_.keep hbo
 have hB:=(hba.trans (hbb.mono hba.size)).trans (hbo.mono (Nat.le_trans hba.size hbb.size))
 have hRw:w.heap.size ≤ wb.heap.size:=Nat.le_trans hba.size hbb.size
 have hlab:w.heap.size ≠ wa.heap.size:=by have:=bx.lt; omega
 have hlab2:w.heap.size < wb.heap.size:=Nat.lt_of_lt_of_le bx.lt hbb.size
 have hlab3:wa.heap.size < wb.heap.size:=by_.lt
 have hne1:w.heap.size ≠ wb.heap.size:=by omega
 have hne2:wa.heap.size ≠ wb.heap.size:=by omega
 have hne3:wb.heap.size ≠ w.heap.size:=by omega
 have hne4:wb.heap.size ≠ wa.heap.size:=by omega
 have p0:=bx2.d0
 have p1:=bx2.d1
 have p2:=bx2.d2
 have p3:=by2.d0
 have p4:=by2.d1
 have p5:=by2.d2
 have HRw:=Hd hRw
 have HO:=Hd hO
 have HBo:=Hd hB
 have K1:=wmay_any g1 a1 b1 n1 c1 m1 d1 x1 y1 wo (hx1.below hB) (hy1.below hB) ox1 oy1
 have HK2:=Hd (fun (W:World) (hb:Below wo.heap.size wo W) => wmay_any g2 a2 b2 n2 c2 m2 d2 x2 y2 W ((hx2.below hB).below hb) ((hy2.below hB).below hb) ox2 oy2)
 cases k1:MayR g1 x1 y1
 ·rw [k1] at K1
  have h40:=hFF.symm.trans (show DivF g1 x1 y1 g2 x2 y2 = ((false,[],[]),40) from by unfold DivF; rw [k1]; rfl)
  cases h40
  clear hFF
  have HK1:=Hd K1
  clear K1 HK2 hx1 hy1 hx2 hy2 bx by_ bx2 by2 hba hbb hbo hB hO
  unfold ratV at HK1 ⊢
  go_enter Tryz.func44,Tryz.ntmps44
  go_wp2_with fail
  refine (Uh HK1).mono ?_
  rintro _ w3 ⟨rfl,b3⟩
  have HO3:=Hd ((Uh HO).keep b3)
  have HB3:=Hd ((Uh HBo).trans (b3.mono (Uh HBo).size))
  clear b3 HK1 HO HBo
  have hO3:=Uh HO3
  obtain ⟨x0,q0⟩:=hO3.cells 0 (by decide)
  obtain ⟨x1,q1⟩:=hO3.cells 1 (by decide)
  obtain ⟨x2,q2⟩:=hO3.cells 2 (by decide)
  have r0:=hO3.fz 0 (by decide)
  have r1:=hO3.fz 1 (by decide)
  have r2:=hO3.fz 2 (by decide)
  have H4:=Hd (three_set w3 wb.heap.size (.bool false) (.slice none 0 0) (.slice none 0 0) hO3.cells)
  clear hO3
  go_wp2_with fail
  obtain ⟨p0,p1,p2,c4⟩:=Uh H4
  generalize ((w3.setCell ⟨wb.heap.size,0,none⟩ (.bool false)).setCell ⟨wb.heap.size,1,none⟩ (.slice none 0 0)).setCell ⟨wb.heap.size,2,none⟩ (.slice none 0 0) = wf at *
  refine bodyPost_ret (by simp [results,Tryz.results44,go_sem,p0,p1,p2]; try rfl) rfl ?_
  exact ⟨_,rfl,newR_of (Uh HRw) (Uh HO3).lt (Uh HB3) (sl_nil _) (newAt_nil _) (sl_nil _) (newAt_nil _) c4 false⟩
 ·rw [k1] at K1
  have HK1:=Hd K1
  clear K1
  cases k2:MayR g2 x2 y2
  ·rw [k2] at HK2
   have h40:=hFF.symm.trans (show DivF g1 x1 y1 g2 x2 y2 = ((false,[],[]),40) from by unfold DivF; rw [k1,k2]; rfl)
   cases h40
   clear hFF
   clear hx1 hy1 hx2 hy2 bx by_ bx2 by2 hba hbb hbo hB hO
   unfold ratV at HK1 HK2 ⊢
   go_enter Tryz.func44,Tryz.ntmps44
   go_wp2_with fail
   refine (Uh HK1).mono ?_
   rintro _ w2 ⟨rfl,b2⟩
   have e0:=(ck b2 p0)
   have e1:=(ck b2 p1)
   have e2:=(ck b2 p2)
   have e3:=(ck b2 p3)
   have e4:=(ck b2 p4)
   have e5:=(ck b2 p5)
   have HO2:=Hd ((Uh HO).keep b2)
   have HB2:=Hd ((Uh HBo).trans (b2.mono (Uh HBo).size))
   have HBL2:=Hd b2
   clear b2 HK1 HO HBo
   go_wp2_with fail
   refine (Uh HK2 _ (Uh HBL2)).mono ?_
   rintro _ w3 ⟨rfl,b3⟩
   have HO3:=Hd ((Uh HO2).keep b3)
   have HB3:=Hd ((Uh HB2).trans (b3.mono (Uh HB2).size))
   clear b3 HK2 HO2 HB2 HBL2
   have hO3:=Uh HO3
   obtain ⟨x0,q0⟩:=hO3.cells 0 (by decide)
   obtain ⟨x1,q1⟩:=hO3.cells 1 (by decide)
   obtain ⟨x2,q2⟩:=hO3.cells 2 (by decide)
   have r0:=hO3.fz 0 (by decide)
   have r1:=hO3.fz 1 (by decide)
   have r2:=hO3.fz 2 (by decide)
   have H4:=Hd (three_set w3 wb.heap.size (.bool false) (.slice none 0 0) (.slice none 0 0) hO3.cells)
   clear hO3
   go_wp2_with fail
   obtain ⟨p0,p1,p2,c4⟩:=Uh H4
   generalize ((w3.setCell ⟨wb.heap.size,0,none⟩ (.bool false)).setCell ⟨wb.heap.size,1,none⟩ (.slice none 0 0)).setCell ⟨wb.heap.size,2,none⟩ (.slice none 0 0) = wf at *
   refine bodyPost_ret (by simp [results,Tryz.results44,go_sem,p0,p1,p2]; try rfl) rfl ?_
   exact ⟨_,rfl,newR_of (Uh HRw) (Uh HO3).lt (Uh HB3) (sl_nil _) (newAt_nil _) (sl_nil _) (newAt_nil _) c4 false⟩
  ·rw [k2] at HK2
   obtain ⟨kx1,ky1,ey1,_,l1⟩:=MayR.parts k1
   obtain ⟨kx2,ky2,ey2,_,l2⟩:=MayR.parts k2
   have s1:n1 ≤ 2048:=by have:=hx1.len; have:=MayL.len kx1; omega
   have s2:m1 ≤ 2048:=by have:=hy1.len; have:=MayL.len ky1; omega
   have s3:n2 ≤ 2048:=by have:=hx2.len; have:=MayL.len kx2; omega
   have s4:m2 ≤ 2048:=by have:=hy2.len; have:=MayL.len ky2; omega
   by_cases hx2n:x2 = []
   ·have h3:=hFF.symm.trans (show DivF g1 x1 y1 g2 x2 y2 = ((false,[],[]),3) from by unfold DivF; rw [k1,k2,if_pos hx2n]; rfl)
    cases h3
    have hn20:n2 = 0:=by rw [← hx2.len,hx2n]; rfl
    subst hn20
    clear hFF hx1 hy1 hx2 hy2 bx by_ bx2 by2 hba hbb hbo hB hO k1 k2 kx1 kx2 ky1 ky2 ey1 ey2 l1 l2 hx2n
    unfold ratV at HK1 HK2 ⊢
    go_enter Tryz.func44,Tryz.ntmps44
    go_wp2_with fail
    refine (Uh HK1).mono ?_
    rintro _ w2 ⟨rfl,b2⟩
    have e0:=(ck b2 p0)
    have e1:=(ck b2 p1)
    have e2:=(ck b2 p2)
    have e3:=(ck b2 p3)
    have e4:=(ck b2 p4)
    have e5:=(ck b2 p5)
    have HBL2:=Hd b2
    clear b2 HK1
    go_wp2_with fail
    refine (Uh HK2 _ (Uh HBL2)).mono ?_
    rintro _ w3 ⟨rfl,b3⟩
    have f0:=(ck b3 e0)
    have f1:=(ck b3 e1)
    have f2:=(ck b3 e2)
    have f3:=(ck b3 e3)
    have f4:=(ck b3 e4)
    have f5:=(ck b3 e5)
    have HBL3:=Hd ((Uh HBL2).trans (b3.mono (Uh HBL2).size))
    clear b3 HK2 HBL2 e0 e1 e2 e3 e4 e5 p0 p1 p2 p3 p4 p5
    have HO3:=Hd ((Uh HO).keep (Uh HBL3))
    have HB3:=Hd ((Uh HBo).trans ((Uh HBL3).mono (Uh HBo).size))
    clear HBL3
    have hO3:=Uh HO3
    obtain ⟨x0,q0⟩:=hO3.cells 0 (by decide)
    obtain ⟨x1,q1⟩:=hO3.cells 1 (by decide)
    obtain ⟨x2,q2⟩:=hO3.cells 2 (by decide)
    have r0:=hO3.fz 0 (by decide)
    have r1:=hO3.fz 1 (by decide)
    have r2:=hO3.fz 2 (by decide)
    have H4:=Hd (three_set w3 wb.heap.size (.bool false) (.slice none 0 0) (.slice none 0 0) hO3.cells)
    clear hO3
    go_wp2_with fail
    obtain ⟨p0,p1,p2,c4⟩:=Uh H4
    generalize ((w3.setCell ⟨wb.heap.size,0,none⟩ (.bool false)).setCell ⟨wb.heap.size,1,none⟩ (.slice none 0 0)).setCell ⟨wb.heap.size,2,none⟩ (.slice none 0 0) = wf at *
    refine bodyPost_ret (by simp [results,Tryz.results44,go_sem,p0,p1,p2]; try rfl) rfl ?_
    exact ⟨_,rfl,newR_of (Uh HRw) (Uh HO3).lt (Uh HB3) (sl_nil _) (newAt_nil _) (sl_nil _) (newAt_nil _) c4 false⟩
   ·have hx2p:0 < val x2:=val_pos_of_may kx2 hx2n
    have hn2p:0 < n2:=by rw [← hx2.len]; exact List.length_pos_iff.2 hx2n
    have tn2:((n2:Int) == 0) = false:=by simp; omega
    have l2':Nat.gcd (val y2) (val x2) = 1:=by rw [Nat.gcd_comm]; exact l2
    have HR:=Hd ((show lowF (g1 != g2) (val x1 * val y2) (val y1 * val x2) = DivF g1 x1 y1 g2 x2 y2 from by
     rw [lowF_is (g:=(g1 != g2)) (sg:=(g1 != g2)) (N:=mulN x1 y1 y2 x2) (M:=mulD x1 y1 y2 x2) (mul_low l1 l2' (mayR_pos k1) hx2p) (Nat.mul_pos (div_pos_of_dvd (Nat.gcd_dvd_right _ _) (mayR_pos k1)) (div_pos_of_dvd (Nat.gcd_dvd_right _ _) hx2p)) (Nat.mul_pos (mayR_pos k1) hx2p) ?_]
     ·unfold DivF; rw [k1,k2,if_neg hx2n]; rfl
     ·rw [← nI_mul,← nI_mul]; exact congrArg _ (mul_val (mayR_pos k1) hx2p)).trans hFF)
    clear hFF
    have HM1:=Hd (fun (W:World) (hb:Below wo.heap.size wo W) => wmulw_any a1 b2 n1 c1 m2 d2 x1 y2 W ((hx1.below hB).below hb) ((hy2.below hB).below hb) ox1 oy2 (by omega))
    have HM2:=Hd (fun (W:World) (hb:Below wo.heap.size wo W) => wmulw_any b1 a2 m1 d1 n2 c2 y1 x2 W ((hy1.below hB).below hb) ((hx2.below hB).below hb) oy1 ox2 (by omega))
    have HYP:=Hd (Nat.mul_pos (mayR_pos k1) hx2p)
    have HL1:=Hd (mul_len ox1 oy2)
    have HL2:=Hd (mul_len oy1 ox2)
    have HLN:=Hd (And.intro hx1.len (And.intro hy1.len (And.intro hx2.len hy2.len)))
    clear hx1 hy1 hx2 hy2 bx by_ bx2 by2 hba hbb hbo hB hO k1 k2 kx1 kx2 ky1 ky2 ey1 ey2 l1 l2 l2' hx2p hx2n
    unfold ratV at HK1 HK2 ⊢
    go_enter Tryz.func44,Tryz.ntmps44
    go_wp2_with fail
    refine (Uh HK1).mono ?_
    rintro _ w2 ⟨rfl,b2⟩
    have e0:=(ck b2 p0)
    have e1:=(ck b2 p1)
    have e2:=(ck b2 p2)
    have e3:=(ck b2 p3)
    have e4:=(ck b2 p4)
    have e5:=(ck b2 p5)
    have HBL2:=Hd b2
    clear b2 HK1
    go_wp2_with fail
    refine (Uh HK2 _ (Uh HBL2)).mono ?_
    rintro _ w3 ⟨rfl,b3⟩
    have f0:=(ck b3 e0)
    have f1:=(ck b3 e1)
    have f2:=(ck b3 e2)
    have f3:=(ck b3 e3)
    have f4:=(ck b3 e4)
    have f5:=(ck b3 e5)
    have HBL3:=Hd ((Uh HBL2).trans (b3.mono (Uh HBL2).size))
    clear b3 HK2 HBL2 e0 e1 e2 e3 e4 e5 p0 p1 p2 p3 p4 p5
    have HM1':=Hd (fun (W:World) (hb:Below w3.heap.size w3 W) => Uh HM1 W ((Uh HBL3).trans (hb.mono (Uh HBL3).size)))
    have HM2':=Hd (fun (W:World) (hb:Below w3.heap.size w3 W) => Uh HM2 W ((Uh HBL3).trans (hb.mono (Uh HBL3).size)))
    clear HM1 HM2
    generalize val x1 * val y2 = XX at *
    generalize val y1 * val x2 = YY at *
    go_wp2_with fail
    go_region_held3 (fun w' => w'.cell? ⟨w.heap.size,0,none⟩ = some (.bool g1) ∧ w'.cell? ⟨w.heap.size,1,none⟩ = some (.slice a1 n1 c1) ∧ w'.cell? ⟨w.heap.size,2,none⟩ = some (.slice b1 m1 d1) ∧ w'.cell? ⟨wa.heap.size,0,none⟩ = some (.bool g2) ∧ w'.cell? ⟨wa.heap.size,1,none⟩ = some (.slice a2 n2 c2) ∧ w'.cell? ⟨wa.heap.size,2,none⟩ = some (.slice b2 m2 d2)) (first | go_keep | (exact ⟨k0,k1,k2,k3,k4,k5⟩) | (exact ⟨j0,j1,j2,j3,j4,j5⟩) | (exact ⟨i0,i1,i2,i3,i4,i5⟩))
     (first
      | (go_at_call_of 54 (Value.slice a1 n1 c1); refine (Uh HM1' _ (Below.refl _ _).drew).mono ?_; rintro _ wk ⟨aq,mq,cq,rfl,sq,nq,hq,bl_k⟩; have hb_k:Below w3.heap.size w3 wk:=(Below.refl _ _).drew.trans bl_k; have k0:=(ck hb_k f0); have k1:=(ck hb_k f1); have k2:=(ck hb_k f2); have k3:=(ck hb_k f3); have k4:=(ck hb_k f4); have k5:=(ck hb_k f5); have SQ:=Hd (And.intro sq nq); clear sq nq hq; have HB_k:=Hd hb_k; clear hb_k bl_k)
      | (go_at_call_of 54 (Value.slice b1 m1 d1); refine (Uh HM2' _ (Uh HB_k)).mono ?_; rintro _ wj ⟨ar,mr,cr,rfl,sr,nr,hr,bl_j⟩; have hb_j:Below w3.heap.size w3 wj:=(Uh HB_k).trans (bl_j.mono (Uh HB_k).size); have j0:=(ck bl_j k0); have j1:=(ck bl_j k1); have j2:=(ck bl_j k2); have j3:=(ck bl_j k3); have j4:=(ck bl_j k4); have j5:=(ck bl_j k5); have SR:=Hd (And.intro ((Uh SQ).1.below bl_j) (And.intro (Uh SQ).2 (And.intro sr nr))); have hlq:=((Uh SQ).1.below bl_j).len; have hlr:=sr.len; clear sr nr hr SQ; have HB_j:=Hd hb_j; clear hb_j bl_j)
      | (go_at_call 80; have KL:=wlower_any (g1 != g2) aq ar mq cq mr cr (limbs XX) (limbs YY) wj (Uh SR).1 (Uh SR).2.2.1 (limbs_ok _) (limbs_ok _) (limbs_norm _) (limbs_norm _) (fun e => by have:=limbs_eq_nil.1 e; have:=Uh HYP; omega) (by have:=Uh HL1; have:=Uh HLN; omega) (by have:=Uh HL2; have:=Uh HLN; omega); rw [limbs_v,limbs_v,Uh HR] at KL; unfold ResF at KL; dsimp only at KL; refine KL.mono ?_; clear KL; rintro _ wi ⟨vv,rfl,aN,mN,cN,aD,mD,cD,rfl,sN,sD,nN,nD,bl_i⟩; unfold ratV; have i0:=(ck bl_i j0); have i1:=(ck bl_i j1); have i2:=(ck bl_i j2); have i3:=(ck bl_i j3); have i4:=(ck bl_i j4); have i5:=(ck bl_i j5); have hzz:wb.heap.size + 1 ≤ wj.heap.size:=Nat.le_trans (Uh HO).lt (Nat.le_trans (Uh HBL3).size (Uh HB_j).size); have HS3:=Hd (And.intro sN (And.intro (show NewAt (wb.heap.size + 1) aN from fun x hx => Nat.le_trans hzz (nN x hx)) (And.intro sD (show NewAt (wb.heap.size + 1) aD from fun x hx => Nat.le_trans hzz (nD x hx))))); have hb_i:=(Uh HB_j).trans (bl_i.mono (Uh HB_j).size); have HB_i:=Hd hb_i; have hO3:=(Uh HO).keep ((Uh HBL3).trans (hb_i.mono (Uh HBL3).size)); obtain ⟨x0,q0⟩:=hO3.cells 0 (by decide); obtain ⟨x1',q1⟩:=hO3.cells 1 (by decide); obtain ⟨x2',q2⟩:=hO3.cells 2 (by decide); have r0:=hO3.fz 0 (by decide); have r1:=hO3.fz 1 (by decide); have r2:=hO3.fz 2 (by decide); have HO3:=Hd hO3; clear sN sD nN nD bl_i hb_i hO3))
    have H4:=Hd (three_set wi wb.heap.size (.bool SG) (.slice aN mN cN) (.slice aD mD cD) (Uh HO3).cells)
    have HB3:=Hd ((Uh HBo).trans (((Uh HBL3).trans ((Uh HB_i).mono (Uh HBL3).size)).mono (Uh HBo).size))
    clear q0 q1 q2 r0 r1 r2
    try go_wp2_with fail
    obtain ⟨t0,t1,t2,c4⟩:=Uh H4
    generalize ((wi.setCell ⟨wb.heap.size,0,none⟩ (.bool SG)).setCell ⟨wb.heap.size,1,none⟩ (.slice aN mN cN)).setCell ⟨wb.heap.size,2,none⟩ (.slice aD mD cD) = wf at *
    refine bodyPost_ret (by simp [results,Tryz.results44,go_sem,t0,t1,t2]; try rfl) rfl ?_
    obtain ⟨sN,nN,sD,nD⟩:=Uh HS3
    exact ⟨_,rfl,newR_of (Uh HRw) (Uh HO3).lt (Uh HB3) sN nN sD nD c4 SG⟩

theorem Out.chgW {S:Nat → Prop} {w w':World} {R:Nat} (h:Out w R) (k:Chg S w w') (hs:¬ S R):Out w' R :=
 ⟨fun i hi => by obtain ⟨v,hv⟩:=h.cells i hi; exact ⟨v,k.cell hs hv⟩,fun i hi => by rw [World.frozen?_of_block (w:=w) (k.block R h.lt hs)]; exact h.fz i hi,Nat.lt_of_lt_of_le h.lt k.size⟩
theorem tri_set {w:World} {R:Nat} (h:Out w R) (v0 v1 v2:Value):Tri (((w.setCell ⟨R,0,none⟩ v0).setCell ⟨R,1,none⟩ v1).setCell ⟨R,2,none⟩ v2) R v0 v1 v2:=by
 obtain ⟨a,b,c,d⟩:=three_set w R v0 v1 v2 h.cells
 have f:∀ j,(((w.setCell ⟨R,0,none⟩ v0).setCell ⟨R,1,none⟩ v1).setCell ⟨R,2,none⟩ v2).frozen? ⟨R,j,none⟩ = w.frozen? ⟨R,j,none⟩:=fun j => by rw [World.frozen?_setCell,World.frozen?_setCell,World.frozen?_setCell]
 exact ⟨a,b,c,(f 0).trans (h.fz 0 (by decide)),(f 1).trans (h.fz 1 (by decide)),(f 2).trans (h.fz 2 (by decide)),Nat.lt_of_lt_of_le h.lt d.size⟩
def NegF (g:Bool) (x y:List Nat):(Bool × List Nat × List Nat) × Int:=if MayR g x y = true then (((!g) && decide (x ≠ []),x,y),0) else ((false,[],[]),40)
def AbsF (g:Bool) (x y:List Nat):(Bool × List Nat × List Nat) × Int:=if MayR g x y = true then ((false,x,y),0) else ((false,[],[]),40)
def InvF (g:Bool) (x y:List Nat):(Bool × List Nat × List Nat) × Int:=if MayR g x y = true then (if x = [] then ((false,[],[]),3) else ((g,y,x),0)) else ((false,[],[]),40)

theorem ratNeg_F (g:Bool) (a b:Option Addr) (n c m d:Nat) (x y:List Nat) (w:World) (hx:Sl w a n c x) (hy:Sl w b m d y) (ox:Ok x) (oy:Ok y) (hT:Tab64 w) :
  Calls Tryz.prog 10 #[ratV g a n c b m d] w fun e w' => ResF w w' (NegF g x y) e :=
 (ratNeg_any g a b n c m d x y w hx hy ox oy hT).mono (fun e w' hr => by
  unfold NegF ResF
  cases h:MayR g x y <;> rw [h] at hr <;> simpa using hr)
theorem ratAbs_F (g:Bool) (a b:Option Addr) (n c m d:Nat) (x y:List Nat) (w:World) (hx:Sl w a n c x) (hy:Sl w b m d y) (ox:Ok x) (oy:Ok y) (hT:Tab64 w) :
  Calls Tryz.prog 13 #[ratV g a n c b m d] w fun e w' => ResF w w' (AbsF g x y) e :=
 (ratAbs_any g a b n c m d x y w hx hy ox oy hT).mono (fun e w' hr => by
  unfold AbsF ResF
  cases h:MayR g x y <;> rw [h] at hr <;> simpa using hr)
theorem may_one:MayR false [1] [1] = true:=by decide
theorem divF_one (g:Bool) (x y:List Nat) (ox:Ok x) (oy:Ok y):DivF false [1] [1] g x y = InvF g x y:=by
 unfold DivF InvF
 rw [may_one,Bool.true_and]
 by_cases h:MayR g x y = true
 ·obtain ⟨kx,ky,ey,eg,l⟩:=MayR.parts h
  rw [h,if_pos rfl,if_pos rfl]
  by_cases h2:x = []
  ·rw [if_pos h2,if_pos h2]
  ·rw [if_neg h2,if_neg h2]
   have v1:val [1] = 1:=by simp [val]
   have hN:mulN [1] [1] y x = val y:=by unfold mulN; rw [v1]; simp
   have hD:mulD [1] [1] y x = val x:=by unfold mulD; rw [v1]; simp
   rw [hN,hD]
   have l1:=limbs_val ox (MayL.norm kx)
   have l2:=limbs_val oy (MayL.norm ky)
   have b1:bigN (val x) = false:=by unfold bigN; rw [l1]; have:=MayL.len kx; simp; omega
   have b2:bigN (val y) = false:=by unfold bigN; rw [l2]; have:=MayL.len ky; simp; omega
   have hy0:val y ≠ 0:=by
    intro e
    rw [e] at l2
    exact ey (l2.symm.trans limbs_zero)
   rw [b1,b2,l1,l2]
   simp [hy0]
 ·rw [if_neg h,if_neg h]

set_option maxRecDepth 100000 in
set_option maxHeartbeats 16000000 in
theorem wNeg_any (g1:Bool) (a1 b1:Option Addr) (n1 c1 m1 d1:Nat) (x1 y1:List Nat) (w:World) (hx1:Sl w a1 n1 c1 x1) (hy1:Sl w b1 m1 d1 y1) (ox1:Ok x1) (oy1:Ok y1) (nx:a1 = none → c1 = 0) (ny:b1 = none → d1 = 0) :
  Calls Tryz.prog 11 #[ratV g1 a1 n1 c1 b1 m1 d1] w fun e w' => ResF w w' (NegF g1 x1 y1) e:=by
 obtain ⟨⟨⟨SG,LN,LD⟩,ER⟩,hFF⟩:∃ r,NegF g1 x1 y1 = r:=⟨_,rfl⟩
 rw [hFF]
 unfold ResF
 dsimp only
 have bx:=Box.made w g1 a1 n1 c1 b1 m1 d1
 obtain ⟨wa,hwa⟩:∃ wa,ratBox w g1 a1 n1 c1 b1 m1 d1 = wa:=⟨_,rfl⟩
 rw [hwa] at bx
 unfold ratBox at hwa
 have hba:=bx.bel
 obtain ⟨wo,hwo⟩:∃ x,wa.alloc (.cells #[.bool false,.slice none 0 0,.slice none 0 0] 25) = x:=⟨_,rfl⟩
 have hbo:Below wa.heap.size wa wo:=by rw [← hwo]; exact bAl
 have hO:Out wo wa.heap.size:=by rw [← hwo]; exact Out.made wa
 have bx2:=bx.keep hbo
 have hB:=hba.trans (hbo.mono hba.size)
 have hRw:w.heap.size ≤ wa.heap.size:=hba.size
 have hne1:w.heap.size ≠ wa.heap.size:=by have:=bx.lt; omega
 have hne3:wa.heap.size ≠ w.heap.size:=by have:=bx.lt; omega
 have p0:=bx2.d0
 have p1:=bx2.d1
 have p2:=bx2.d2
 have HRw:=Hd hRw
 have HO:=Hd hO
 have HBo:=Hd hB
 have K1:=wmay_any g1 a1 b1 n1 c1 m1 d1 x1 y1 wo (hx1.below hB) (hy1.below hB) ox1 oy1
 cases k1:MayR g1 x1 y1
 ·rw [k1] at K1
  have h40:=hFF.symm.trans (show NegF g1 x1 y1 = ((false,[],[]),40) from by unfold NegF; rw [k1]; rfl)
  cases h40
  clear hFF
  have HK1:=Hd K1
  clear K1 hx1 hy1 bx bx2 hba hbo hB hO
  unfold ratV at HK1 ⊢
  go_enter Tryz.func11,Tryz.ntmps11
  go_wp2_with fail
  refine (Uh HK1).mono ?_
  rintro _ w3 ⟨rfl,b3⟩
  have HO3:=Hd ((Uh HO).keep b3)
  have HB3:=Hd ((Uh HBo).trans (b3.mono (Uh HBo).size))
  clear b3 HK1 HO HBo
  have hO3:=Uh HO3
  obtain ⟨x0,q0⟩:=hO3.cells 0 (by decide)
  obtain ⟨x1',q1⟩:=hO3.cells 1 (by decide)
  obtain ⟨x2',q2⟩:=hO3.cells 2 (by decide)
  have r0:=hO3.fz 0 (by decide)
  have r1:=hO3.fz 1 (by decide)
  have r2:=hO3.fz 2 (by decide)
  have H4:=Hd (three_set w3 wa.heap.size (.bool false) (.slice none 0 0) (.slice none 0 0) hO3.cells)
  clear hO3
  go_wp2_with fail
  obtain ⟨p0,p1,p2,c4⟩:=Uh H4
  generalize ((w3.setCell ⟨wa.heap.size,0,none⟩ (.bool false)).setCell ⟨wa.heap.size,1,none⟩ (.slice none 0 0)).setCell ⟨wa.heap.size,2,none⟩ (.slice none 0 0) = wf at *
  refine bodyPost_ret (by simp [results,Tryz.results11,go_sem,p0,p1,p2]; try rfl) rfl ?_
  exact ⟨_,rfl,newR_of (Uh HRw) (Uh HO3).lt (Uh HB3) (sl_nil _) (newAt_nil _) (sl_nil _) (newAt_nil _) c4 false⟩
 ·rw [k1] at K1
  obtain ⟨kx1,ky1,ey1,_,l1⟩:=MayR.parts k1
  have s1:n1 ≤ 2048:=by have:=hx1.len; have:=MayL.len kx1; omega
  have s2:m1 ≤ 2048:=by have:=hy1.len; have:=MayL.len ky1; omega
  have h40:=hFF.symm.trans (show NegF g1 x1 y1 = (((!g1) && decide (x1 ≠ []),x1,y1),0) from by unfold NegF; rw [k1]; rfl)
  have HKT:=Hd (fun (W:World) (hb:Below wo.heap.size wo W) => wturned_any g1 a1 b1 n1 c1 m1 d1 x1 y1 W ((hx1.below hB).below hb) ((hy1.below hB).below hb) nx ny (by omega) (by omega))
  obtain ⟨h41,rfl⟩:=Prod.mk.inj h40
  obtain ⟨h42,h43⟩:=Prod.mk.inj h41
  obtain ⟨rfl,rfl⟩:=Prod.mk.inj h43
  rw [← h42] at HKT
  clear hFF h40 h41 h42 h43
  unfold ratV at HKT
  have HK1:=Hd K1
  clear K1 hx1 hy1 bx bx2 hba hbo hB hO nx ny kx1 ky1 ey1 l1 k1
  unfold ratV at HK1 ⊢
  go_enter Tryz.func11,Tryz.ntmps11
  go_wp2_with fail
  refine (Uh HK1).mono ?_
  rintro _ w3 ⟨rfl,b3⟩
  have f0:=(ck b3 p0)
  have f1:=(ck b3 p1)
  have f2:=(ck b3 p2)
  have HBL3:=Hd b3
  clear b3 HK1 p0 p1 p2
  go_wp2_with fail
  refine (Uh HKT _ (Uh HBL3)).mono ?_
  rintro _ wi ⟨vv,rfl,aN,mN,cN,aD,mD,cD,rfl,sN,sD,nN,nD,bl_i⟩
  unfold ratV
  have hzz:wa.heap.size + 1 ≤ w3.heap.size:=Nat.le_trans (Uh HO).lt (Uh HBL3).size
  have HS3:=Hd (And.intro sN (And.intro (show NewAt (wa.heap.size + 1) aN from fun x hx => Nat.le_trans hzz (nN x hx)) (And.intro sD (show NewAt (wa.heap.size + 1) aD from fun x hx => Nat.le_trans hzz (nD x hx)))))
  have HB_i:=Hd bl_i
  have hO3:=(Uh HO).keep ((Uh HBL3).trans (bl_i.mono (Uh HBL3).size))
  obtain ⟨x0,q0⟩:=hO3.cells 0 (by decide)
  obtain ⟨x1',q1⟩:=hO3.cells 1 (by decide)
  obtain ⟨x2',q2⟩:=hO3.cells 2 (by decide)
  have r0:=hO3.fz 0 (by decide)
  have r1:=hO3.fz 1 (by decide)
  have r2:=hO3.fz 2 (by decide)
  have HO3:=Hd hO3
  have H4:=Hd (three_set wi wa.heap.size (.bool SG) (.slice aN mN cN) (.slice aD mD cD) (Uh HO3).cells)
  have HB3:=Hd ((Uh HBo).trans (((Uh HBL3).trans ((Uh HB_i).mono (Uh HBL3).size)).mono (Uh HBo).size))
  clear sN sD nN nD bl_i hO3
  go_wp2_with fail
  obtain ⟨t0,t1,t2,c4⟩:=Uh H4
  generalize ((wi.setCell ⟨wa.heap.size,0,none⟩ (.bool SG)).setCell ⟨wa.heap.size,1,none⟩ (.slice aN mN cN)).setCell ⟨wa.heap.size,2,none⟩ (.slice aD mD cD) = wf at *
  refine bodyPost_ret (by simp [results,Tryz.results11,go_sem,t0,t1,t2]; try rfl) rfl ?_
  obtain ⟨sN,nN,sD,nD⟩:=Uh HS3
  exact ⟨_,rfl,newR_of (Uh HRw) (Uh HO3).lt (Uh HB3) sN nN sD nD c4 SG⟩

set_option maxRecDepth 100000 in
set_option maxHeartbeats 16000000 in
theorem wAbs_any (g1:Bool) (a1 b1:Option Addr) (n1 c1 m1 d1:Nat) (x1 y1:List Nat) (w:World) (hx1:Sl w a1 n1 c1 x1) (hy1:Sl w b1 m1 d1 y1) (ox1:Ok x1) (oy1:Ok y1) (nx:a1 = none → c1 = 0) (ny:b1 = none → d1 = 0) :
  Calls Tryz.prog 14 #[ratV g1 a1 n1 c1 b1 m1 d1] w fun e w' => ResF w w' (AbsF g1 x1 y1) e:=by
 obtain ⟨⟨⟨SG,LN,LD⟩,ER⟩,hFF⟩:∃ r,AbsF g1 x1 y1 = r:=⟨_,rfl⟩
 rw [hFF]
 unfold ResF
 dsimp only
 have bx:=Box.made w g1 a1 n1 c1 b1 m1 d1
 obtain ⟨wa,hwa⟩:∃ wa,ratBox w g1 a1 n1 c1 b1 m1 d1 = wa:=⟨_,rfl⟩
 rw [hwa] at bx
 unfold ratBox at hwa
 have hba:=bx.bel
 obtain ⟨wo,hwo⟩:∃ x,wa.alloc (.cells #[.bool false,.slice none 0 0,.slice none 0 0] 25) = x:=⟨_,rfl⟩
 have hbo:Below wa.heap.size wa wo:=by rw [← hwo]; exact bAl
 have hO:Out wo wa.heap.size:=by rw [← hwo]; exact Out.made wa
 have bx2:=bx.keep hbo
 have hB:=hba.trans (hbo.mono hba.size)
 have hRw:w.heap.size ≤ wa.heap.size:=hba.size
 have hne1:w.heap.size ≠ wa.heap.size:=by have:=bx.lt; omega
 have hne3:wa.heap.size ≠ w.heap.size:=by have:=bx.lt; omega
 have p0:=bx2.d0
 have p1:=bx2.d1
 have p2:=bx2.d2
 have HRw:=Hd hRw
 have HO:=Hd hO
 have HBo:=Hd hB
 have K1:=wmay_any g1 a1 b1 n1 c1 m1 d1 x1 y1 wo (hx1.below hB) (hy1.below hB) ox1 oy1
 cases k1:MayR g1 x1 y1
 ·rw [k1] at K1
  have h40:=hFF.symm.trans (show AbsF g1 x1 y1 = ((false,[],[]),40) from by unfold AbsF; rw [k1]; rfl)
  cases h40
  clear hFF
  have HK1:=Hd K1
  clear K1 hx1 hy1 bx bx2 hba hbo hB hO
  unfold ratV at HK1 ⊢
  go_enter Tryz.func14,Tryz.ntmps14
  go_wp2_with fail
  refine (Uh HK1).mono ?_
  rintro _ w3 ⟨rfl,b3⟩
  have HO3:=Hd ((Uh HO).keep b3)
  have HB3:=Hd ((Uh HBo).trans (b3.mono (Uh HBo).size))
  clear b3 HK1 HO HBo
  have hO3:=Uh HO3
  obtain ⟨x0,q0⟩:=hO3.cells 0 (by decide)
  obtain ⟨x1',q1⟩:=hO3.cells 1 (by decide)
  obtain ⟨x2',q2⟩:=hO3.cells 2 (by decide)
  have r0:=hO3.fz 0 (by decide)
  have r1:=hO3.fz 1 (by decide)
  have r2:=hO3.fz 2 (by decide)
  have H4:=Hd (three_set w3 wa.heap.size (.bool false) (.slice none 0 0) (.slice none 0 0) hO3.cells)
  clear hO3
  go_wp2_with fail
  obtain ⟨p0,p1,p2,c4⟩:=Uh H4
  generalize ((w3.setCell ⟨wa.heap.size,0,none⟩ (.bool false)).setCell ⟨wa.heap.size,1,none⟩ (.slice none 0 0)).setCell ⟨wa.heap.size,2,none⟩ (.slice none 0 0) = wf at *
  refine bodyPost_ret (by simp [results,Tryz.results14,go_sem,p0,p1,p2]; try rfl) rfl ?_
  exact ⟨_,rfl,newR_of (Uh HRw) (Uh HO3).lt (Uh HB3) (sl_nil _) (newAt_nil _) (sl_nil _) (newAt_nil _) c4 false⟩
 ·rw [k1] at K1
  obtain ⟨kx1,ky1,ey1,_,l1⟩:=MayR.parts k1
  have s1:n1 ≤ 2048:=by have:=hx1.len; have:=MayL.len kx1; omega
  have s2:m1 ≤ 2048:=by have:=hy1.len; have:=MayL.len ky1; omega
  have h40:=hFF.symm.trans (show AbsF g1 x1 y1 = ((false,x1,y1),0) from by unfold AbsF; rw [k1]; rfl)
  have HC1:=Hd (fun (W:World) (hb:Below wo.heap.size wo W) => wcopied_any a1 n1 c1 x1 W ((hx1.below hB).below hb) nx (by omega))
  have HC2:=Hd (fun (W:World) (hb:Below wo.heap.size wo W) => wcopied_any b1 m1 d1 y1 W ((hy1.below hB).below hb) ny (by omega))
  cases h40
  clear hFF
  have HK1:=Hd K1
  clear K1 hx1 hy1 bx bx2 hba hbo hB hO nx ny kx1 ky1 ey1 l1 k1
  unfold ratV at HK1 ⊢
  go_enter Tryz.func14,Tryz.ntmps14
  go_wp2_with fail
  refine (Uh HK1).mono ?_
  rintro _ w3 ⟨rfl,b3⟩
  have f0:=(ck b3 p0)
  have f1:=(ck b3 p1)
  have f2:=(ck b3 p2)
  have HC1':=Hd (fun (W:World) (hb:Below w3.heap.size w3 W) => Uh HC1 W (b3.trans (hb.mono b3.size)))
  have HC2':=Hd (fun (W:World) (hb:Below w3.heap.size w3 W) => Uh HC2 W (b3.trans (hb.mono b3.size)))
  have HOk:=Hd ((Uh HO).keep b3)
  have HBk:=Hd ((Uh HBo).trans (b3.mono (Uh HBo).size))
  clear b3 HK1 p0 p1 p2 HC1 HC2 HO HBo
  go_wp2_with fail
  go_region_held3 (fun w' => w'.cell? ⟨w.heap.size,0,none⟩ = some (.bool g1) ∧ w'.cell? ⟨w.heap.size,1,none⟩ = some (.slice a1 n1 c1) ∧ w'.cell? ⟨w.heap.size,2,none⟩ = some (.slice b1 m1 d1)) (first | go_keep | (exact ⟨k0,k1,k2⟩) | (exact ⟨j0,j1,j2⟩))
   (first
    | (go_at_call_of 48 (Value.slice a1 n1 c1); refine (Uh HC1' _ (Below.refl _ _).drew).mono ?_; rintro _ wk ⟨aq,cq,rfl,oq,bl_k⟩; have hb_k:Below w3.heap.size w3 wk:=(Below.refl _ _).drew.trans bl_k; have k0:=(ck hb_k f0); have k1:=(ck hb_k f1); have k2:=(ck hb_k f2); have SQ:=Hd oq; clear oq; have HB_k:=Hd hb_k; clear hb_k bl_k)
    | (go_at_call_of 48 (Value.slice b1 m1 d1); refine (Uh HC2' _ (Uh HB_k)).mono ?_; rintro _ wj ⟨ar,cr,rfl,orr,bl_j⟩; have hb_j:Below w3.heap.size w3 wj:=(Uh HB_k).trans (bl_j.mono (Uh HB_k).size); have j0:=(ck bl_j k0); have j1:=(ck bl_j k1); have j2:=(ck bl_j k2); have hO3:=(Uh HOk).keep hb_j; obtain ⟨x0,q0⟩:=hO3.cells 0 (by decide); obtain ⟨x1,q1⟩:=hO3.cells 1 (by decide); obtain ⟨x2,q2⟩:=hO3.cells 2 (by decide); have r0:=hO3.fz 0 (by decide); have r1:=hO3.fz 1 (by decide); have r2:=hO3.fz 2 (by decide); have HO3:=Hd hO3; have SR:=Hd (And.intro ((Uh SQ).sl.below bl_j) (And.intro (show NewAt (wa.heap.size + 1) aq from fun x hx => Nat.le_trans (Uh HOk).lt (Nat.le_trans (Below.refl w3.heap.size w3).drew.size ((Uh SQ).new x hx))) (And.intro orr.sl (show NewAt (wa.heap.size + 1) ar from fun x hx => Nat.le_trans (Uh HOk).lt (Nat.le_trans (Uh HB_k).size (orr.new x hx)))))); clear orr hO3; have HB_j:=Hd hb_j; clear hb_j bl_j))
  have H4:=Hd (three_set wj wa.heap.size (.bool false) (.slice aq n1 cq) (.slice ar m1 cr) (Uh HO3).cells)
  have HB3:=Hd ((Uh HBk).trans ((Uh HB_j).mono (Uh HBk).size))
  clear q0 q1 q2 r0 r1 r2
  try go_wp2_with fail
  obtain ⟨t0,t1,t2,c4⟩:=Uh H4
  generalize ((wj.setCell ⟨wa.heap.size,0,none⟩ (.bool false)).setCell ⟨wa.heap.size,1,none⟩ (.slice aq n1 cq)).setCell ⟨wa.heap.size,2,none⟩ (.slice ar m1 cr) = wf at *
  refine bodyPost_ret (by simp [results,Tryz.results14,go_sem,t0,t1,t2]; try rfl) rfl ?_
  obtain ⟨sN,nN,sD,nD⟩:=Uh SR
  exact ⟨_,rfl,newR_of (Uh HRw) (Uh HO3).lt (Uh HB3) sN nN sD nD c4 false⟩
end Go.Proofs.YthmcfpeobkgihaaGreatDoor
