/- Wrj -/
import Derived.Test.YthmcfpeobkgihaaGreatDoorWrh
import Derived.Test.YthmcfpeobkgihaaGreatDoorWri
import Derived.Test.YthmcfpeobkgihaaGreatDoorPa2
namespace Go.Proofs.YthmcfpeobkgihaaGreatDoor
open Go.RowKit Go.Deep
set_option linter.unusedVariables false
theorem plus_lowest {g1 g2 g3:Bool} {x1 y1 x2 y2:List Nat} (h1:MayR g1 x1 y1 = true) (h2:MayR g2 x2 y2 = true) (h3:Bool) (e3:nI h3 (val x2) = nI g3 (val x2)) :
  lowF (cmbV g1 (val x1 * val y2) h3 (val x2 * val y1)).2 (cmbV g1 (val x1 * val y2) h3 (val x2 * val y1)).1 (val y1 * val y2) = if bigN (adN g1 x1 y1 g3 x2 y2) || bigN (adD g1 x1 y1 g3 x2 y2) then ((false,[],[]),2) else (((adS g1 x1 y1 g3 x2 y2).2 && decide (adN g1 x1 y1 g3 x2 y2 ≠ 0),limbs (adN g1 x1 y1 g3 x2 y2),limbs (adD g1 x1 y1 g3 x2 y2)),0):=by
 obtain ⟨_,_,_,_,l1⟩:=MayR.parts h1
 obtain ⟨_,_,_,_,l2⟩:=MayR.parts h2
 have p1:=mayR_pos h1
 have p2:=mayR_pos h2
 have hGp:0 < adG y1 y2:=Nat.gcd_pos_of_pos_right _ p2
 have hD:0 < adD g1 x1 y1 g3 x2 y2:=by
  unfold adD adC
  exact Nat.mul_pos (Nat.mul_pos (div_pos_of_dvd (Nat.gcd_dvd_left _ _) p1) (div_pos_of_dvd (Nat.gcd_dvd_right _ _) p2)) (div_pos_of_dvd (Nat.gcd_dvd_right _ _) hGp)
 refine lowF_is (add_low (G:=adG y1 y2) l1 l2 p1 p2 rfl (cmbV_abs g1 g3 _ _)) hD (Nat.mul_pos p1 p2) ?_
 rw [cmbV_val,nI_mul,nI_mul,e3]
 exact add_val (G:=adG y1 y2) rfl p2 (cmbV_val g1 g3 _ _)
set_option maxRecDepth 100000 in
set_option maxHeartbeats 16000000 in
theorem wAdd_any (g1 g2:Bool) (a1 b1 a2 b2:Option Addr) (n1 c1 m1 d1 n2 c2 m2 d2:Nat) (x1 y1 x2 y2:List Nat) (w:World) (hx1:Sl w a1 n1 c1 x1) (hy1:Sl w b1 m1 d1 y1) (hx2:Sl w a2 n2 c2 x2) (hy2:Sl w b2 m2 d2 y2) (ox1:Ok x1) (oy1:Ok y1) (ox2:Ok x2) (oy2:Ok y2) :
  Calls Tryz.prog 38 #[ratV g1 a1 n1 c1 b1 m1 d1,ratV g2 a2 n2 c2 b2 m2 d2] w fun e w' => ResF w w' (AddF g1 x1 y1 g2 x2 y2) e:=by
 obtain ⟨⟨⟨SG,LN,LD⟩,ER⟩,hFF⟩:∃ r,AddF g1 x1 y1 g2 x2 y2 = r:=⟨_,rfl⟩
 rw [hFF]
 unfold ResF
 dsimp only
 have bx:=Box.made w g1 a1 n1 c1 b1 m1 d1
 obtain ⟨wa,hwa⟩:∃ wa,ratBox w g1 a1 n1 c1 b1 m1 d1 = wa:=⟨_,rfl⟩
 rw [hwa] at bx
 have by_:=Box.made wa g2 a2 n2 c2 b2 m2 d2
 obtain ⟨wb,hwb⟩:∃ wb,ratBox wa g2 a2 n2 c2 b2 m2 d2 = wb:=⟨_,rfl⟩
 rw [hwb] at by_
 have hba:Below w.heap.size w wa:=by rw [← hwa]; exact bAl
 have hbb:Below wa.heap.size wa wb:=by rw [← hwb]; exact bAl
 unfold ratBox at hwa hwb
 obtain ⟨wo,hwo⟩:∃ x,wb.alloc (.cells #[.bool false,.slice none 0 0,.slice none 0 0] 25) = x:=⟨_,rfl⟩
 have hbo:Below wb.heap.size wb wo:=by rw [← hwo]; exact bAl
 have hO:Out wo wb.heap.size:=by rw [← hwo]; exact Out.made wb
 have bx2:=(bx.keep hbb).keep hbo
 have by2:=by_.keep hbo
 have hB:=(hba.trans (hbb.mono hba.size)).trans (hbo.mono (Nat.le_trans hba.size hbb.size))
 have hRw:w.heap.size ≤ wb.heap.size:=Nat.le_trans hba.size hbb.size
 have hlab:w.heap.size ≠ wa.heap.size:=by have:=bx.lt; omega
 have hlab2:w.heap.size < wb.heap.size:=Nat.lt_of_lt_of_le bx.lt hbb.size
 have hlab3:wa.heap.size < wb.heap.size:=by_.lt
 have hne1:w.heap.size ≠ wb.heap.size:=by omega
 have hne2:wa.heap.size ≠ wb.heap.size:=by omega
 have hne3:wb.heap.size ≠ w.heap.size:=by omega
 have hne4:wb.heap.size ≠ wa.heap.size:=by omega
 have p0:=bx2.d0
 have p1:=bx2.d1
 have p2:=bx2.d2
 have p3:=by2.d0
 have p4:=by2.d1
 have p5:=by2.d2
 have HRw:=Hd hRw
 have HO:=Hd hO
 have HBo:=Hd hB
 have K1:=wmay_any g1 a1 b1 n1 c1 m1 d1 x1 y1 wo (hx1.below hB) (hy1.below hB) ox1 oy1
 have HK2:=Hd (fun (W:World) (hb:Below wo.heap.size wo W) => wmay_any g2 a2 b2 n2 c2 m2 d2 x2 y2 W ((hx2.below hB).below hb) ((hy2.below hB).below hb) ox2 oy2)
 cases k1:MayR g1 x1 y1
 ·rw [k1] at K1
  have h40:=hFF.symm.trans (show AddF g1 x1 y1 g2 x2 y2 = ((false,[],[]),40) from by unfold AddF; rw [k1]; rfl)
  cases h40
  clear hFF
  have HK1:=Hd K1
  clear K1 HK2 hx1 hy1 hx2 hy2 bx by_ bx2 by2 hba hbb hbo hB hO
  unfold ratV at HK1 ⊢
  go_enter Tryz.func38,Tryz.ntmps38
  go_wp2_with fail
  refine (Uh HK1).mono ?_
  rintro _ w3 ⟨rfl,b3⟩
  have HO3:=Hd ((Uh HO).keep b3)
  have HB3:=Hd ((Uh HBo).trans (b3.mono (Uh HBo).size))
  clear b3 HK1 HO HBo
  have hO3:=Uh HO3
  obtain ⟨x0,q0⟩:=hO3.cells 0 (by decide)
  obtain ⟨x1,q1⟩:=hO3.cells 1 (by decide)
  obtain ⟨x2,q2⟩:=hO3.cells 2 (by decide)
  have r0:=hO3.fz 0 (by decide)
  have r1:=hO3.fz 1 (by decide)
  have r2:=hO3.fz 2 (by decide)
  have H4:=Hd (three_set w3 wb.heap.size (.bool false) (.slice none 0 0) (.slice none 0 0) hO3.cells)
  clear hO3
  go_wp2_with fail
  obtain ⟨p0,p1,p2,c4⟩:=Uh H4
  generalize ((w3.setCell ⟨wb.heap.size,0,none⟩ (.bool false)).setCell ⟨wb.heap.size,1,none⟩ (.slice none 0 0)).setCell ⟨wb.heap.size,2,none⟩ (.slice none 0 0) = wf at *
  refine bodyPost_ret (by simp [results,Tryz.results38,go_sem,p0,p1,p2]; try rfl) rfl ?_
  exact ⟨_,rfl,newR_of (Uh HRw) (Uh HO3).lt (Uh HB3) (sl_nil _) (newAt_nil _) (sl_nil _) (newAt_nil _) c4 false⟩
 ·rw [k1] at K1
  have HK1:=Hd K1
  clear K1
  cases k2:MayR g2 x2 y2
  ·rw [k2] at HK2
   have h40:=hFF.symm.trans (show AddF g1 x1 y1 g2 x2 y2 = ((false,[],[]),40) from by unfold AddF; rw [k1,k2]; rfl)
   cases h40
   clear hFF
   clear hx1 hy1 hx2 hy2 bx by_ bx2 by2 hba hbb hbo hB hO
   unfold ratV at HK1 HK2 ⊢
   go_enter Tryz.func38,Tryz.ntmps38
   go_wp2_with fail
   refine (Uh HK1).mono ?_
   rintro _ w2 ⟨rfl,b2⟩
   have e0:=(ck b2 p0)
   have e1:=(ck b2 p1)
   have e2:=(ck b2 p2)
   have e3:=(ck b2 p3)
   have e4:=(ck b2 p4)
   have e5:=(ck b2 p5)
   have HO2:=Hd ((Uh HO).keep b2)
   have HB2:=Hd ((Uh HBo).trans (b2.mono (Uh HBo).size))
   have HBL2:=Hd b2
   clear b2 HK1 HO HBo
   go_wp2_with fail
   refine (Uh HK2 _ (Uh HBL2)).mono ?_
   rintro _ w3 ⟨rfl,b3⟩
   have HO3:=Hd ((Uh HO2).keep b3)
   have HB3:=Hd ((Uh HB2).trans (b3.mono (Uh HB2).size))
   clear b3 HK2 HO2 HB2 HBL2
   have hO3:=Uh HO3
   obtain ⟨x0,q0⟩:=hO3.cells 0 (by decide)
   obtain ⟨x1,q1⟩:=hO3.cells 1 (by decide)
   obtain ⟨x2,q2⟩:=hO3.cells 2 (by decide)
   have r0:=hO3.fz 0 (by decide)
   have r1:=hO3.fz 1 (by decide)
   have r2:=hO3.fz 2 (by decide)
   have H4:=Hd (three_set w3 wb.heap.size (.bool false) (.slice none 0 0) (.slice none 0 0) hO3.cells)
   clear hO3
   go_wp2_with fail
   obtain ⟨p0,p1,p2,c4⟩:=Uh H4
   generalize ((w3.setCell ⟨wb.heap.size,0,none⟩ (.bool false)).setCell ⟨wb.heap.size,1,none⟩ (.slice none 0 0)).setCell ⟨wb.heap.size,2,none⟩ (.slice none 0 0) = wf at *
   refine bodyPost_ret (by simp [results,Tryz.results38,go_sem,p0,p1,p2]; try rfl) rfl ?_
   exact ⟨_,rfl,newR_of (Uh HRw) (Uh HO3).lt (Uh HB3) (sl_nil _) (newAt_nil _) (sl_nil _) (newAt_nil _) c4 false⟩
  ·rw [k2] at HK2
   obtain ⟨kx1,ky1,ey1,_,l1⟩:=MayR.parts k1
   obtain ⟨kx2,ky2,ey2,_,l2⟩:=MayR.parts k2
   have s1:n1 ≤ 2048:=by have:=hx1.len; have:=MayL.len kx1; omega
   have s2:m1 ≤ 2048:=by have:=hy1.len; have:=MayL.len ky1; omega
   have s3:n2 ≤ 2048:=by have:=hx2.len; have:=MayL.len kx2; omega
   have s4:m2 ≤ 2048:=by have:=hy2.len; have:=MayL.len ky2; omega
   have HR:=Hd ((show lowF (cmbV g1 (val x1 * val y2) g2 (val x2 * val y1)).2 (cmbV g1 (val x1 * val y2) g2 (val x2 * val y1)).1 (val y1 * val y2) = AddF g1 x1 y1 g2 x2 y2 from by
    rw [plus_lowest k1 k2 (g3:=g2) g2 rfl]
    unfold AddF; rw [k1,k2]; rfl).trans hFF)
   clear hFF
   have HKP:=Hd (fun (W:World) (hb:Below wo.heap.size wo W) => wplus_any g1 g2 a1 b1 a2 b2 n1 c1 m1 d1 n2 c2 m2 d2 x1 y1 x2 y2 W ((hx1.below hB).below hb) ((hy1.below hB).below hb) ((hx2.below hB).below hb) ((hy2.below hB).below hb) ox1 oy1 ox2 oy2 (MayL.norm kx1) (MayL.norm ky1) (MayL.norm kx2) (MayL.norm ky2) ey1 ey2 (by omega) (by omega) (by omega) (by omega))
   rw [Uh HR] at HKP
   unfold ResF at HKP
   dsimp only at HKP
   unfold ratV at HKP
   clear hx1 hy1 hx2 hy2 bx by_ bx2 by2 hba hbb hbo hB hO k1 k2 kx1 kx2 ky1 ky2 ey1 ey2 l1 l2
   unfold ratV at HK1 HK2 ⊢
   go_enter Tryz.func38,Tryz.ntmps38
   go_wp2_with fail
   refine (Uh HK1).mono ?_
   rintro _ w2 ⟨rfl,b2⟩
   have e0:=(ck b2 p0)
   have e1:=(ck b2 p1)
   have e2:=(ck b2 p2)
   have e3:=(ck b2 p3)
   have e4:=(ck b2 p4)
   have e5:=(ck b2 p5)
   have HBL2:=Hd b2
   clear b2 HK1
   go_wp2_with fail
   refine (Uh HK2 _ (Uh HBL2)).mono ?_
   rintro _ w3 ⟨rfl,b3⟩
   have f0:=(ck b3 e0)
   have f1:=(ck b3 e1)
   have f2:=(ck b3 e2)
   have f3:=(ck b3 e3)
   have f4:=(ck b3 e4)
   have f5:=(ck b3 e5)
   have HBL3:=Hd ((Uh HBL2).trans (b3.mono (Uh HBL2).size))
   clear b3 HK2 HBL2 e0 e1 e2 e3 e4 e5 p0 p1 p2 p3 p4 p5
   go_wp2_with fail
   refine (Uh HKP _ (Uh HBL3)).mono ?_
   rintro _ wi ⟨vv,rfl,aN,mN,cN,aD,mD,cD,rfl,sN,sD,nN,nD,bl_i⟩
   unfold ratV
   have hzz:wb.heap.size + 1 ≤ w3.heap.size:=Nat.le_trans (Uh HO).lt (Uh HBL3).size
   have HS3:=Hd (And.intro sN (And.intro (show NewAt (wb.heap.size + 1) aN from fun x hx => Nat.le_trans hzz (nN x hx)) (And.intro sD (show NewAt (wb.heap.size + 1) aD from fun x hx => Nat.le_trans hzz (nD x hx)))))
   have HB_i:=Hd bl_i
   have hO3:=(Uh HO).keep ((Uh HBL3).trans (bl_i.mono (Uh HBL3).size))
   obtain ⟨x0,q0⟩:=hO3.cells 0 (by decide)
   obtain ⟨x1',q1⟩:=hO3.cells 1 (by decide)
   obtain ⟨x2',q2⟩:=hO3.cells 2 (by decide)
   have r0:=hO3.fz 0 (by decide)
   have r1:=hO3.fz 1 (by decide)
   have r2:=hO3.fz 2 (by decide)
   have HO3:=Hd hO3
   have H4:=Hd (three_set wi wb.heap.size (.bool SG) (.slice aN mN cN) (.slice aD mD cD) (Uh HO3).cells)
   have HB3:=Hd ((Uh HBo).trans (((Uh HBL3).trans ((Uh HB_i).mono (Uh HBL3).size)).mono (Uh HBo).size))
   clear sN sD nN nD bl_i hO3
   go_wp2_with fail
   obtain ⟨t0,t1,t2,c4⟩:=Uh H4
   generalize ((wi.setCell ⟨wb.heap.size,0,none⟩ (.bool SG)).setCell ⟨wb.heap.size,1,none⟩ (.slice aN mN cN)).setCell ⟨wb.heap.size,2,none⟩ (.slice aD mD cD) = wf at *
   refine bodyPost_ret (by simp [results,Tryz.results38,go_sem,t0,t1,t2]; try rfl) rfl ?_
   obtain ⟨sN,nN,sD,nD⟩:=Uh HS3
   exact ⟨_,rfl,newR_of (Uh HRw) (Uh HO3).lt (Uh HB3) sN nN sD nD c4 SG⟩
set_option maxRecDepth 100000 in
set_option maxHeartbeats 16000000 in
theorem wSub_any (g1 g2:Bool) (a1 b1 a2 b2:Option Addr) (n1 c1 m1 d1 n2 c2 m2 d2:Nat) (x1 y1 x2 y2:List Nat) (w:World) (hx1:Sl w a1 n1 c1 x1) (hy1:Sl w b1 m1 d1 y1) (hx2:Sl w a2 n2 c2 x2) (hy2:Sl w b2 m2 d2 y2) (ox1:Ok x1) (oy1:Ok y1) (ox2:Ok x2) (oy2:Ok y2) (nx2:a2 = none → c2 = 0) (ny2:b2 = none → d2 = 0) :
  Calls Tryz.prog 40 #[ratV g1 a1 n1 c1 b1 m1 d1,ratV g2 a2 n2 c2 b2 m2 d2] w fun e w' => ResF w w' (SubF g1 x1 y1 g2 x2 y2) e:=by
 obtain ⟨⟨⟨SG,LN,LD⟩,ER⟩,hFF⟩:∃ r,SubF g1 x1 y1 g2 x2 y2 = r:=⟨_,rfl⟩
 rw [hFF]
 unfold ResF
 dsimp only
 have bx:=Box.made w g1 a1 n1 c1 b1 m1 d1
 obtain ⟨wa,hwa⟩:∃ wa,ratBox w g1 a1 n1 c1 b1 m1 d1 = wa:=⟨_,rfl⟩
 rw [hwa] at bx
 have by_:=Box.made wa g2 a2 n2 c2 b2 m2 d2
 obtain ⟨wb,hwb⟩:∃ wb,ratBox wa g2 a2 n2 c2 b2 m2 d2 = wb:=⟨_,rfl⟩
 rw [hwb] at by_
 have hba:Below w.heap.size w wa:=by rw [← hwa]; exact bAl
 have hbb:Below wa.heap.size wa wb:=by rw [← hwb]; exact bAl
 unfold ratBox at hwa hwb
 obtain ⟨wo,hwo⟩:∃ x,wb.alloc (.cells #[.bool false,.slice none 0 0,.slice none 0 0] 25) = x:=⟨_,rfl⟩
 have hbo:Below wb.heap.size wb wo:=by rw [← hwo]; exact bAl
 have hO:Out wo wb.heap.size:=by rw [← hwo]; exact Out.made wb
 have bx2:=(bx.keep hbb).keep hbo
 have by2:=by_.keep hbo
 have hB:=(hba.trans (hbb.mono hba.size)).trans (hbo.mono (Nat.le_trans hba.size hbb.size))
 have hRw:w.heap.size ≤ wb.heap.size:=Nat.le_trans hba.size hbb.size
 have hlab:w.heap.size ≠ wa.heap.size:=by have:=bx.lt; omega
 have hlab2:w.heap.size < wb.heap.size:=Nat.lt_of_lt_of_le bx.lt hbb.size
 have hlab3:wa.heap.size < wb.heap.size:=by_.lt
 have hne1:w.heap.size ≠ wb.heap.size:=by omega
 have hne2:wa.heap.size ≠ wb.heap.size:=by omega
 have hne3:wb.heap.size ≠ w.heap.size:=by omega
 have hne4:wb.heap.size ≠ wa.heap.size:=by omega
 have p0:=bx2.d0
 have p1:=bx2.d1
 have p2:=bx2.d2
 have p3:=by2.d0
 have p4:=by2.d1
 have p5:=by2.d2
 have HRw:=Hd hRw
 have HO:=Hd hO
 have HBo:=Hd hB
 have K1:=wmay_any g1 a1 b1 n1 c1 m1 d1 x1 y1 wo (hx1.below hB) (hy1.below hB) ox1 oy1
 have HK2:=Hd (fun (W:World) (hb:Below wo.heap.size wo W) => wmay_any g2 a2 b2 n2 c2 m2 d2 x2 y2 W ((hx2.below hB).below hb) ((hy2.below hB).below hb) ox2 oy2)
 cases k1:MayR g1 x1 y1
 ·rw [k1] at K1
  have h40:=hFF.symm.trans (show SubF g1 x1 y1 g2 x2 y2 = ((false,[],[]),40) from by unfold SubF; rw [k1]; rfl)
  cases h40
  clear hFF
  have HK1:=Hd K1
  clear K1 HK2 hx1 hy1 hx2 hy2 bx by_ bx2 by2 hba hbb hbo hB hO
  unfold ratV at HK1 ⊢
  go_enter Tryz.func40,Tryz.ntmps40
  go_wp2_with fail
  refine (Uh HK1).mono ?_
  rintro _ w3 ⟨rfl,b3⟩
  have HO3:=Hd ((Uh HO).keep b3)
  have HB3:=Hd ((Uh HBo).trans (b3.mono (Uh HBo).size))
  clear b3 HK1 HO HBo
  have hO3:=Uh HO3
  obtain ⟨x0,q0⟩:=hO3.cells 0 (by decide)
  obtain ⟨x1,q1⟩:=hO3.cells 1 (by decide)
  obtain ⟨x2,q2⟩:=hO3.cells 2 (by decide)
  have r0:=hO3.fz 0 (by decide)
  have r1:=hO3.fz 1 (by decide)
  have r2:=hO3.fz 2 (by decide)
  have H4:=Hd (three_set w3 wb.heap.size (.bool false) (.slice none 0 0) (.slice none 0 0) hO3.cells)
  clear hO3
  go_wp2_with fail
  obtain ⟨p0,p1,p2,c4⟩:=Uh H4
  generalize ((w3.setCell ⟨wb.heap.size,0,none⟩ (.bool false)).setCell ⟨wb.heap.size,1,none⟩ (.slice none 0 0)).setCell ⟨wb.heap.size,2,none⟩ (.slice none 0 0) = wf at *
  refine bodyPost_ret (by simp [results,Tryz.results40,go_sem,p0,p1,p2]; try rfl) rfl ?_
  exact ⟨_,rfl,newR_of (Uh HRw) (Uh HO3).lt (Uh HB3) (sl_nil _) (newAt_nil _) (sl_nil _) (newAt_nil _) c4 false⟩
 ·rw [k1] at K1
  have HK1:=Hd K1
  clear K1
  cases k2:MayR g2 x2 y2
  ·rw [k2] at HK2
   have h40:=hFF.symm.trans (show SubF g1 x1 y1 g2 x2 y2 = ((false,[],[]),40) from by unfold SubF; rw [k1,k2]; rfl)
   cases h40
   clear hFF
   clear hx1 hy1 hx2 hy2 bx by_ bx2 by2 hba hbb hbo hB hO
   unfold ratV at HK1 HK2 ⊢
   go_enter Tryz.func40,Tryz.ntmps40
   go_wp2_with fail
   refine (Uh HK1).mono ?_
   rintro _ w2 ⟨rfl,b2⟩
   have e0:=(ck b2 p0)
   have e1:=(ck b2 p1)
   have e2:=(ck b2 p2)
   have e3:=(ck b2 p3)
   have e4:=(ck b2 p4)
   have e5:=(ck b2 p5)
   have HO2:=Hd ((Uh HO).keep b2)
   have HB2:=Hd ((Uh HBo).trans (b2.mono (Uh HBo).size))
   have HBL2:=Hd b2
   clear b2 HK1 HO HBo
   go_wp2_with fail
   refine (Uh HK2 _ (Uh HBL2)).mono ?_
   rintro _ w3 ⟨rfl,b3⟩
   have HO3:=Hd ((Uh HO2).keep b3)
   have HB3:=Hd ((Uh HB2).trans (b3.mono (Uh HB2).size))
   clear b3 HK2 HO2 HB2 HBL2
   have hO3:=Uh HO3
   obtain ⟨x0,q0⟩:=hO3.cells 0 (by decide)
   obtain ⟨x1,q1⟩:=hO3.cells 1 (by decide)
   obtain ⟨x2,q2⟩:=hO3.cells 2 (by decide)
   have r0:=hO3.fz 0 (by decide)
   have r1:=hO3.fz 1 (by decide)
   have r2:=hO3.fz 2 (by decide)
   have H4:=Hd (three_set w3 wb.heap.size (.bool false) (.slice none 0 0) (.slice none 0 0) hO3.cells)
   clear hO3
   go_wp2_with fail
   obtain ⟨p0,p1,p2,c4⟩:=Uh H4
   generalize ((w3.setCell ⟨wb.heap.size,0,none⟩ (.bool false)).setCell ⟨wb.heap.size,1,none⟩ (.slice none 0 0)).setCell ⟨wb.heap.size,2,none⟩ (.slice none 0 0) = wf at *
   refine bodyPost_ret (by simp [results,Tryz.results40,go_sem,p0,p1,p2]; try rfl) rfl ?_
   exact ⟨_,rfl,newR_of (Uh HRw) (Uh HO3).lt (Uh HB3) (sl_nil _) (newAt_nil _) (sl_nil _) (newAt_nil _) c4 false⟩
  ·rw [k2] at HK2
   obtain ⟨kx1,ky1,ey1,_,l1⟩:=MayR.parts k1
   obtain ⟨kx2,ky2,ey2,_,l2⟩:=MayR.parts k2
   have s1:n1 ≤ 2048:=by have:=hx1.len; have:=MayL.len kx1; omega
   have s2:m1 ≤ 2048:=by have:=hy1.len; have:=MayL.len ky1; omega
   have s3:n2 ≤ 2048:=by have:=hx2.len; have:=MayL.len kx2; omega
   have s4:m2 ≤ 2048:=by have:=hy2.len; have:=MayL.len ky2; omega
   have HR:=Hd ((show lowF (cmbV g1 (val x1 * val y2) ((!g2) && decide (x2 ≠ [])) (val x2 * val y1)).2 (cmbV g1 (val x1 * val y2) ((!g2) && decide (x2 ≠ [])) (val x2 * val y1)).1 (val y1 * val y2) = SubF g1 x1 y1 g2 x2 y2 from by
    rw [plus_lowest k1 k2 (g3:=!g2) ((!g2) && decide (x2 ≠ [])) ?_]
    ·unfold SubF; rw [k1,k2]; rfl
    ·by_cases hz:x2 = []
     ·rw [hz]; unfold nI; simp [val]
     ·simp [hz]).trans hFF)
   clear hFF
   obtain ⟨gt,hgt⟩:∃ g,((!g2) && decide (x2 ≠ [])) = g:=⟨_,rfl⟩
   rw [hgt] at HR
   have HKT:=Hd (fun (W:World) (hb:Below wo.heap.size wo W) => wturned_any g2 a2 b2 n2 c2 m2 d2 x2 y2 W ((hx2.below hB).below hb) ((hy2.below hB).below hb) nx2 ny2 (by omega) (by omega))
   rw [hgt] at HKT
   unfold ratV at HKT
   have HKP:=Hd (fun (W:World) (hb:Below wo.heap.size wo W) at_ mt ct bt nt dt (h1':Sl W at_ mt ct x2) (h2':Sl W bt nt dt y2) => wplus_any g1 gt a1 b1 at_ bt n1 c1 m1 d1 mt ct nt dt x1 y1 x2 y2 W ((hx1.below hB).below hb) ((hy1.below hB).below hb) h1' h2' ox1 oy1 ox2 oy2 (MayL.norm kx1) (MayL.norm ky1) (MayL.norm kx2) (MayL.norm ky2) ey1 ey2 (by omega) (by omega) (by have:=h1'.len; have:=MayL.len kx2; omega) (by have:=h2'.len; have:=MayL.len ky2; omega))
   rw [Uh HR] at HKP
   unfold ResF at HKP
   dsimp only at HKP
   unfold ratV at HKP
   clear hx1 hy1 hx2 hy2 bx by_ bx2 by2 hba hbb hbo hB hO k1 k2 kx1 kx2 ky1 ky2 ey1 ey2 l1 l2 nx2 ny2 hgt
   unfold ratV at HK1 HK2 ⊢
   go_enter Tryz.func40,Tryz.ntmps40
   go_wp2_with fail
   refine (Uh HK1).mono ?_
   rintro _ w2 ⟨rfl,b2⟩
   have e0:=(ck b2 p0)
   have e1:=(ck b2 p1)
   have e2:=(ck b2 p2)
   have e3:=(ck b2 p3)
   have e4:=(ck b2 p4)
   have e5:=(ck b2 p5)
   have HBL2:=Hd b2
   clear b2 HK1
   go_wp2_with fail
   refine (Uh HK2 _ (Uh HBL2)).mono ?_
   rintro _ w3 ⟨rfl,b3⟩
   have f0:=(ck b3 e0)
   have f1:=(ck b3 e1)
   have f2:=(ck b3 e2)
   have f3:=(ck b3 e3)
   have f4:=(ck b3 e4)
   have f5:=(ck b3 e5)
   have HBL3:=Hd ((Uh HBL2).trans (b3.mono (Uh HBL2).size))
   clear b3 HK2 HBL2 e0 e1 e2 e3 e4 e5 p0 p1 p2 p3 p4 p5
   have HKT':=Hd (fun (W:World) (hb:Below w3.heap.size w3 W) => Uh HKT W ((Uh HBL3).trans (hb.mono (Uh HBL3).size)))
   have HKP':=Hd (fun (W:World) (hb:Below w3.heap.size w3 W) => Uh HKP W ((Uh HBL3).trans (hb.mono (Uh HBL3).size)))
   clear HKT HKP
   go_wp2_with fail
   go_region_held3 (fun w' => w'.cell? ⟨w.heap.size,0,none⟩ = some (.bool g1) ∧ w'.cell? ⟨w.heap.size,1,none⟩ = some (.slice a1 n1 c1) ∧ w'.cell? ⟨w.heap.size,2,none⟩ = some (.slice b1 m1 d1) ∧ w'.cell? ⟨wa.heap.size,0,none⟩ = some (.bool g2) ∧ w'.cell? ⟨wa.heap.size,1,none⟩ = some (.slice a2 n2 c2) ∧ w'.cell? ⟨wa.heap.size,2,none⟩ = some (.slice b2 m2 d2)) (first | go_keep | (exact ⟨k0,k1,k2,k3,k4,k5⟩) | (exact ⟨i0,i1,i2,i3,i4,i5⟩))
    (first
     | (go_at_call 46; refine (Uh HKT' _ (Below.refl _ _).drew).mono ?_; rintro _ wk ⟨vt,rfl,at_,mt,ct,bt,nt,dt,rfl,st,su,nt1,nt2,bl_k⟩; have hb_k:Below w3.heap.size w3 wk:=(Below.refl _ _).drew.trans bl_k; have k0:=(ck hb_k f0); have k1:=(ck hb_k f1); have k2:=(ck hb_k f2); have k3:=(ck hb_k f3); have k4:=(ck hb_k f4); have k5:=(ck hb_k f5); unfold ratV; have ST:=Hd (And.intro st su); clear st su nt1 nt2; have HB_k:=Hd hb_k; clear hb_k bl_k)
     | (go_at_call 77; refine (Uh HKP' _ (Uh HB_k) at_ mt ct bt nt dt (Uh ST).1 (Uh ST).2).mono ?_; rintro _ wi ⟨vv,rfl,aN,mN,cN,aD,mD,cD,rfl,sN,sD,nN,nD,bl_i⟩; unfold ratV; have i0:=(ck bl_i k0); have i1:=(ck bl_i k1); have i2:=(ck bl_i k2); have i3:=(ck bl_i k3); have i4:=(ck bl_i k4); have i5:=(ck bl_i k5); have hzz:wb.heap.size + 1 ≤ wk.heap.size:=Nat.le_trans (Uh HO).lt (Nat.le_trans (Uh HBL3).size (Uh HB_k).size); have HS3:=Hd (And.intro sN (And.intro (show NewAt (wb.heap.size + 1) aN from fun x hx => Nat.le_trans hzz (nN x hx)) (And.intro sD (show NewAt (wb.heap.size + 1) aD from fun x hx => Nat.le_trans hzz (nD x hx))))); have hb_i:=(Uh HB_k).trans (bl_i.mono (Uh HB_k).size); have HB_i:=Hd hb_i; have hO3:=(Uh HO).keep ((Uh HBL3).trans (hb_i.mono (Uh HBL3).size)); obtain ⟨x0,q0⟩:=hO3.cells 0 (by decide); obtain ⟨x1',q1⟩:=hO3.cells 1 (by decide); obtain ⟨x2',q2⟩:=hO3.cells 2 (by decide); have r0:=hO3.fz 0 (by decide); have r1:=hO3.fz 1 (by decide); have r2:=hO3.fz 2 (by decide); have HO3:=Hd hO3; clear sN sD nN nD bl_i hb_i hO3))
   have H4:=Hd (three_set wi wb.heap.size (.bool SG) (.slice aN mN cN) (.slice aD mD cD) (Uh HO3).cells)
   have HB3:=Hd ((Uh HBo).trans (((Uh HBL3).trans ((Uh HB_i).mono (Uh HBL3).size)).mono (Uh HBo).size))
   clear q0 q1 q2 r0 r1 r2
   try go_wp2_with fail
   obtain ⟨t0,t1,t2,c4⟩:=Uh H4
   generalize ((wi.setCell ⟨wb.heap.size,0,none⟩ (.bool SG)).setCell ⟨wb.heap.size,1,none⟩ (.slice aN mN cN)).setCell ⟨wb.heap.size,2,none⟩ (.slice aD mD cD) = wf at *
   refine bodyPost_ret (by simp [results,Tryz.results40,go_sem,t0,t1,t2]; try rfl) rfl ?_
   obtain ⟨sN,nN,sD,nD⟩:=Uh HS3
   exact ⟨_,rfl,newR_of (Uh HRw) (Uh HO3).lt (Uh HB3) sN nN sD nD c4 SG⟩
end Go.Proofs.YthmcfpeobkgihaaGreatDoor
