/- Ws5 -/
import Derived.Test.YtmmeiebbnjjijaaGreatDoorWs2
import Derived.Test.YtmmeiebbnjjijaaGreatDoorWrf
namespace Go.Proofs.YtmmeiebbnjjijaaGreatDoor
open Go.RowKit Go.Deep
set_option linter.unusedVariables false
theorem rdQ_fit {x y:List Nat} (kx:MayL x = true) (ky:MayL y = true) (ox:Ok x) (oy:Ok y) (ey:y ≠ []):bigN (rdQ (val x) (val y)) = false:=by
 have:=MayL.len (may_small kx ox (rdQ_le (X:=val x) (val_pos_of_may ky ey)))
 unfold bigN
 simp
 omega

set_option maxRecDepth 100000 in
set_option maxHeartbeats 16000000 in
theorem wRound_any (g1:Bool) (a1 b1:Option Addr) (n1 c1 m1 d1:Nat) (x1 y1:List Nat) (w:World) (hx1:Sl w a1 n1 c1 x1) (hy1:Sl w b1 m1 d1 y1) (ox1:Ok x1) (oy1:Ok y1) (nx:a1 = none → c1 = 0) :
  Calls Tryz.prog 91 #[ratV g1 a1 n1 c1 b1 m1 d1] w fun e w' => ResF w w' (RoundF g1 x1 y1) e:=by
 suffices h:Calls Tryz.prog 91 #[ratV g1 a1 n1 c1 b1 m1 d1] w fun e w' => ResZ w w' (RoundF g1 x1 y1) e from h.mono fun _ _ h => h.res
 obtain ⟨⟨⟨SG,LN,LD⟩,ER⟩,hFF⟩:∃ r,RoundF g1 x1 y1 = r:=⟨_,rfl⟩
 rw [hFF]
 unfold ResZ
 dsimp only
 have bx:=Box.made w g1 a1 n1 c1 b1 m1 d1
 obtain ⟨wa,hwa⟩:∃ wa,ratBox w g1 a1 n1 c1 b1 m1 d1 = wa:=⟨_,rfl⟩
 rw [hwa] at bx
 unfold ratBox at hwa
 have hba:=bx.bel
 obtain ⟨wo,hwo⟩:∃ x,wa.alloc (.cells #[.bool false,.slice none 0 0,.slice none 0 0] 25) = x:=⟨_,rfl⟩
 have hbo:Below wa.heap.size wa wo:=by rw [← hwo]; exact bAl
 have hO:Out wo wa.heap.size:=by rw [← hwo]; exact Out.made wa
 have bx2:=bx.keep hbo
 have hB:=hba.trans (hbo.mono hba.size)
 have hRw:w.heap.size ≤ wa.heap.size:=hba.size
 have hne1:w.heap.size ≠ wa.heap.size:=by have:=bx.lt; omega
 have hne3:wa.heap.size ≠ w.heap.size:=by have:=bx.lt; omega
 have p0:=bx2.d0
 have p1:=bx2.d1
 have p2:=bx2.d2
 have HRw:=Hd hRw
 have HO:=Hd hO
 have HBo:=Hd hB
 have K1:=wmay_any g1 a1 b1 n1 c1 m1 d1 x1 y1 wo (hx1.below hB) (hy1.below hB) ox1 oy1
 cases k1:MayR g1 x1 y1
 ·rw [k1] at K1
  have h40:=hFF.symm.trans (show RoundF g1 x1 y1 = ((false,[],[]),40) from by unfold RoundF; rw [k1]; rfl)
  cases h40
  clear hFF
  have HK1:=Hd K1
  clear K1 hx1 hy1 bx bx2 hba hbo hB hO
  unfold ratV at HK1 ⊢
  go_enter Tryz.func91,Tryz.ntmps91
  go_wp2_with fail
  refine (Uh HK1).mono ?_
  rintro _ w3 ⟨rfl,b3⟩
  have HO3:=Hd ((Uh HO).keep b3)
  have HB3:=Hd ((Uh HBo).trans (b3.mono (Uh HBo).size))
  clear b3 HK1 HO HBo
  have hO3:=Uh HO3
  obtain ⟨x0,q0⟩:=hO3.cells 0 (by decide)
  obtain ⟨x1',q1⟩:=hO3.cells 1 (by decide)
  obtain ⟨x2',q2⟩:=hO3.cells 2 (by decide)
  have r0:=hO3.fz 0 (by decide)
  have r1:=hO3.fz 1 (by decide)
  have r2:=hO3.fz 2 (by decide)
  have H4:=Hd (three_set w3 wa.heap.size (.bool false) (.slice none 0 0) (.slice none 0 0) hO3.cells)
  clear hO3
  go_wp2_with fail
  obtain ⟨p0,p1,p2,c4⟩:=Uh H4
  generalize ((w3.setCell ⟨wa.heap.size,0,none⟩ (.bool false)).setCell ⟨wa.heap.size,1,none⟩ (.slice none 0 0)).setCell ⟨wa.heap.size,2,none⟩ (.slice none 0 0) = wf at *
  refine bodyPost_ret (by simp [results,Tryz.results91,go_sem,p0,p1,p2]; try rfl) rfl ?_
  exact ⟨_,rfl,newRz_of (fun _ => rfl) (fun _ => rfl) (Uh HRw) (Uh HO3).lt (Uh HB3) (sl_nil _) (newAt_nil _) (sl_nil _) (newAt_nil _) c4 false⟩
 ·rw [k1] at K1
  obtain ⟨kx1,ky1,ey1,_,l1⟩:=MayR.parts k1
  have s1:n1 ≤ 2048:=by have:=hx1.len; have:=MayL.len kx1; omega
  have s2:m1 ≤ 2048:=by have:=hy1.len; have:=MayL.len ky1; omega
  have HR:=Hd ((lowF_whole (g:=g1) (rdQ_fit kx1 ky1 ox1 oy1 ey1)).trans ((show RoundF g1 x1 y1 = ((g1 && decide (rdQ (val x1) (val y1) ≠ 0),limbs (rdQ (val x1) (val y1)),[1]),0) from by unfold RoundF; rw [if_pos k1]).symm.trans hFF))
  have HQF:=Hd (rdQ_fit kx1 ky1 ox1 oy1 ey1)
  have HKD:=Hd (fun (W:World) (hb:Below wo.heap.size wo W) => wnearest_any a1 b1 n1 c1 m1 d1 x1 y1 W ((hx1.below hB).below hb) nx ((hy1.below hB).below hb) ox1 oy1 (MayL.norm kx1) (MayL.norm ky1) ey1 (by omega) (by omega))
  have HLQ:=Hd (MayL.len (may_small kx1 ox1 (rdQ_le (X:=val x1) (val_pos_of_may ky1 ey1))))
  obtain ⟨Q,hQ⟩:∃ Q,rdQ (val x1) (val y1) = Q:=⟨_,rfl⟩
  rw [hQ] at HR HKD HLQ HQF
  have HK1:=Hd K1
  clear K1 hx1 hy1 bx bx2 hba hbo hB hO nx kx1 ky1 ey1 l1 k1 hFF hQ
  unfold ratV at HK1 ⊢
  go_enter Tryz.func91,Tryz.ntmps91
  go_wp2_with fail
  refine (Uh HK1).mono ?_
  rintro _ w3 ⟨rfl,b3⟩
  have f0:=(ck b3 p0)
  have f1:=(ck b3 p1)
  have f2:=(ck b3 p2)
  have HBL3:=Hd b3
  clear b3 HK1 p0 p1 p2
  have HKD':=Hd (fun (W:World) (hb:Below w3.heap.size w3 W) => Uh HKD W ((Uh HBL3).trans (hb.mono (Uh HBL3).size)))
  clear HKD
  go_wp2_with fail
  go_region_held3 (fun w' => w'.cell? ⟨w.heap.size,0,none⟩ = some (.bool g1) ∧ w'.cell? ⟨w.heap.size,1,none⟩ = some (.slice a1 n1 c1) ∧ w'.cell? ⟨w.heap.size,2,none⟩ = some (.slice b1 m1 d1)) (first | go_keep | (exact ⟨k0,k1,k2⟩) | (exact ⟨i0,i1,i2⟩))
   (first
    | (go_at_call 137; refine (Uh HKD' _ (Below.refl _ _).drew).mono ?_; rintro _ wk ⟨aq,mq,cq,rfl,sq,nq,hq,bl_k⟩; have hb_k:Below w3.heap.size w3 wk:=(Below.refl _ _).drew.trans bl_k; have k0:=(ck hb_k f0); have k1:=(ck hb_k f1); have k2:=(ck hb_k f2); have SQ:=Hd sq; clear sq nq hq; have HB_k:=Hd hb_k; clear hb_k bl_k)
    | (go_at_call 135; have KW:=wwholeZ g1 aq mq cq (limbs Q) wk (Uh SQ) (limbs_ok _) (limbs_norm _) (by have:=(Uh SQ).len; have:=Uh HLQ; omega) (by rw [limbs_v]; exact Uh HQF); rw [limbs_v,Uh HR] at KW; unfold ResZ at KW; dsimp only at KW; refine KW.mono ?_; clear KW; rintro _ wi ⟨vv,rfl,aN,mN,cN,aD,mD,cD,rfl,zN,zD,sN,sD,nN,nD,bl_i⟩; unfold ratV; have i0:=(ck bl_i k0); have i1:=(ck bl_i k1); have i2:=(ck bl_i k2); have hzz:wa.heap.size + 1 ≤ wk.heap.size:=Nat.le_trans (Uh HO).lt (Nat.le_trans (Uh HBL3).size (Uh HB_k).size); have HNZ:=Hd (And.intro zN zD); have HS3:=Hd (And.intro sN (And.intro (show NewAt (wa.heap.size + 1) aN from fun x hx => Nat.le_trans hzz (nN x hx)) (And.intro sD (show NewAt (wa.heap.size + 1) aD from fun x hx => Nat.le_trans hzz (nD x hx))))); have hb_i:=(Uh HB_k).trans (bl_i.mono (Uh HB_k).size); have HB_i:=Hd hb_i; have hO3:=(Uh HO).keep ((Uh HBL3).trans (hb_i.mono (Uh HBL3).size)); obtain ⟨x0,q0⟩:=hO3.cells 0 (by decide); obtain ⟨x1',q1⟩:=hO3.cells 1 (by decide); obtain ⟨x2',q2⟩:=hO3.cells 2 (by decide); have r0:=hO3.fz 0 (by decide); have r1:=hO3.fz 1 (by decide); have r2:=hO3.fz 2 (by decide); have HO3:=Hd hO3; clear zN zD sN sD nN nD bl_i hb_i hO3))
  have H4:=Hd (three_set wi wa.heap.size (.bool SG) (.slice aN mN cN) (.slice aD mD cD) (Uh HO3).cells)
  have HB3:=Hd ((Uh HBo).trans (((Uh HBL3).trans ((Uh HB_i).mono (Uh HBL3).size)).mono (Uh HBo).size))
  clear q0 q1 q2 r0 r1 r2
  try go_wp2_with fail
  obtain ⟨t0,t1,t2,c4⟩:=Uh H4
  generalize ((wi.setCell ⟨wa.heap.size,0,none⟩ (.bool SG)).setCell ⟨wa.heap.size,1,none⟩ (.slice aN mN cN)).setCell ⟨wa.heap.size,2,none⟩ (.slice aD mD cD) = wf at *
  refine bodyPost_ret (by simp [results,Tryz.results91,go_sem,t0,t1,t2]; try rfl) rfl ?_
  obtain ⟨sN,nN,sD,nD⟩:=Uh HS3
  exact ⟨_,rfl,newRz_of (Uh HNZ).1 (Uh HNZ).2 (Uh HRw) (Uh HO3).lt (Uh HB3) sN nN sD nD c4 SG⟩
set_option maxRecDepth 100000 in
set_option maxHeartbeats 16000000 in
theorem wturned_any (neg:Bool) (a1 b1:Option Addr) (n1 c1 m1 d1:Nat) (x1 y1:List Nat) (w:World) (hx1:Sl w a1 n1 c1 x1) (hy1:Sl w b1 m1 d1 y1) (nx:a1 = none → c1 = 0) (ny:b1 = none → d1 = 0) (s1:n1 ≤ 1000000) (s2:m1 ≤ 1000000) :
  Calls Tryz.prog 136 #[ratV neg a1 n1 c1 b1 m1 d1] w fun e w' => ∃ v,e = .returned v ∧ NewR w w' ((!neg) && decide (x1 ≠ [])) x1 y1 v:=by
 obtain ⟨SG,hSG⟩:∃ s,((!neg) && decide (x1 ≠ [])) = s:=⟨_,rfl⟩
 rw [hSG]
 have bx:=Box.made w neg a1 n1 c1 b1 m1 d1
 obtain ⟨wa,hwa⟩:∃ wa,ratBox w neg a1 n1 c1 b1 m1 d1 = wa:=⟨_,rfl⟩
 rw [hwa] at bx
 unfold ratBox at hwa
 have hba:=bx.bel
 obtain ⟨wo,hwo⟩:∃ x,wa.alloc (.cells #[.bool false,.slice none 0 0,.slice none 0 0] 25) = x:=⟨_,rfl⟩
 have hbo:Below wa.heap.size wa wo:=by rw [← hwo]; exact bAl
 have hO:Out wo wa.heap.size:=by rw [← hwo]; exact Out.made wa
 have bx2:=bx.keep hbo
 have hB:=hba.trans (hbo.mono hba.size)
 have hRw:w.heap.size ≤ wa.heap.size:=hba.size
 have hne1:w.heap.size ≠ wa.heap.size:=by have:=bx.lt; omega
 have hne3:wa.heap.size ≠ w.heap.size:=by have:=bx.lt; omega
 have p0:=bx2.d0
 have p1:=bx2.d1
 have p2:=bx2.d2
 have HRw:=Hd hRw
 have HO:=Hd hO
 have HBo:=Hd hB
 have HC1:=Hd (fun (W:World) (hb:Below wo.heap.size wo W) => wcopied_any a1 n1 c1 x1 W ((hx1.below hB).below hb) nx (by omega))
 have HC2:=Hd (fun (W:World) (hb:Below wo.heap.size wo W) => wcopied_any b1 m1 d1 y1 W ((hy1.below hB).below hb) ny (by omega))
 have hl:=hx1.len
 clear hx1 hy1 nx ny bx bx2 hba hbo hB hO
 unfold ratV
 cases neg
 ·by_cases h0:0 < n1
  ·have t0:(0:Int) < (n1:Int):=by omega
   have hS:SG = true:=by rw [← hSG]; simp; intro e; rw [e] at hl; simp at hl; omega
   subst hS
   clear hSG
   go_enter Tryz.func136,Tryz.ntmps136
   go_wp2_with fail
   go_region_held3 (fun w' => w'.cell? ⟨w.heap.size,0,none⟩ = some (.bool false) ∧ w'.cell? ⟨w.heap.size,1,none⟩ = some (.slice a1 n1 c1) ∧ w'.cell? ⟨w.heap.size,2,none⟩ = some (.slice b1 m1 d1)) (first | go_keep | (exact ⟨k0,k1,k2⟩) | (exact ⟨j0,j1,j2⟩))
    (first
     | (go_at_call_of 118 (Value.slice a1 n1 c1); refine (Uh HC1 _ (Below.refl _ _).drew).mono ?_; rintro _ wk ⟨aq,cq,rfl,oq,bl_k⟩; have hb_k:Below wo.heap.size wo wk:=(Below.refl _ _).drew.trans bl_k; have k0:=(ck hb_k p0); have k1:=(ck hb_k p1); have k2:=(ck hb_k p2); have SQ:=Hd oq; clear oq; have HB_k:=Hd hb_k; clear hb_k bl_k)
     | (go_at_call_of 118 (Value.slice b1 m1 d1); refine (Uh HC2 _ (Uh HB_k)).mono ?_; rintro _ wj ⟨ar,cr,rfl,orr,bl_j⟩; have hb_j:Below wo.heap.size wo wj:=(Uh HB_k).trans (bl_j.mono (Uh HB_k).size); have j0:=(ck bl_j k0); have j1:=(ck bl_j k1); have j2:=(ck bl_j k2); have hO3:=(Uh HO).keep hb_j; obtain ⟨x0,q0⟩:=hO3.cells 0 (by decide); obtain ⟨x1,q1⟩:=hO3.cells 1 (by decide); obtain ⟨x2,q2⟩:=hO3.cells 2 (by decide); have r0:=hO3.fz 0 (by decide); have r1:=hO3.fz 1 (by decide); have r2:=hO3.fz 2 (by decide); have HO3:=Hd hO3; have SR:=Hd (And.intro ((Uh SQ).sl.below bl_j) (And.intro (show NewAt (wa.heap.size + 1) aq from fun x hx => Nat.le_trans (Uh HO).lt (Nat.le_trans (Below.refl wo.heap.size wo).drew.size ((Uh SQ).new x hx))) (And.intro orr.sl (show NewAt (wa.heap.size + 1) ar from fun x hx => Nat.le_trans (Uh HO).lt (Nat.le_trans (Uh HB_k).size (orr.new x hx)))))); clear orr hO3; have HB_j:=Hd hb_j; clear hb_j bl_j))
   have H4:=Hd (three_set wj wa.heap.size (.bool true) (.slice aq n1 cq) (.slice ar m1 cr) (Uh HO3).cells)
   have HB3:=Hd ((Uh HBo).trans ((Uh HB_j).mono (Uh HBo).size))
   clear q0 q1 q2 r0 r1 r2
   try go_wp2_with fail
   obtain ⟨t0,t1,t2,c4⟩:=Uh H4
   generalize ((wj.setCell ⟨wa.heap.size,0,none⟩ (.bool true)).setCell ⟨wa.heap.size,1,none⟩ (.slice aq n1 cq)).setCell ⟨wa.heap.size,2,none⟩ (.slice ar m1 cr) = wf at *
   refine bodyPost_ret (by simp [results,Tryz.results136,go_sem,t0,t1,t2]; try rfl) rfl ?_
   obtain ⟨sN,nN,sD,nD⟩:=Uh SR
   exact ⟨_,rfl,newR_of (Uh HRw) (Uh HO3).lt (Uh HB3) sN nN sD nD c4 true⟩
  ·have t0:¬ (0:Int) < (n1:Int):=by omega
   have hS:SG = false:=by rw [← hSG]; simp; exact List.eq_nil_of_length_eq_zero (by omega)
   subst hS
   clear hSG
   go_enter Tryz.func136,Tryz.ntmps136
   go_wp2_with fail
   go_region_held3 (fun w' => w'.cell? ⟨w.heap.size,0,none⟩ = some (.bool false) ∧ w'.cell? ⟨w.heap.size,1,none⟩ = some (.slice a1 n1 c1) ∧ w'.cell? ⟨w.heap.size,2,none⟩ = some (.slice b1 m1 d1)) (first | go_keep | (exact ⟨k0,k1,k2⟩) | (exact ⟨j0,j1,j2⟩))
    (first
     | (go_at_call_of 118 (Value.slice a1 n1 c1); refine (Uh HC1 _ (Below.refl _ _).drew).mono ?_; rintro _ wk ⟨aq,cq,rfl,oq,bl_k⟩; have hb_k:Below wo.heap.size wo wk:=(Below.refl _ _).drew.trans bl_k; have k0:=(ck hb_k p0); have k1:=(ck hb_k p1); have k2:=(ck hb_k p2); have SQ:=Hd oq; clear oq; have HB_k:=Hd hb_k; clear hb_k bl_k)
     | (go_at_call_of 118 (Value.slice b1 m1 d1); refine (Uh HC2 _ (Uh HB_k)).mono ?_; rintro _ wj ⟨ar,cr,rfl,orr,bl_j⟩; have hb_j:Below wo.heap.size wo wj:=(Uh HB_k).trans (bl_j.mono (Uh HB_k).size); have j0:=(ck bl_j k0); have j1:=(ck bl_j k1); have j2:=(ck bl_j k2); have hO3:=(Uh HO).keep hb_j; obtain ⟨x0,q0⟩:=hO3.cells 0 (by decide); obtain ⟨x1,q1⟩:=hO3.cells 1 (by decide); obtain ⟨x2,q2⟩:=hO3.cells 2 (by decide); have r0:=hO3.fz 0 (by decide); have r1:=hO3.fz 1 (by decide); have r2:=hO3.fz 2 (by decide); have HO3:=Hd hO3; have SR:=Hd (And.intro ((Uh SQ).sl.below bl_j) (And.intro (show NewAt (wa.heap.size + 1) aq from fun x hx => Nat.le_trans (Uh HO).lt (Nat.le_trans (Below.refl wo.heap.size wo).drew.size ((Uh SQ).new x hx))) (And.intro orr.sl (show NewAt (wa.heap.size + 1) ar from fun x hx => Nat.le_trans (Uh HO).lt (Nat.le_trans (Uh HB_k).size (orr.new x hx)))))); clear orr hO3; have HB_j:=Hd hb_j; clear hb_j bl_j))
   have H4:=Hd (three_set wj wa.heap.size (.bool false) (.slice aq n1 cq) (.slice ar m1 cr) (Uh HO3).cells)
   have HB3:=Hd ((Uh HBo).trans ((Uh HB_j).mono (Uh HBo).size))
   clear q0 q1 q2 r0 r1 r2
   try go_wp2_with fail
   obtain ⟨t0,t1,t2,c4⟩:=Uh H4
   generalize ((wj.setCell ⟨wa.heap.size,0,none⟩ (.bool false)).setCell ⟨wa.heap.size,1,none⟩ (.slice aq n1 cq)).setCell ⟨wa.heap.size,2,none⟩ (.slice ar m1 cr) = wf at *
   refine bodyPost_ret (by simp [results,Tryz.results136,go_sem,t0,t1,t2]; try rfl) rfl ?_
   obtain ⟨sN,nN,sD,nD⟩:=Uh SR
   exact ⟨_,rfl,newR_of (Uh HRw) (Uh HO3).lt (Uh HB3) sN nN sD nD c4 false⟩
 ·have hS:SG = false:=by rw [← hSG]; rfl
  subst hS
  clear hSG
  go_enter Tryz.func136,Tryz.ntmps136
  go_wp2_with fail
  refine wp_region_held_drew (S:=fun w' => w'.cell? ⟨w.heap.size,0,none⟩ = some (.bool true) ∧ w'.cell? ⟨w.heap.size,1,none⟩ = some (.slice a1 n1 c1) ∧ w'.cell? ⟨w.heap.size,2,none⟩ = some (.slice b1 m1 d1)) (by kernel_rfl) (by simp [p0,p1,p2]) (fun hHeld => ?_)
  refine wpAnyH_take (i := 0) (oi := { dst := some 3, op := Op.fieldAddr 25 (Operand.tmp 1) 0, type := 0, pos := "rational.go:150", after := #[], guard := none }) (v := ?v0) rfl (by kernel_rfl) (by kernel_rfl) (by kernel_rfl) (fun _ _ _ h => h) (Or.inl ⟨by rfl, ?y0⟩) (by assumption) ?r0
  case y0 =>
   intro W hSw
   try dsimp only at hSw
   go_simp
   try with_reducible rfl
  try simp only [Act.put,List.setIfInBounds_toArray,List.set_cons_zero,List.set_cons_succ]
  refine wpAnyH_take (i := 1) (oi := { dst := some 4, op := Op.load 4 (Operand.tmp 3), type := 4, pos := "rational.go:150", after := #[{ on := 0, ground := Ground.data }], guard := none }) (v := ?v1) rfl (by kernel_rfl) (by kernel_rfl) (by kernel_rfl) (fun _ _ _ h => h) (Or.inl ⟨by rfl, ?y1⟩) (by assumption) ?r1
  case y1 =>
   intro W hSw
   try dsimp only at hSw
   go_simp
   try with_reducible rfl
  try simp only [Act.put,List.setIfInBounds_toArray,List.set_cons_zero,List.set_cons_succ]
  refine wpAnyH_take (i := 2) (oi := { dst := some 5, op := Op.unOp UnOp.not 4 (Operand.tmp 4), type := 4, pos := "rational.go:150", after := #[{ on := 1, ground := Ground.data }], guard := none }) (v := ?v2) rfl (by kernel_rfl) (by kernel_rfl) (by kernel_rfl) (fun _ _ _ h => h) (Or.inl ⟨by rfl, ?y2⟩) (by assumption) ?r2
  case y2 =>
   intro W hSw
   try dsimp only at hSw
   go_simp
   try with_reducible rfl
  try simp only [Act.put,List.setIfInBounds_toArray,List.set_cons_zero,List.set_cons_succ]
  refine wpAnyH_take (i := 3) (oi := { dst := some 6, op := Op.move (Operand.tmp 5), type := 4, pos := "rational.go:150", after := #[{ on := 2, ground := Ground.data }], guard := none }) (v := ?v3) rfl (by kernel_rfl) (by kernel_rfl) (by kernel_rfl) (fun _ _ _ h => h) (Or.inl ⟨by rfl, ?y3⟩) (by assumption) ?r3
  case y3 =>
   intro W hSw
   try dsimp only at hSw
   go_simp
   try with_reducible rfl
  try simp only [Act.put,List.setIfInBounds_toArray,List.set_cons_zero,List.set_cons_succ]
  refine wpAnyH_take (i := 4) (oi := { dst := some 7, op := Op.fieldAddr 25 (Operand.tmp 1) 1, type := 0, pos := "rational.go:150", after := #[{ on := 3, ground := Ground.guard }], guard := some (3, true) }) (v := _) rfl (by kernel_rfl) (by kernel_rfl) (by kernel_rfl) (fun _ _ _ h => h) (Or.inr ⟨by rfl, rfl⟩) (by assumption) ?r4
  try simp only [Act.put,List.setIfInBounds_toArray,List.set_cons_zero,List.set_cons_succ]
  refine wpAnyH_take (i := 5) (oi := { dst := some 8, op := Op.load 23 (Operand.tmp 7), type := 23, pos := "rational.go:150", after := #[{ on := 4, ground := Ground.data }, { on := 3, ground := Ground.guard }], guard := some (3, true) }) (v := _) rfl (by kernel_rfl) (by kernel_rfl) (by kernel_rfl) (fun _ _ _ h => h) (Or.inr ⟨by rfl, rfl⟩) (by assumption) ?r5
  try simp only [Act.put,List.setIfInBounds_toArray,List.set_cons_zero,List.set_cons_succ]
  refine wpAnyH_take (i := 6) (oi := { dst := some 9, op := Op.call { callee := Callee.builtin Builtin.len, args := #[Operand.tmp 8], argTypes := #[23] }, type := 3, pos := "rational.go:150", after := #[{ on := 5, ground := Ground.data }, { on := 3, ground := Ground.guard }], guard := some (3, true) }) (v := _) rfl (by kernel_rfl) (by kernel_rfl) (by kernel_rfl) (fun _ _ _ h => h) (Or.inr ⟨by rfl, rfl⟩) (by assumption) ?r6
  try simp only [Act.put,List.setIfInBounds_toArray,List.set_cons_zero,List.set_cons_succ]
  refine wpAnyH_take (i := 7) (oi := { dst := some 10, op := Op.binOp BinOp.gtr 3 (Operand.tmp 9) (Operand.const (Value.int IntKind.i64 0)) 3, type := 4, pos := "rational.go:150", after := #[{ on := 6, ground := Ground.data }, { on := 3, ground := Ground.guard }], guard := some (3, true) }) (v := _) rfl (by kernel_rfl) (by kernel_rfl) (by kernel_rfl) (fun _ _ _ h => h) (Or.inr ⟨by rfl, rfl⟩) (by assumption) ?r7
  try simp only [Act.put,List.setIfInBounds_toArray,List.set_cons_zero,List.set_cons_succ]
  refine wpAnyH_take (i := 8) (oi := { dst := some 11, op := Op.pick (Operand.tmp 6) (Operand.tmp 10) (Operand.const (Value.bool false)), type := 4, pos := "rational.go:150", after := #[{ on := 3, ground := Ground.data }, { on := 7, ground := Ground.data }], guard := none }) (v := ?v8) rfl (by kernel_rfl) (by kernel_rfl) (by kernel_rfl) (fun _ _ _ h => h) (Or.inl ⟨by rfl, ?y8⟩) (by assumption) ?r8
  case y8 =>
   intro W hSw
   try dsimp only at hSw
   go_simp
   try with_reducible rfl
  try simp only [Act.put,List.setIfInBounds_toArray,List.set_cons_zero,List.set_cons_succ]
  refine wpAnyH_take (i := 9) (oi := { dst := some 12, op := Op.fieldAddr 25 (Operand.tmp 1) 1, type := 0, pos := "rational.go:150", after := #[], guard := none }) (v := ?v9) rfl (by kernel_rfl) (by kernel_rfl) (by kernel_rfl) (fun _ _ _ h => h) (Or.inl ⟨by rfl, ?y9⟩) (by assumption) ?r9
  case y9 =>
   intro W hSw
   try dsimp only at hSw
   go_simp
   try with_reducible rfl
  try simp only [Act.put,List.setIfInBounds_toArray,List.set_cons_zero,List.set_cons_succ]
  refine wpAnyH_take (i := 10) (oi := { dst := some 13, op := Op.load 23 (Operand.tmp 12), type := 23, pos := "rational.go:150", after := #[{ on := 9, ground := Ground.data }], guard := none }) (v := ?v10) rfl (by kernel_rfl) (by kernel_rfl) (by kernel_rfl) (fun _ _ _ h => h) (Or.inl ⟨by rfl, ?y10⟩) (by assumption) ?r10
  case y10 =>
   intro W hSw
   try dsimp only at hSw
   go_simp
   try with_reducible rfl
  try simp only [Act.put,List.setIfInBounds_toArray,List.set_cons_zero,List.set_cons_succ]
  refine wpAnyH_take (i := 12) (oi := { dst := some 15, op := Op.fieldAddr 25 (Operand.tmp 1) 2, type := 0, pos := "rational.go:150", after := #[], guard := none }) (v := ?v12) rfl (by kernel_rfl) (by kernel_rfl) (by kernel_rfl) (fun _ _ _ h => h) (Or.inl ⟨by rfl, ?y12⟩) (by assumption) ?r12
  case y12 =>
   intro W hSw
   try dsimp only at hSw
   go_simp
   try with_reducible rfl
  try simp only [Act.put,List.setIfInBounds_toArray,List.set_cons_zero,List.set_cons_succ]
  refine wpAnyH_take (i := 13) (oi := { dst := some 16, op := Op.load 23 (Operand.tmp 15), type := 23, pos := "rational.go:150", after := #[{ on := 12, ground := Ground.data }], guard := none }) (v := ?v13) rfl (by kernel_rfl) (by kernel_rfl) (by kernel_rfl) (fun _ _ _ h => h) (Or.inl ⟨by rfl, ?y13⟩) (by assumption) ?r13
  case y13 =>
   intro W hSw
   try dsimp only at hSw
   go_simp
   try with_reducible rfl
  try simp only [Act.put,List.setIfInBounds_toArray,List.set_cons_zero,List.set_cons_succ]
  refine wpAnyH_ready (rs:=[11]) (by kernel_rfl) (by simp) ?_
  refine AllReadyH.cons (o := { dst := some 14, op := Op.call { callee := Callee.value (Operand.func 118), args := #[Operand.tmp 13], argTypes := #[22] }, type := 22, pos := "rational.go:150", after := #[{ on := 10, ground := Ground.data }, { on := 3, ground := Ground.chain }], guard := none }) rfl (fun K hK => ?_) AllReadyH.nil
  go_simp
  refine (Uh HC1 _ (Below.refl _ _).drew).mono ?_
  rintro _ wk ⟨aq,cq,rfl,oq,bl_k⟩
  have hb_k:Below wo.heap.size wo wk:=(Below.refl _ _).drew.trans bl_k
  have k0:=(ck hb_k p0)
  have k1:=(ck hb_k p1)
  have k2:=(ck hb_k p2)
  have SQ:=Hd oq
  have HB_k:=Hd hb_k
  clear oq hb_k bl_k
  refine hK.out _ _ ⟨k0,k1,k2⟩ (fun hHeld => ?_)
  clear hK K
  try simp only [Act.put,List.setIfInBounds_toArray,List.set_cons_zero,List.set_cons_succ]
  refine wpAnyH_ready (rs:=[14]) (by kernel_rfl) (by simp) ?_
  refine AllReadyH.cons (o := { dst := some 17, op := Op.call { callee := Callee.value (Operand.func 118), args := #[Operand.tmp 16], argTypes := #[22] }, type := 22, pos := "rational.go:150", after := #[{ on := 13, ground := Ground.data }, { on := 11, ground := Ground.chain }], guard := none }) rfl (fun K hK => ?_) AllReadyH.nil
  go_simp
  refine (Uh HC2 _ (Uh HB_k)).mono ?_
  rintro _ wj ⟨ar,cr,rfl,orr,bl_j⟩
  have hb_j:Below wo.heap.size wo wj:=(Uh HB_k).trans (bl_j.mono (Uh HB_k).size)
  have j0:=(ck bl_j k0)
  have j1:=(ck bl_j k1)
  have j2:=(ck bl_j k2)
  have HO3:=Hd ((Uh HO).keep hb_j)
  have SR:=Hd (And.intro ((Uh SQ).sl.below bl_j) (And.intro (show NewAt (wa.heap.size + 1) aq from fun x hx => Nat.le_trans (Uh HO).lt (Nat.le_trans (Below.refl wo.heap.size wo).drew.size ((Uh SQ).new x hx))) (And.intro orr.sl (show NewAt (wa.heap.size + 1) ar from fun x hx => Nat.le_trans (Uh HO).lt (Nat.le_trans (Uh HB_k).size (orr.new x hx))))))
  have HB_j:=Hd hb_j
  clear orr hb_j bl_j
  refine hK.out _ _ ⟨j0,j1,j2⟩ (fun hHeld => ?_)
  clear hK K
  try simp only [Act.put,List.setIfInBounds_toArray,List.set_cons_zero,List.set_cons_succ]
  refine wpAnyH_take (i := 15) (oi := { dst := some 18, op := Op.build 25 #[(0, Operand.tmp 11), (1, Operand.tmp 14), (2, Operand.tmp 17)], type := 25, pos := "rational.go:150", after := #[{ on := 8, ground := Ground.data }, { on := 11, ground := Ground.data }, { on := 14, ground := Ground.data }], guard := none }) (v := ?v15) rfl (by kernel_rfl) (by kernel_rfl) (by kernel_rfl) (fun _ _ _ h => h) (Or.inl ⟨by rfl, ?y15⟩) (by assumption) ?r15
  case y15 =>
   intro W hSw
   try dsimp only at hSw
   go_simp
   try with_reducible rfl
  try simp only [Act.put,List.setIfInBounds_toArray,List.set_cons_zero,List.set_cons_succ]
  have hO3:=Uh HO3
  obtain ⟨x0,q0⟩:=hO3.cells 0 (by decide)
  obtain ⟨x1,q1⟩:=hO3.cells 1 (by decide)
  obtain ⟨x2,q2⟩:=hO3.cells 2 (by decide)
  have r0:=hO3.fz 0 (by decide)
  have r1:=hO3.fz 1 (by decide)
  have r2:=hO3.fz 2 (by decide)
  clear hO3
  refine wpAnyH_ready (rs:=[16]) (by kernel_rfl) (by simp) ?_
  refine AllReadyH.cons rfl (fun K hK => ?_) AllReadyH.nil
  go_simp
  refine hK.out _ _ (by go_keep) (fun hHeld => ?_)
  clear hK K hHeld
  refine wpAnyH_done (by kernel_rfl) ?_ _
  have H4:=Hd (three_set wj wa.heap.size (.bool false) (.slice aq n1 cq) (.slice ar m1 cr) (Uh HO3).cells)
  have HB3:=Hd ((Uh HBo).trans ((Uh HB_j).mono (Uh HBo).size))
  clear q0 q1 q2 r0 r1 r2
  try go_wp2_with fail
  obtain ⟨t0,t1,t2,c4⟩:=Uh H4
  generalize ((wj.setCell ⟨wa.heap.size,0,none⟩ (.bool false)).setCell ⟨wa.heap.size,1,none⟩ (.slice aq n1 cq)).setCell ⟨wa.heap.size,2,none⟩ (.slice ar m1 cr) = wf at *
  refine bodyPost_ret (by simp [results,Tryz.results136,go_sem,t0,t1,t2]; try rfl) rfl ?_
  obtain ⟨sN,nN,sD,nD⟩:=Uh SR
  exact ⟨_,rfl,newR_of (Uh HRw) (Uh HO3).lt (Uh HB3) sN nN sD nD c4 false⟩
def CeilF (g:Bool) (x y:List Nat):(Bool × List Nat × List Nat) × Int:=if MayR g x y then ((((!((!g) && decide (flQ (!g) (val x) (val y) ≠ 0))) && decide (flQ (!g) (val x) (val y) ≠ 0)),limbs (flQ (!g) (val x) (val y)),[1]),0) else ((false,[],[]),40)

set_option maxHeartbeats 8000000 in
set_option maxRecDepth 100000 in
theorem ratCeil_any (g:Bool) (a b:Option Addr) (n c m d:Nat) (x y:List Nat) (w:World) (hx:Sl w a n c x) (hy:Sl w b m d y) (ox:Ok x) (oy:Ok y) (hT:Tab64 w) :
  Calls Tryz.prog 16 #[ratV g a n c b m d] w fun e w' => ResR w w' (CeilF g x y).1.1 (CeilF g x y).1.2.1 (CeilF g x y).1.2.2 (CeilF g x y).2 e:=by
 have bx:=Box.made w g a n c b m d
 obtain ⟨wa,hwa⟩:∃ wa,ratBox w g a n c b m d = wa:=⟨_,rfl⟩
 rw [hwa] at bx
 obtain ⟨wb,hwb⟩:∃ wb,wa.alloc (.cells #[.bool false,.slice none 0 0,.slice none 0 0] 25) = wb:=⟨_,rfl⟩
 have hba:Below w.heap.size w wa:=by rw [← hwa]; exact bAl
 have hbb:Below wa.heap.size wa wb:=by rw [← hwb]; exact bAl
 have hO:Out wb wa.heap.size:=by rw [← hwb]; exact Out.made wa
 have hX:=bx.keep hbb
 have hB:=hba.trans (hbb.mono hba.size)
 have hlt:=bx.lt
 have d0:=hX.d0
 have d1:=hX.d1
 have d2:=hX.d2
 unfold ratBox at hwa
 have KM:=ratMay_any g a b n c m d x y wb (hx.below hB) (hy.below hB) ox oy (hT.below hB)
 have hfz0:wb.frozen? ⟨w.heap.size,0,none⟩ = false:=by rw [← hwb,← hwa]; simp
 have hfz1:∀ (W:World),Below wb.heap.size wb W → W.frozen? ⟨w.heap.size,0,none⟩ = false:=fun W hb => by
  rw [← hfz0]
  unfold World.frozen?
  simp only
  rw [hb.block _ hX.lt]
 have HF0:=Hd (And.intro True.intro hfz1)
 clear hfz0 hfz1
 have HX:=Hd (And.intro hX (And.intro hO hB))
 have HS:=Hd (And.intro hx hy)
 obtain ⟨RR,hRR⟩:∃ r,CeilF g x y = r:=⟨_,rfl⟩
 rw [hRR]
 have HRR:=Hd hRR
 clear bx hX hO hB hba hbb hx hy hT hRR
 cases hm:MayR g x y
 ·rw [hm] at KM
  have HKM:=Hd KM
  have HR:=Hd (show RR = ((false,[],[]),40) from by rw [← Uh HRR]; unfold CeilF; rw [hm]; rfl)
  unfold ratV at HKM ⊢
  clear KM hm HRR
  go_enter Tryz.func16,Tryz.ntmps16
  go_wp2_with fail
  refine (Uh HKM).mono ?_
  rintro _ w1 ⟨rfl,b1⟩
  have hO1:=(Uh HX).2.1.keep b1
  obtain ⟨x0,q0⟩:=hO1.cells 0 (by decide)
  obtain ⟨x1,q1⟩:=hO1.cells 1 (by decide)
  obtain ⟨x2,q2⟩:=hO1.cells 2 (by decide)
  have r0:=hO1.fz 0 (by decide)
  have r1:=hO1.fz 1 (by decide)
  have r2:=hO1.fz 2 (by decide)
  have H4:=Hd (three_set w1 wa.heap.size (.bool false) (.slice none 0 0) (.slice none 0 0) hO1.cells)
  have HB:=Hd ((Uh HX).2.2.trans (b1.mono (Uh HX).2.2.size))
  clear hO1 b1 HKM
  go_wp2_with fail
  obtain ⟨p0,p1,p2,c4⟩:=Uh H4
  generalize ((w1.setCell ⟨wa.heap.size,0,none⟩ (.bool false)).setCell ⟨wa.heap.size,1,none⟩ (.slice none 0 0)).setCell ⟨wa.heap.size,2,none⟩ (.slice none 0 0) = wf at *
  refine bodyPost_ret (by simp [results,Tryz.results16,go_sem,p0,p1,p2]; try rfl) rfl ?_
  rw [Uh HR]
  exact ⟨_,rfl,none,0,0,none,0,0,rfl,sl_nil _,sl_nil _,newAt_nil _,newAt_nil _,(Uh HB).trans (c4.below (Uh HB).size (fun k hk => by omega))⟩
 ·rw [hm] at KM
  obtain ⟨kx,ky,ey,_,_⟩:=MayR.parts hm
  have HKM:=Hd KM
  have HM:=Hd (And.intro kx (And.intro ky ey))
  have HR:=Hd (show RR = ((((!((!g) && decide (flQ (!g) (val x) (val y) ≠ 0))) && decide (flQ (!g) (val x) (val y) ≠ 0)),limbs (flQ (!g) (val x) (val y)),[1]),0) from by rw [← Uh HRR]; unfold CeilF; rw [if_pos hm])
  unfold ratV at HKM ⊢
  clear KM hm HRR kx ky ey
  go_enter Tryz.func16,Tryz.ntmps16
  go_wp2_with fail
  refine (Uh HKM).mono ?_
  rintro _ w1 ⟨rfl,b1⟩
  have hB1:=(Uh HX).2.2.trans (b1.mono (Uh HX).2.2.size)
  have hX1:=(Uh HX).1.keep b1
  have hO1:=(Uh HX).2.1.keep b1
  have e0:=hX1.d0
  have e1:=hX1.d1
  have e2:=hX1.d2
  have ef:=(Uh HF0).2 w1 b1
  have hcs:Chg (fun j => j = w.heap.size) w1 (w1.setCell ⟨w.heap.size,0,none⟩ (.bool (!g))):=Chg.of_set _ _ _ _ rfl
  have hBs:=hB1.trans (hcs.below hB1.size (fun k hk h => by omega))
  have hOs:Out (w1.setCell ⟨w.heap.size,0,none⟩ (.bool (!g))) wa.heap.size:=by
   refine ⟨fun i hi => ?_,fun i hi => ?_,Nat.lt_of_lt_of_le hO1.lt hcs.size⟩
   ·obtain ⟨v,hv⟩:=hO1.cells i hi
    exact ⟨v,hcs.cell (show wa.heap.size ≠ w.heap.size by omega) hv⟩
   ·have:=hO1.fz i hi
    simpa using this
  have K:=ratfloor_any (!g) a b n c m d x y _ ((Uh HS).1.below hBs) ((Uh HS).2.below hBs) ox oy (Uh HM).1 (Uh HM).2.1 (Uh HM).2.2
  unfold ratV at K
  have HK:=Hd K
  have HY:=Hd (And.intro hOs hBs)
  clear b1 hB1 hX1 hO1 hcs hBs hOs K HKM HX d0 d1 d2
  go_wp2_with fail
  generalize w1.setCell ⟨w.heap.size,0,none⟩ (.bool (!g)) = ws at *
  refine (Uh HK).mono ?_
  rintro _ w2 ⟨aq,nq,cq,bz,mz,dz,al,ml,cl,rfl,sq,_,_,nQ,_,b2⟩
  unfold ratV
  obtain ⟨S1,hS1⟩:∃ SG,((!g) && decide (flQ (!g) (val x) (val y) ≠ 0)) = SG:=⟨_,rfl⟩
  rw [hS1]
  rw [hS1] at HR
  obtain ⟨w3,hw3⟩:∃ z,w2.alloc (.cells #[.bool S1,.slice aq nq cq,.slice bz mz dz] 25) = z:=⟨_,rfl⟩
  have b3:Below w2.heap.size w2 w3:=by rw [← hw3]; exact bAl
  have u0:w3.cell? ⟨w2.heap.size,0,none⟩ = some (.bool S1):=by rw [← hw3]; simp
  have u1:w3.cell? ⟨w2.heap.size,1,none⟩ = some (.slice aq nq cq):=by rw [← hw3]; simp
  have hln:=sq.len
  have K:=ratWhole_any (!S1) aq nq cq w3
  unfold WhPost at K
  rw [limbs_len0 hln] at K
  obtain ⟨SG,hSG⟩:∃ SG,((!S1) && decide (flQ (!g) (val x) (val y) ≠ 0)) = SG:=⟨_,rfl⟩
  rw [hSG] at K HR
  unfold ratV at K
  have HK3:=Hd K
  have b13:=b2.trans (b3.mono b2.size)
  have H3:=Hd (And.intro (sq.below b3) (And.intro nQ b13))
  clear sq nQ b2 b3 b13 K HK hS1 hSG hln e0 e1 e2 ef
  go_wp2_with fail
  refine (Uh HK3).mono ?_
  rintro _ w4 ⟨bq,mq,dq,rfl,tq,nT0,b4⟩
  have b14:=(Uh H3).2.2.trans (b4.mono (Uh H3).2.2.size)
  have sq:=(Uh H3).1.below b4
  have nQ:=(Uh H3).2.1
  have nT:NewAt ws.heap.size bq:=fun p hp => Nat.le_trans (Uh H3).2.2.size (nT0 p hp)
  have hO3:=(Uh HY).1.keep b14
  have hlo:=(Uh HY).1.lt
  obtain ⟨i0,o0⟩:=hO3.cells 0 (by decide)
  obtain ⟨i1,o1⟩:=hO3.cells 1 (by decide)
  obtain ⟨i2,o2⟩:=hO3.cells 2 (by decide)
  have r0:=hO3.fz 0 (by decide)
  have r1:=hO3.fz 1 (by decide)
  have r2:=hO3.fz 2 (by decide)
  have H4:=Hd (three_set w4 wa.heap.size (.bool SG) (.slice aq nq cq) (.slice bq mq dq) hO3.cells)
  have hsz:=(Uh HY).2.size
  have HZ:=Hd (And.intro sq (And.intro tq (And.intro (fun p hp => by have h1:=nQ p hp; omega:∀ p,aq = some p → p.block ≠ wa.heap.size) (And.intro (fun p hp => by have h1:=nT p hp; omega:∀ p,bq = some p → p.block ≠ wa.heap.size) (And.intro (fun p hp => by have h1:=nQ p hp; omega:NewAt w.heap.size aq) (And.intro (fun p hp => by have h1:=nT p hp; omega:NewAt w.heap.size bq) ((Uh HY).2.trans (b14.mono (Uh HY).2.size))))))))
  clear sq tq nQ nT nT0 b4 b14 hO3 hlo hsz HK3 H3 u0 u1 HY
  go_wp2_with fail
  obtain ⟨t0,t1,t2,c4⟩:=Uh H4
  generalize ((w4.setCell ⟨wa.heap.size,0,none⟩ (.bool SG)).setCell ⟨wa.heap.size,1,none⟩ (.slice aq nq cq)).setCell ⟨wa.heap.size,2,none⟩ (.slice bq mq dq) = wk at *
  refine bodyPost_ret (by simp [results,Tryz.results16,go_sem,t0,t1,t2]; try rfl) rfl ?_
  rw [Uh HR]
  have z:=Uh HZ
  exact ⟨_,rfl,aq,nq,cq,bq,mq,dq,rfl,z.1.chg c4 (fun p hp _ => z.2.2.1 p hp),z.2.1.chg c4 (fun p hp _ => z.2.2.2.1 p hp),z.2.2.2.2.1,z.2.2.2.2.2.1,z.2.2.2.2.2.2.trans (c4.below z.2.2.2.2.2.2.size (fun k hk h => by omega))⟩
end Go.Proofs.YtmmeiebbnjjijaaGreatDoor
