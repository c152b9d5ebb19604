/- Wif -/
import Derived.Test.YtmnlhnmlgncedaaGreatDoorWik
import Derived.Test.YtmnlhnmlgncedaaGreatDoorRa8
namespace Go.Proofs.YtmnlhnmlgncedaaGreatDoor
open Go.RowKit Go.Deep
set_option linter.unusedVariables false
def mulN (x1 y1 x2 y2:List Nat):Nat:=(val x1 / Nat.gcd (val x1) (val y2)) * (val x2 / Nat.gcd (val x2) (val y1))
def mulD (x1 y1 x2 y2:List Nat):Nat:=(val y1 / Nat.gcd (val x2) (val y1)) * (val y2 / Nat.gcd (val x1) (val y2))
def bigN (v:Nat):Bool:=decide (2048 < (limbs v).length)
def MuPost (w w':World) (sg:Bool) (N M:Nat) (e:Ending):Prop:=if bigN N || bigN M then ResR w w' false [] [] 2 e else ResR w w' (sg && decide (N ≠ 0)) (limbs N) (limbs M) 0 e

set_option maxHeartbeats 8000000 in
set_option maxRecDepth 100000 in
theorem ratmultiply_any (g1 g2:Bool) (a1 b1 a2 b2:Option Addr) (n1 c1 m1 d1 n2 c2 m2 d2:Nat) (x1 y1 x2 y2:List Nat) (w:World) (hx1:Sl w a1 n1 c1 x1) (hy1:Sl w b1 m1 d1 y1) (hx2:Sl w a2 n2 c2 x2) (hy2:Sl w b2 m2 d2 y2) (ox1:Ok x1) (oy1:Ok y1) (ox2:Ok x2) (oy2:Ok y2) (kx1:MayL x1 = true) (ky1:MayL y1 = true) (kx2:MayL x2 = true) (ky2:MayL y2 = true) (ey1:y1 ≠ []) (ey2:y2 ≠ []) (hT:Tab64 w) :
  Calls Tryz.prog 56 #[ratV g1 a1 n1 c1 b1 m1 d1,ratV g2 a2 n2 c2 b2 m2 d2] w fun e w' => MuPost w w' (g1 != g2) (mulN x1 y1 x2 y2) (mulD x1 y1 x2 y2) e:=by
 have bx:=Box.made w g1 a1 n1 c1 b1 m1 d1
 obtain ⟨wa,hwa⟩:∃ wa,ratBox w g1 a1 n1 c1 b1 m1 d1 = wa:=⟨_,rfl⟩
 rw [hwa] at bx
 have by_:=Box.made wa g2 a2 n2 c2 b2 m2 d2
 obtain ⟨wb,hwb⟩:∃ wb,ratBox wa g2 a2 n2 c2 b2 m2 d2 = wb:=⟨_,rfl⟩
 rw [hwb] at by_
 obtain ⟨wo,hwo⟩:∃ x,wb.alloc (.cells #[.bool false,.slice none 0 0,.slice none 0 0] 25) = x:=⟨_,rfl⟩
 have hba:Below w.heap.size w wa:=by rw [← hwa]; exact bAl
 have hbb:Below wa.heap.size wa wb:=by rw [← hwb]; exact bAl
 have hbo:Below wb.heap.size wb wo:=by rw [← hwo]; exact bAl
 have hO:Out wo wb.heap.size:=by rw [← hwo]; exact Out.made wb
 have bx2:=(bx.keep hbb).keep hbo
 have by2:=by_.keep hbo
 have hB:=(hba.trans (hbb.mono hba.size)).trans (hbo.mono (Nat.le_trans hba.size hbb.size))
 have Hwb:=Hj (show w.heap.size ≤ wb.heap.size from Nat.le_trans hba.size hbb.size)
 unfold ratBox at hwa hwb
 have p0:=bx2.d0
 have p1:=bx2.d1
 have p2:=bx2.d2
 have p3:=by2.d0
 have p4:=by2.d1
 have p5:=by2.d2
 have vy1:=val_pos_of_may ky1 ey1
 have vy2:=val_pos_of_may ky2 ey2
 have HKD1:=Hj (fun (W:World) (hb:Below wo.heap.size wo W) => ratDivisor_any a1 b2 n1 c1 m2 d2 x1 y2 W ((hx1.below hB).below hb) ((hy2.below hB).below hb) ox1 oy2 kx1 ky2 ((hT.below hB).below hb))
 have HKD2:=Hj (fun (W:World) (hb:Below wo.heap.size wo W) => ratDivisor_any a2 b1 n2 c2 m1 d1 x2 y1 W ((hx2.below hB).below hb) ((hy1.below hB).below hb) ox2 oy1 kx2 ky1 ((hT.below hB).below hb))
 obtain ⟨N,hN⟩:∃ N,mulN x1 y1 x2 y2 = N:=⟨_,rfl⟩
 obtain ⟨M,hM⟩:∃ M,mulD x1 y1 x2 y2 = M:=⟨_,rfl⟩
 rw [hN,hM]
 have HhN:=Hj hN
 have HhM:=Hj hM
 clear hN hM
 unfold ratV
 go_enter Tryz.func56,Tryz.ntmps56
 go_wp2_with fail
 go_region_held3 (fun w' => w'.cell? ⟨w.heap.size,0,none⟩ = some (.bool g1) ∧ w'.cell? ⟨w.heap.size,1,none⟩ = some (.slice a1 n1 c1) ∧ w'.cell? ⟨w.heap.size,2,none⟩ = some (.slice b1 m1 d1) ∧ w'.cell? ⟨wa.heap.size,0,none⟩ = some (.bool g2) ∧ w'.cell? ⟨wa.heap.size,1,none⟩ = some (.slice a2 n2 c2) ∧ w'.cell? ⟨wa.heap.size,2,none⟩ = some (.slice b2 m2 d2)) (first | go_keep | (exact ⟨k0,k1,k2,k3,k4,k5⟩) | (exact ⟨j0,j1,j2,j3,j4,j5⟩))
  (first
   | (go_at_call_of 28 (Value.slice a1 n1 c1); refine (Uh HKD1 _ (Below.refl _ _).drew).mono ?_; rintro _ wc ⟨aC,mC,cC,rfl,sC,nC,bC⟩; have hbc:Below wo.heap.size wo wc:=(Below.refl _ _).drew.trans bC; have k0:=(ck hbc p0); have k1:=(ck hbc p1); have k2:=(ck hbc p2); have k3:=(ck hbc p3); have k4:=(ck hbc p4); have k5:=(ck hbc p5); have HC:=Hj (And.intro sC hbc); clear sC nC bC hbc)
   | (go_at_call_of 28 (Value.slice a2 n2 c2); refine (Uh HKD2 _ (Uh HC).2).mono ?_; rintro _ wd ⟨aD,mD,cD,rfl,sD,nD,bD⟩; have j0:=(ck bD k0); have j1:=(ck bD k1); have j2:=(ck bD k2); have j3:=(ck bD k3); have j4:=(ck bD k4); have j5:=(ck bD k5); have HD:=Hj (And.intro ((Uh HC).1.below bD) (And.intro sD ((Uh HC).2.trans (bD.mono (Uh HC).2.size)))); clear sD nD bD HC))
 have hGC:0 < Nat.gcd (val x1) (val y2):=Nat.gcd_pos_of_pos_right _ vy2
 have hGD:0 < Nat.gcd (val x2) (val y1):=Nat.gcd_pos_of_pos_right _ vy1
 have mC1:MayL (limbs (Nat.gcd (val x1) (val y2))) = true:=may_small ky2 oy2 (Nat.gcd_le_right _ vy2)
 have mD1:MayL (limbs (Nat.gcd (val x2) (val y1))) = true:=may_small ky1 oy1 (Nat.gcd_le_right _ vy1)
 have HN:=Hj (show mulN x1 y1 x2 y2 = (val x1 / Nat.gcd (val x1) (val y2)) * (val x2 / Nat.gcd (val x2) (val y1)) from rfl)
 have HMd:=Hj (show mulD x1 y1 x2 y2 = (val y1 / Nat.gcd (val x2) (val y1)) * (val y2 / Nat.gcd (val x1) (val y2)) from rfl)
 obtain ⟨C,hC⟩:∃ C,Nat.gcd (val x1) (val y2) = C:=⟨_,rfl⟩
 obtain ⟨D,hD⟩:∃ D,Nat.gcd (val x2) (val y1) = D:=⟨_,rfl⟩
 rw [hC] at HD hGC mC1 HN HMd
 rw [hD] at HD hGD mD1 HN HMd
 obtain ⟨sC,sD,hbd⟩:=Uh HD
 have nzC:limbs C ≠ []:=fun h => by have:=(limbs_rep C).val; rw [h] at this; simp [val] at this; omega
 have nzD:limbs D ≠ []:=fun h => by have:=(limbs_rep D).val; rw [h] at this; simp [val] at this; omega
 have HBd:=Hj hbd
 have hBd:=hB.trans (hbd.mono hB.size)
 have HQ1:=Hj (fun (W:World) (hb:Below wd.heap.size wd W) => (by have K:=ratQuotient_any a1 aC n1 c1 mC cC x1 (limbs C) W ((hx1.below hBd).below hb) (sC.below hb) ox1 (limbs_rep C).ok kx1 mC1 nzC; rw [(limbs_rep C).val] at K; exact K:Calls Tryz.prog 80 #[.slice a1 n1 c1,.slice aC mC cC] W fun e w' => OldN W w' a1 n1 c1 (val x1 / C) e))
 have HQ2:=Hj (fun (W:World) (hb:Below wd.heap.size wd W) => (by have K:=ratQuotient_any a2 aD n2 c2 mD cD x2 (limbs D) W ((hx2.below hBd).below hb) (sD.below hb) ox2 (limbs_rep D).ok kx2 mD1 nzD; rw [(limbs_rep D).val] at K; exact K:Calls Tryz.prog 80 #[.slice a2 n2 c2,.slice aD mD cD] W fun e w' => OldN W w' a2 n2 c2 (val x2 / D) e))
 have HQ3:=Hj (fun (W:World) (hb:Below wd.heap.size wd W) => (by have K:=ratQuotient_any b1 aD m1 d1 mD cD y1 (limbs D) W ((hy1.below hBd).below hb) (sD.below hb) oy1 (limbs_rep D).ok ky1 mD1 nzD; rw [(limbs_rep D).val] at K; exact K:Calls Tryz.prog 80 #[.slice b1 m1 d1,.slice aD mD cD] W fun e w' => OldN W w' b1 m1 d1 (val y1 / D) e))
 have HQ4:=Hj (fun (W:World) (hb:Below wd.heap.size wd W) => (by have K:=ratQuotient_any b2 aC m2 d2 mC cC y2 (limbs C) W ((hy2.below hBd).below hb) (sC.below hb) oy2 (limbs_rep C).ok ky2 mC1 nzC; rw [(limbs_rep C).val] at K; exact K:Calls Tryz.prog 80 #[.slice b2 m2 d2,.slice aC mC cC] W fun e w' => OldN W w' b2 m2 d2 (val y2 / C) e))
 have yq1:MayL (limbs (val x1 / C)) = true:=may_div kx1 ox1 _
 have yq2:MayL (limbs (val x2 / D)) = true:=may_div kx2 ox2 _
 have yq3:MayL (limbs (val y1 / D)) = true:=may_div ky1 oy1 _
 have yq4:MayL (limbs (val y2 / C)) = true:=may_div ky2 oy2 _
 have fN:mulL (limbs (val x1 / C)) (limbs (val x2 / D)) = fitL (mulN x1 y1 x2 y2):=by unfold mulL; rw [yq1,yq2,(limbs_rep _).val,(limbs_rep _).val,Uh HN]; rfl
 have fM:mulL (limbs (val y1 / D)) (limbs (val y2 / C)) = fitL (mulD x1 y1 x2 y2):=by unfold mulL; rw [yq3,yq4,(limbs_rep _).val,(limbs_rep _).val,Uh HMd]; rfl
 rw [Uh HhN] at fN
 rw [Uh HhM] at fM
 have HfN:=Hj fN
 have HfM:=Hj fM
 have HO:=Hj (hO.keep hbd)
 have HBw:=Hj hBd
 obtain ⟨Q1,hQ1⟩:∃ Q,val x1 / C = Q:=⟨_,rfl⟩
 obtain ⟨Q2,hQ2⟩:∃ Q,val x2 / D = Q:=⟨_,rfl⟩
 obtain ⟨Q3,hQ3⟩:∃ Q,val y1 / D = Q:=⟨_,rfl⟩
 obtain ⟨Q4,hQ4⟩:∃ Q,val y2 / C = Q:=⟨_,rfl⟩
 rw [hQ1] at HQ1 HfN
 rw [hQ2] at HQ2 HfN
 rw [hQ3] at HQ3 HfM
 rw [hQ4] at HQ4 HfM
 clear hGC hGD mC1 mD1 HN HMd hC hD sC sD hbd nzC nzD hBd yq1 yq2 yq3 yq4 fN fM HhN HhM hQ1 hQ2 hQ3 hQ4 HD HKD1 HKD2 hx1 hy1 hx2 hy2 hT kx1 ky1 kx2 ky2 ey1 ey2 vy1 vy2 ox1 oy1 ox2 oy2 bx bx2 by_ by2 hba hbb hbo hB hO hwa hwb hwo p0 p1 p2 p3 p4 p5 k0 k1 k2 k3 k4 k5
 go_wp2_with fail
 go_region_held3 (fun w' => w'.cell? ⟨w.heap.size,0,none⟩ = some (.bool g1) ∧ w'.cell? ⟨w.heap.size,1,none⟩ = some (.slice a1 n1 c1) ∧ w'.cell? ⟨w.heap.size,2,none⟩ = some (.slice b1 m1 d1) ∧ w'.cell? ⟨wa.heap.size,0,none⟩ = some (.bool g2) ∧ w'.cell? ⟨wa.heap.size,1,none⟩ = some (.slice a2 n2 c2) ∧ w'.cell? ⟨wa.heap.size,2,none⟩ = some (.slice b2 m2 d2)) (first | go_keep | (exact ⟨e0,e1,e2,e3,e4,e5⟩) | (exact ⟨f0,f1,f2,f3,f4,f5⟩) | (exact ⟨q0,q1,q2,q3,q4,q5⟩))
  (first
   | (go_at_call_of 80 (Value.slice a1 n1 c1); refine (Uh HQ1 _ ((Below.refl wd.heap.size wd).drew)).mono ?_; rintro _ we ⟨ae,me,ce,rfl,sE,oE,bE⟩; have hbe:Below wd.heap.size wd we:=(Below.refl _ _).drew.trans bE; have e0:=(ck hbe j0); have e1:=(ck hbe j1); have e2:=(ck hbe j2); have e3:=(ck hbe j3); have e4:=(ck hbe j4); have e5:=(ck hbe j5); have He:=Hj (And.intro sE hbe); clear sE oE bE hbe)
   | (go_at_call_of 80 (Value.slice a2 n2 c2); refine (Uh HQ2 _ ((Below.refl wd.heap.size wd).trans ((Uh He).2.mono (Below.refl wd.heap.size wd).size))).mono ?_; rintro _ wf ⟨af,mf,cf,rfl,sF_,oF,bF⟩; have f0:=(ck bF e0); have f1:=(ck bF e1); have f2:=(ck bF e2); have f3:=(ck bF e3); have f4:=(ck bF e4); have f5:=(ck bF e5); have KM:=nmul_any ae af me ce mf cf (limbs Q1) (limbs Q2) wf ((Uh He).1.below bF) sF_ (limbs_rep _).ok (limbs_rep _).ok; rw [Uh HfN] at KM; have HKMf:=Hj KM; have Hf:=Hj ((Uh He).2.trans (bF.mono (Uh He).2.size)); clear sF_ oF bF KM)
   | (go_at_call 77; refine (Uh HKMf).mono ?_; rintro _ wq ⟨aq,mq,cq,rfl,sN,nN,bN⟩; have q0:=(ck bN f0); have q1:=(ck bN f1); have q2:=(ck bN f2); have q3:=(ck bN f3); have q4:=(ck bN f4); have q5:=(ck bN f5); have Hq:=Hj (And.intro sN (And.intro nN ((Uh Hf).trans (bN.mono (Uh Hf).size)))); have Hsq:=Hj (Uh Hf).size; clear sN nN bN))
 clear j0 j1 j2 j3 j4 j5 e0 e1 e2 e3 e4 e5 f0 f1 f2 f3 f4 f5 He Hf HKMf HQ1 HQ2
 go_wp2_with fail
 go_region_held3 (fun w' => w'.cell? ⟨w.heap.size,0,none⟩ = some (.bool g1) ∧ w'.cell? ⟨w.heap.size,1,none⟩ = some (.slice a1 n1 c1) ∧ w'.cell? ⟨w.heap.size,2,none⟩ = some (.slice b1 m1 d1) ∧ w'.cell? ⟨wa.heap.size,0,none⟩ = some (.bool g2) ∧ w'.cell? ⟨wa.heap.size,1,none⟩ = some (.slice a2 n2 c2) ∧ w'.cell? ⟨wa.heap.size,2,none⟩ = some (.slice b2 m2 d2)) (first | go_keep | (exact ⟨u0,u1,u2,u3,u4,u5⟩) | (exact ⟨v0,v1,v2,v3,v4,v5⟩) | (exact ⟨z0,z1,z2,z3,z4,z5⟩))
  (first
   | (go_at_call_of 80 (Value.slice b1 m1 d1); refine (Uh HQ3 _ ((Uh Hq).2.2.drew)).mono ?_; rintro _ wu ⟨au,mu,cu,rfl,sE,oE,bE⟩; have hbe:Below wq.heap.size wq wu:=(Below.refl _ _).drew.trans bE; have u0:=(ck hbe q0); have u1:=(ck hbe q1); have u2:=(ck hbe q2); have u3:=(ck hbe q3); have u4:=(ck hbe q4); have u5:=(ck hbe q5); have Hu:=Hj (And.intro sE hbe); clear sE oE bE hbe)
   | (go_at_call_of 80 (Value.slice b2 m2 d2); refine (Uh HQ4 _ ((Uh Hq).2.2.trans ((Uh Hu).2.mono (Uh Hq).2.2.size))).mono ?_; rintro _ wv ⟨av,mv,cv,rfl,sF_,oF,bF⟩; have v0:=(ck bF u0); have v1:=(ck bF u1); have v2:=(ck bF u2); have v3:=(ck bF u3); have v4:=(ck bF u4); have v5:=(ck bF u5); have KM:=nmul_any au av mu cu mv cv (limbs Q3) (limbs Q4) wv ((Uh Hu).1.below bF) sF_ (limbs_rep _).ok (limbs_rep _).ok; rw [Uh HfM] at KM; have HKMv:=Hj KM; have Hv:=Hj ((Uh Hu).2.trans (bF.mono (Uh Hu).2.size)); clear sF_ oF bF KM)
   | (go_at_call 77; refine (Uh HKMv).mono ?_; rintro _ wz ⟨az,mz,cz,rfl,sN,nN,bN⟩; have z0:=(ck bN v0); have z1:=(ck bN v1); have z2:=(ck bN v2); have z3:=(ck bN v3); have z4:=(ck bN v4); have z5:=(ck bN v5); have Hz:=Hj (And.intro sN (And.intro nN ((Uh Hv).trans (bN.mono (Uh Hv).size)))); have Hsz:=Hj (Uh Hv).size; clear sN nN bN))
 have hwq:w.heap.size ≤ wf.heap.size:=Nat.le_trans (Uh HBw).size (Uh Hsq)
 have hbz:Below wq.heap.size wq wz:=(Uh Hz).2.2
 have hwz:w.heap.size ≤ wv.heap.size:=Nat.le_trans (Nat.le_trans (Uh HBw).size (Uh Hq).2.2.size) (Uh Hsz)
 have hBz:=(Uh HBw).trans (((Uh Hq).2.2.trans (hbz.mono (Uh Hq).2.2.size)).mono (Uh HBw).size)
 have hO2:=((Uh HO).keep (Uh Hq).2.2).keep hbz
 obtain ⟨oc,hoc⟩:=(Uh HO).cells 0 (by decide)
 have hwb9:wb.heap.size < wd.heap.size:=World.block_lt_of_cell? _ _ hoc
 have HY:=Hj (And.intro (fun x hx => by have h1:=(Uh Hq).2.1 x hx; have h2:=Uh Hsq; omega:∀ x,aq = some x → x.block ≠ wb.heap.size) (fun x hx => by have h1:=(Uh Hz).2.1 x hx; have h2:=Uh Hsz; have h3:=(Uh Hq).2.2.size; omega:∀ x,az = some x → x.block ≠ wb.heap.size))
 have HX:=Hj (And.intro ((Uh Hq).1.below hbz) (And.intro (Uh Hz).1 (And.intro (fun x hx => Nat.le_trans hwq ((Uh Hq).2.1 x hx):NewAt w.heap.size aq) (And.intro (fun x hx => Nat.le_trans hwz ((Uh Hz).2.1 x hx):NewAt w.heap.size az) (And.intro hBz hO2)))))
 clear q0 q1 q2 q3 q4 q5 u0 u1 u2 u3 u4 u5 v0 v1 v2 v3 v4 v5 Hu Hv HKMv HQ3 HQ4 hwq hbz hwz hBz hO2 hoc hwb9 Hq Hz Hsq Hsz HfN HfM HBd HBw HO
 cases hbN:bigN N
 ·have eN:fitL N = (limbs N,0):=fitL_ok (by unfold bigN at hbN; simpa using hbN)
  rw [eN] at HX ⊢
  cases hbM:bigN M
  ·have eM:fitL M = (limbs M,0):=fitL_ok (by unfold bigN at hbM; simpa using hbM)
   rw [eM] at HX ⊢
   dsimp only at HX ⊢
   clear eN eM
   have K:=answer_any (!(g1 == g2)) aq az mq cq mz cz 0 wz
   unfold AnPost at K
   rw [if_pos rfl] at K
   unfold ratV at K
   obtain ⟨SG,hSG⟩:∃ SG,((!(g1 == g2)) && decide (0 < mq)) = SG:=⟨_,rfl⟩
   rw [hSG] at K
   have HSG:=Hj hSG
   clear hSG
   have HK:=Hj K
   have HbN:=Hj hbN
   have HbM:=Hj hbM
   clear K hbN hbM
   go_wp2_with fail
   refine (Uh HK).mono ?_
   rintro _ wy ⟨rfl,hby⟩
   have hO3:=(Uh HX).2.2.2.2.2.keep hby
   obtain ⟨i0,o0⟩:=hO3.cells 0 (by decide)
   obtain ⟨i1,o1⟩:=hO3.cells 1 (by decide)
   obtain ⟨i2,o2⟩:=hO3.cells 2 (by decide)
   have r0:=hO3.fz 0 (by decide)
   have r1:=hO3.fz 1 (by decide)
   have r2:=hO3.fz 2 (by decide)
   have H4:=Hj (three_set wy wb.heap.size (.bool SG) (.slice aq mq cq) (.slice az mz cz) hO3.cells)
   have HBy:=Hj hby
   clear hO3 hby HK
   go_wp2_with fail
   obtain ⟨t0,t1,t2,c4⟩:=Uh H4
   generalize ((wy.setCell ⟨wb.heap.size,0,none⟩ (.bool SG)).setCell ⟨wb.heap.size,1,none⟩ (.slice aq mq cq)).setCell ⟨wb.heap.size,2,none⟩ (.slice az mz cz) = wk at *
   refine bodyPost_ret (by simp [results,Tryz.results56,go_sem,t0,t1,t2]; try rfl) rfl ?_
   unfold MuPost
   rw [Uh HbN,Uh HbM]
   have hBy:Below w.heap.size w wy:=(Uh HX).2.2.2.2.1.trans ((Uh HBy).mono (Uh HX).2.2.2.2.1.size)
   have hBk:Below w.heap.size w wk:=hBy.trans (c4.below hBy.size (fun k hk => by have:=Uh Hwb; omega))
   refine ⟨_,rfl,aq,mq,cq,az,mz,cz,?_,((Uh HX).1.below (Uh HBy)).chg c4 (fun x hx _ h => (Uh HY).1 x hx h),((Uh HX).2.1.below (Uh HBy)).chg c4 (fun x hx _ h => (Uh HY).2 x hx h),(Uh HX).2.2.1,(Uh HX).2.2.2.1,hBk⟩
   rw [← Uh HSG]
   show ratV _ aq mq cq az mz cz = ratV _ aq mq cq az mz cz
   refine ratV_congr ?_
   have hl:=(Uh HX).1.len
   have e:decide (0 < mq) = decide (N ≠ 0):=by
    rw [Bool.eq_iff_iff]
    simp only [decide_eq_true_eq]
    rw [← hl]
    constructor
    ·intro h h0
     rw [h0] at h
     exact absurd h (by decide)
    ·intro h
     rcases Nat.eq_zero_or_pos (limbs N).length with k | k
     ·exfalso
      have:=(limbs_rep N).val
      rw [List.length_eq_zero_iff.1 k] at this
      exact h this.symm
     ·exact k
   rw [e]
   rfl
  ·have eM:fitL M = ([],2):=fitL_big (by unfold bigN at hbM; simpa using hbM)
   rw [eM] at HX ⊢
   dsimp only at HX ⊢
   clear eN eM
   have K:=answer_any (!(g1 == g2)) aq az mq cq mz cz 2 wz
   unfold AnPost at K
   rw [if_neg (by decide)] at K
   unfold ratV at K
   have HK:=Hj K
   have HbN:=Hj hbN
   have HbM:=Hj hbM
   clear K hbN hbM
   go_wp2_with fail
   refine (Uh HK).mono ?_
   rintro _ wy ⟨rfl,hby⟩
   have hO3:=(Uh HX).2.2.2.2.2.keep hby
   obtain ⟨i0,o0⟩:=hO3.cells 0 (by decide)
   obtain ⟨i1,o1⟩:=hO3.cells 1 (by decide)
   obtain ⟨i2,o2⟩:=hO3.cells 2 (by decide)
   have r0:=hO3.fz 0 (by decide)
   have r1:=hO3.fz 1 (by decide)
   have r2:=hO3.fz 2 (by decide)
   have H4:=Hj (three_set wy wb.heap.size (.bool false) (.slice none 0 0) (.slice none 0 0) hO3.cells)
   have HBy:=Hj hby
   clear hO3 hby HK
   go_wp2_with fail
   obtain ⟨t0,t1,t2,c4⟩:=Uh H4
   generalize ((wy.setCell ⟨wb.heap.size,0,none⟩ (.bool false)).setCell ⟨wb.heap.size,1,none⟩ (.slice none 0 0)).setCell ⟨wb.heap.size,2,none⟩ (.slice none 0 0) = wk at *
   refine bodyPost_ret (by simp [results,Tryz.results56,go_sem,t0,t1,t2]; try rfl) rfl ?_
   unfold MuPost
   rw [Uh HbN,Uh HbM]
   have hBy:Below w.heap.size w wy:=(Uh HX).2.2.2.2.1.trans ((Uh HBy).mono (Uh HX).2.2.2.2.1.size)
   have hBk:Below w.heap.size w wk:=hBy.trans (c4.below hBy.size (fun k hk => by have:=Uh Hwb; omega))
   exact ⟨_,rfl,none,0,0,none,0,0,rfl,⟨rfl,Nat.le_refl _,Nat.zero_le _,.inl rfl⟩,⟨rfl,Nat.le_refl _,Nat.zero_le _,.inl rfl⟩,(fun x hx => by cases hx),(fun x hx => by cases hx),hBk⟩
 ·have eN:fitL N = ([],2):=fitL_big (by unfold bigN at hbN; simpa using hbN)
  rw [eN] at HX ⊢
  cases hbM:bigN M
  ·have eM:fitL M = (limbs M,0):=fitL_ok (by unfold bigN at hbM; simpa using hbM)
   rw [eM] at HX ⊢
   dsimp only at HX ⊢
   clear eN eM
   have K:=answer_any (!(g1 == g2)) aq az mq cq mz cz 2 wz
   unfold AnPost at K
   rw [if_neg (by decide)] at K
   unfold ratV at K
   have HK:=Hj K
   have HbN:=Hj hbN
   have HbM:=Hj hbM
   clear K hbN hbM
   go_wp2_with fail
   refine (Uh HK).mono ?_
   rintro _ wy ⟨rfl,hby⟩
   have hO3:=(Uh HX).2.2.2.2.2.keep hby
   obtain ⟨i0,o0⟩:=hO3.cells 0 (by decide)
   obtain ⟨i1,o1⟩:=hO3.cells 1 (by decide)
   obtain ⟨i2,o2⟩:=hO3.cells 2 (by decide)
   have r0:=hO3.fz 0 (by decide)
   have r1:=hO3.fz 1 (by decide)
   have r2:=hO3.fz 2 (by decide)
   have H4:=Hj (three_set wy wb.heap.size (.bool false) (.slice none 0 0) (.slice none 0 0) hO3.cells)
   have HBy:=Hj hby
   clear hO3 hby HK
   go_wp2_with fail
   obtain ⟨t0,t1,t2,c4⟩:=Uh H4
   generalize ((wy.setCell ⟨wb.heap.size,0,none⟩ (.bool false)).setCell ⟨wb.heap.size,1,none⟩ (.slice none 0 0)).setCell ⟨wb.heap.size,2,none⟩ (.slice none 0 0) = wk at *
   refine bodyPost_ret (by simp [results,Tryz.results56,go_sem,t0,t1,t2]; try rfl) rfl ?_
   unfold MuPost
   rw [Uh HbN,Uh HbM]
   have hBy:Below w.heap.size w wy:=(Uh HX).2.2.2.2.1.trans ((Uh HBy).mono (Uh HX).2.2.2.2.1.size)
   have hBk:Below w.heap.size w wk:=hBy.trans (c4.below hBy.size (fun k hk => by have:=Uh Hwb; omega))
   exact ⟨_,rfl,none,0,0,none,0,0,rfl,⟨rfl,Nat.le_refl _,Nat.zero_le _,.inl rfl⟩,⟨rfl,Nat.le_refl _,Nat.zero_le _,.inl rfl⟩,(fun x hx => by cases hx),(fun x hx => by cases hx),hBk⟩
  ·have eM:fitL M = ([],2):=fitL_big (by unfold bigN at hbM; simpa using hbM)
   rw [eM] at HX ⊢
   dsimp only at HX ⊢
   clear eN eM
   have K:=answer_any (!(g1 == g2)) aq az mq cq mz cz 2 wz
   unfold AnPost at K
   rw [if_neg (by decide)] at K
   unfold ratV at K
   have HK:=Hj K
   have HbN:=Hj hbN
   have HbM:=Hj hbM
   clear K hbN hbM
   go_wp2_with fail
   refine (Uh HK).mono ?_
   rintro _ wy ⟨rfl,hby⟩
   have hO3:=(Uh HX).2.2.2.2.2.keep hby
   obtain ⟨i0,o0⟩:=hO3.cells 0 (by decide)
   obtain ⟨i1,o1⟩:=hO3.cells 1 (by decide)
   obtain ⟨i2,o2⟩:=hO3.cells 2 (by decide)
   have r0:=hO3.fz 0 (by decide)
   have r1:=hO3.fz 1 (by decide)
   have r2:=hO3.fz 2 (by decide)
   have H4:=Hj (three_set wy wb.heap.size (.bool false) (.slice none 0 0) (.slice none 0 0) hO3.cells)
   have HBy:=Hj hby
   clear hO3 hby HK
   go_wp2_with fail
   obtain ⟨t0,t1,t2,c4⟩:=Uh H4
   generalize ((wy.setCell ⟨wb.heap.size,0,none⟩ (.bool false)).setCell ⟨wb.heap.size,1,none⟩ (.slice none 0 0)).setCell ⟨wb.heap.size,2,none⟩ (.slice none 0 0) = wk at *
   refine bodyPost_ret (by simp [results,Tryz.results56,go_sem,t0,t1,t2]; try rfl) rfl ?_
   unfold MuPost
   rw [Uh HbN,Uh HbM]
   have hBy:Below w.heap.size w wy:=(Uh HX).2.2.2.2.1.trans ((Uh HBy).mono (Uh HX).2.2.2.2.1.size)
   have hBk:Below w.heap.size w wk:=hBy.trans (c4.below hBy.size (fun k hk => by have:=Uh Hwb; omega))
   exact ⟨_,rfl,none,0,0,none,0,0,rfl,⟨rfl,Nat.le_refl _,Nat.zero_le _,.inl rfl⟩,⟨rfl,Nat.le_refl _,Nat.zero_le _,.inl rfl⟩,(fun x hx => by cases hx),(fun x hx => by cases hx),hBk⟩
set_option maxHeartbeats 8000000 in
set_option maxRecDepth 100000 in
theorem pairMul_any (g1 g2:Bool) (a1 b1 a2 b2:Option Addr) (n1 c1 m1 d1 n2 c2 m2 d2:Nat) (x1 y1 x2 y2:List Nat) (w:World) (hx1:Sl w a1 n1 c1 x1) (hy1:Sl w b1 m1 d1 y1) (hx2:Sl w a2 n2 c2 x2) (hy2:Sl w b2 m2 d2 y2) (ox1:Ok x1) (oy1:Ok y1) (ox2:Ok x2) (oy2:Ok y2) (hT:Tab64 w) (ng:Bool) (zs us:List Nat) (er:Int)
  (hF:(MayR g1 x1 y1 && MayR g2 x2 y2) = true → ∀ W,Below w.heap.size w W → Calls Tryz.prog 56 #[ratV g1 a1 n1 c1 b1 m1 d1,ratV g2 a2 n2 c2 b2 m2 d2] W fun e w' => ResR W w' ng zs us er e) (hno:(MayR g1 x1 y1 && MayR g2 x2 y2) = false → ng = false ∧ zs = [] ∧ us = [] ∧ er = 40) :
  Calls Tryz.prog 55 #[ratV g1 a1 n1 c1 b1 m1 d1,ratV g2 a2 n2 c2 b2 m2 d2,.func (.func 56) #[] #[]] w fun e w' => ResR w w' ng zs us er e:=by
 have bx:=Box.made w g1 a1 n1 c1 b1 m1 d1
 obtain ⟨wa,hwa⟩:∃ wa,ratBox w g1 a1 n1 c1 b1 m1 d1 = wa:=⟨_,rfl⟩
 rw [hwa] at bx
 have by_:=Box.made wa g2 a2 n2 c2 b2 m2 d2
 obtain ⟨wb,hwb⟩:∃ wb,ratBox wa g2 a2 n2 c2 b2 m2 d2 = wb:=⟨_,rfl⟩
 rw [hwb] at by_
 obtain ⟨wo,hwo⟩:∃ x,wb.alloc (.cells #[.bool false,.slice none 0 0,.slice none 0 0] 25) = x:=⟨_,rfl⟩
 have hba:Below w.heap.size w wa:=by rw [← hwa]; exact bAl
 have hbb:Below wa.heap.size wa wb:=by rw [← hwb]; exact bAl
 have hbo:Below wb.heap.size wb wo:=by rw [← hwo]; exact bAl
 have hO:Out wo wb.heap.size:=by rw [← hwo]; exact Out.made wb
 have bx2:=(bx.keep hbb).keep hbo
 have by2:=by_.keep hbo
 have hB:=(hba.trans (hbb.mono hba.size)).trans (hbo.mono (Nat.le_trans hba.size hbb.size))
 have Hwb:=Hj (show w.heap.size ≤ wb.heap.size from Nat.le_trans hba.size hbb.size)
 unfold ratBox at hwa hwb
 have p0:=bx2.d0
 have p1:=bx2.d1
 have p2:=bx2.d2
 have p3:=by2.d0
 have p4:=by2.d1
 have p5:=by2.d2
 have HM1:=Hj (fun (W:World) (hb:Below wo.heap.size wo W) => ratMay_any g1 a1 b1 n1 c1 m1 d1 x1 y1 W ((hx1.below hB).below hb) ((hy1.below hB).below hb) ox1 oy1 ((hT.below hB).below hb))
 have HM2:=Hj (fun (W:World) (hb:Below wo.heap.size wo W) => ratMay_any g2 a2 b2 n2 c2 m2 d2 x2 y2 W ((hx2.below hB).below hb) ((hy2.below hB).below hb) ox2 oy2 ((hT.below hB).below hb))
 have HFF:=Hj (fun hm (W:World) (hb:Below wo.heap.size wo W) => hF hm W (hB.trans (hb.mono hB.size)))
 have HBx:=Hj (And.intro bx2 by2)
 have HBB:=Hj hB
 have HO:=Hj hO
 have HNo:=Hj hno
 unfold ratV at HM1 HM2 HFF ⊢
 clear bx bx2 by_ by2 hba hbb hbo hB hO hx1 hy1 hx2 hy2 hT hF hno
 cases k1:MayR g1 x1 y1
 ·obtain ⟨rfl,rfl,rfl,rfl⟩:=Uh HNo (by rw [k1]; rfl)
  have KM:=Hj (Uh HM1 wo (Below.refl _ _))
  rw [k1] at KM
  clear HM1 HM2 HFF k1 HNo
  go_enter Tryz.func55,Tryz.ntmps55
  go_wp2_with fail
  refine (Uh KM).mono ?_
  rintro _ wy ⟨rfl,hby⟩
  clear KM p0 p1 p2 p3 p4 p5
  have hO3:=(Uh HO).keep hby
  obtain ⟨i0,o0⟩:=hO3.cells 0 (by decide)
  obtain ⟨i1,o1⟩:=hO3.cells 1 (by decide)
  obtain ⟨i2,o2⟩:=hO3.cells 2 (by decide)
  have f0:=hO3.fz 0 (by decide)
  have f1:=hO3.fz 1 (by decide)
  have f2:=hO3.fz 2 (by decide)
  have H4:=Hj (three_set wy wb.heap.size (.bool false) (.slice none 0 0) (.slice none 0 0) hO3.cells)
  have HBy:=Hj hby
  clear hO3 hby
  go_wp2_with fail
  obtain ⟨t0,t1,t2,c4⟩:=Uh H4
  generalize ((wy.setCell ⟨wb.heap.size,0,none⟩ (.bool false)).setCell ⟨wb.heap.size,1,none⟩ (.slice none 0 0)).setCell ⟨wb.heap.size,2,none⟩ (.slice none 0 0) = wk at *
  refine bodyPost_ret (by simp [results,Tryz.results55,go_sem,t0,t1,t2]; try rfl) rfl ?_
  have hBy:Below w.heap.size w wy:=(Uh HBB).trans ((Uh HBy).mono (Uh HBB).size)
  have hBk:Below w.heap.size w wk:=hBy.trans (c4.below hBy.size (fun k hk => by have:=Uh Hwb; omega))
  exact ⟨_,rfl,none,0,0,none,0,0,rfl,⟨rfl,Nat.le_refl _,Nat.zero_le _,.inl rfl⟩,⟨rfl,Nat.le_refl _,Nat.zero_le _,.inl rfl⟩,(fun x hx => by cases hx),(fun x hx => by cases hx),hBk⟩
 ·have KM:=Hj (Uh HM1 wo (Below.refl _ _))
  rw [k1] at KM
  cases k2:MayR g2 x2 y2
  ·obtain ⟨rfl,rfl,rfl,rfl⟩:=Uh HNo (by rw [k1,k2]; rfl)
   have HM:=Hj (fun W hb => (by have K:=Uh HM2 W hb; rw [k2] at K; exact K:Calls Tryz.prog 6 #[.agg #[.bool g2,.slice a2 n2 c2,.slice b2 m2 d2]] W fun e w' => e = .returned (.bool false) ∧ Below W.heap.size W w'))
   clear HM1 HM2 HFF k1 k2 HNo
   go_enter Tryz.func55,Tryz.ntmps55
   go_wp2_with fail
   refine (Uh KM).mono ?_
   rintro _ wc ⟨rfl,hbc⟩
   have b2_:=(Uh HBx).2.keep hbc
   have r0:=b2_.d0
   have r1:=b2_.d1
   have r2:=b2_.d2
   have KM2:=Hj (Uh HM wc hbc)
   have HBc:=Hj hbc
   clear hbc KM b2_ HM p0 p1 p2 p3 p4 p5
   go_wp2_with fail
   refine (Uh KM2).mono ?_
   rintro _ wy ⟨rfl,hbd⟩
   have hby:=(Uh HBc).trans (hbd.mono (Uh HBc).size)
   clear KM2 r0 r1 r2 hbd
   have hO3:=(Uh HO).keep hby
   obtain ⟨i0,o0⟩:=hO3.cells 0 (by decide)
   obtain ⟨i1,o1⟩:=hO3.cells 1 (by decide)
   obtain ⟨i2,o2⟩:=hO3.cells 2 (by decide)
   have f0:=hO3.fz 0 (by decide)
   have f1:=hO3.fz 1 (by decide)
   have f2:=hO3.fz 2 (by decide)
   have H4:=Hj (three_set wy wb.heap.size (.bool false) (.slice none 0 0) (.slice none 0 0) hO3.cells)
   have HBy:=Hj hby
   clear hO3 hby
   go_wp2_with fail
   obtain ⟨t0,t1,t2,c4⟩:=Uh H4
   generalize ((wy.setCell ⟨wb.heap.size,0,none⟩ (.bool false)).setCell ⟨wb.heap.size,1,none⟩ (.slice none 0 0)).setCell ⟨wb.heap.size,2,none⟩ (.slice none 0 0) = wk at *
   refine bodyPost_ret (by simp [results,Tryz.results55,go_sem,t0,t1,t2]; try rfl) rfl ?_
   have hBy:Below w.heap.size w wy:=(Uh HBB).trans ((Uh HBy).mono (Uh HBB).size)
   have hBk:Below w.heap.size w wk:=hBy.trans (c4.below hBy.size (fun k hk => by have:=Uh Hwb; omega))
   exact ⟨_,rfl,none,0,0,none,0,0,rfl,⟨rfl,Nat.le_refl _,Nat.zero_le _,.inl rfl⟩,⟨rfl,Nat.le_refl _,Nat.zero_le _,.inl rfl⟩,(fun x hx => by cases hx),(fun x hx => by cases hx),hBk⟩
  ·have HM:=Hj (fun W hb => (by have K:=Uh HM2 W hb; rw [k2] at K; exact K:Calls Tryz.prog 6 #[.agg #[.bool g2,.slice a2 n2 c2,.slice b2 m2 d2]] W fun e w' => e = .returned (.bool true) ∧ Below W.heap.size W w'))
   have HF:=Hj (Uh HFF (by rw [k1,k2]; rfl))
   clear HM1 HM2 HFF k1 k2 HNo
   go_enter Tryz.func55,Tryz.ntmps55
   go_wp2_with fail
   refine (Uh KM).mono ?_
   rintro _ wc ⟨rfl,hbc⟩
   have bb:=And.intro ((Uh HBx).1.keep hbc) ((Uh HBx).2.keep hbc)
   have r0:=bb.2.d0
   have r1:=bb.2.d1
   have r2:=bb.2.d2
   have KM2:=Hj (Uh HM wc hbc)
   have HBc:=Hj hbc
   have HB2:=Hj bb
   clear hbc KM bb HM p0 p1 p2 p3 p4 p5
   go_wp2_with fail
   refine (Uh KM2).mono ?_
   rintro _ wd ⟨rfl,hbd⟩
   have b3:=(Uh HB2).1.keep hbd
   have b4:=(Uh HB2).2.keep hbd
   have u0:=b3.d0
   have u1:=b3.d1
   have u2:=b3.d2
   have v0:=b4.d0
   have v1:=b4.d1
   have v2:=b4.d2
   have hbd2:=(Uh HBc).trans (hbd.mono (Uh HBc).size)
   have KF:=Hj (Uh HF wd hbd2)
   have HD:=Hj hbd2
   clear hbd KM2 b3 b4 HF r0 r1 r2 hbd2
   go_wp2_with fail
   refine (Uh KF).mono ?_
   rintro _ wy ⟨v,rfl,aN,mN,cN,aM,mM,cM,rfl,sN,sM,nN,nM,bY⟩
   have hby:=(Uh HD).trans (bY.mono (Uh HD).size)
   have hlt9:wb.heap.size < wd.heap.size:=Nat.lt_of_lt_of_le (Uh HO).lt (Uh HD).size
   have HX:=Hj (And.intro sN (And.intro sM (And.intro nN nM)))
   clear KF u0 u1 u2 v0 v1 v2 sN sM nN nM bY
   unfold ratV
   have hO3:=(Uh HO).keep hby
   obtain ⟨i0,o0⟩:=hO3.cells 0 (by decide)
   obtain ⟨i1,o1⟩:=hO3.cells 1 (by decide)
   obtain ⟨i2,o2⟩:=hO3.cells 2 (by decide)
   have f0:=hO3.fz 0 (by decide)
   have f1:=hO3.fz 1 (by decide)
   have f2:=hO3.fz 2 (by decide)
   have H4:=Hj (three_set wy wb.heap.size (.bool ng) (.slice aN mN cN) (.slice aM mM cM) hO3.cells)
   have HBy:=Hj hby
   clear hO3 hby
   go_wp2_with fail
   obtain ⟨t0,t1,t2,c4⟩:=Uh H4
   generalize ((wy.setCell ⟨wb.heap.size,0,none⟩ (.bool ng)).setCell ⟨wb.heap.size,1,none⟩ (.slice aN mN cN)).setCell ⟨wb.heap.size,2,none⟩ (.slice aM mM cM) = wk at *
   refine bodyPost_ret (by simp [results,Tryz.results55,go_sem,t0,t1,t2]; try rfl) rfl ?_
   have hBy:Below w.heap.size w wy:=(Uh HBB).trans ((Uh HBy).mono (Uh HBB).size)
   have hBk:Below w.heap.size w wk:=hBy.trans (c4.below hBy.size (fun k hk => by have:=Uh Hwb; omega))
   have hwd:w.heap.size ≤ wd.heap.size:=Nat.le_trans (Uh HBB).size (Uh HD).size
   exact ⟨_,rfl,aN,mN,cN,aM,mM,cM,rfl,(Uh HX).1.chg c4 (fun x hx _ h => by have h1:=(Uh HX).2.2.1 x hx; omega),(Uh HX).2.1.chg c4 (fun x hx _ h => by have h1:=(Uh HX).2.2.2 x hx; omega),(fun x hx => Nat.le_trans hwd ((Uh HX).2.2.1 x hx)),(fun x hx => Nat.le_trans hwd ((Uh HX).2.2.2 x hx)),hBk⟩

def MulF (g1:Bool) (x1 y1:List Nat) (g2:Bool) (x2 y2:List Nat):(Bool × List Nat × List Nat) × Int :=
 if MayR g1 x1 y1 && MayR g2 x2 y2 then (if bigN (mulN x1 y1 x2 y2) || bigN (mulD x1 y1 x2 y2) then ((false,[],[]),2) else (((g1 != g2) && decide (mulN x1 y1 x2 y2 ≠ 0),limbs (mulN x1 y1 x2 y2),limbs (mulD x1 y1 x2 y2)),0)) else ((false,[],[]),40)
theorem pairMul_is (g1 g2:Bool) (a1 b1 a2 b2:Option Addr) (n1 c1 m1 d1 n2 c2 m2 d2:Nat) (x1 y1 x2 y2:List Nat) (w:World) (hx1:Sl w a1 n1 c1 x1) (hy1:Sl w b1 m1 d1 y1) (hx2:Sl w a2 n2 c2 x2) (hy2:Sl w b2 m2 d2 y2) (ox1:Ok x1) (oy1:Ok y1) (ox2:Ok x2) (oy2:Ok y2) (hT:Tab64 w) :
  Calls Tryz.prog 55 #[ratV g1 a1 n1 c1 b1 m1 d1,ratV g2 a2 n2 c2 b2 m2 d2,.func (.func 56) #[] #[]] w fun e w' => ResR w w' (MulF g1 x1 y1 g2 x2 y2).1.1 (MulF g1 x1 y1 g2 x2 y2).1.2.1 (MulF g1 x1 y1 g2 x2 y2).1.2.2 (MulF g1 x1 y1 g2 x2 y2).2 e:=by
 refine pairMul_any g1 g2 a1 b1 a2 b2 n1 c1 m1 d1 n2 c2 m2 d2 x1 y1 x2 y2 w hx1 hy1 hx2 hy2 ox1 oy1 ox2 oy2 hT _ _ _ _ (fun hm W hb => ?_) (fun hm => ?_)
 ·have h12:MayR g1 x1 y1 = true ∧ MayR g2 x2 y2 = true:=by simpa using hm
  obtain ⟨ka1,kb1,e1,_,_⟩:=MayR.parts h12.1
  obtain ⟨ka2,kb2,e2,_,_⟩:=MayR.parts h12.2
  refine (ratmultiply_any g1 g2 a1 b1 a2 b2 n1 c1 m1 d1 n2 c2 m2 d2 x1 y1 x2 y2 W (hx1.below hb) (hy1.below hb) (hx2.below hb) (hy2.below hb) ox1 oy1 ox2 oy2 ka1 kb1 ka2 kb2 e1 e2 (hT.below hb)).mono (fun e w' h => ?_)
  unfold MuPost at h
  unfold MulF
  rw [if_pos hm]
  split at h
  ·rename_i hbig
   rw [if_pos hbig]
   exact h
  ·rename_i hbig
   rw [if_neg hbig]
   exact h
 ·unfold MulF
  rw [hm]
  exact ⟨rfl,rfl,rfl,rfl⟩

set_option maxHeartbeats 8000000 in
set_option maxRecDepth 100000 in
theorem ratMul_any (g1 g2:Bool) (a1 b1 a2 b2:Option Addr) (n1 c1 m1 d1 n2 c2 m2 d2:Nat) (x1 y1 x2 y2:List Nat) (w:World) (hx1:Sl w a1 n1 c1 x1) (hy1:Sl w b1 m1 d1 y1) (hx2:Sl w a2 n2 c2 x2) (hy2:Sl w b2 m2 d2 y2) (ox1:Ok x1) (oy1:Ok y1) (ox2:Ok x2) (oy2:Ok y2) (hT:Tab64 w) :
  Calls Tryz.prog 21 #[ratV g1 a1 n1 c1 b1 m1 d1,ratV g2 a2 n2 c2 b2 m2 d2] w fun e w' => ResR w w' (MulF g1 x1 y1 g2 x2 y2).1.1 (MulF g1 x1 y1 g2 x2 y2).1.2.1 (MulF g1 x1 y1 g2 x2 y2).1.2.2 (MulF g1 x1 y1 g2 x2 y2).2 e:=by
 have bx:=Box.made w g1 a1 n1 c1 b1 m1 d1
 obtain ⟨wa,hwa⟩:∃ wa,ratBox w g1 a1 n1 c1 b1 m1 d1 = wa:=⟨_,rfl⟩
 rw [hwa] at bx
 have by_:=Box.made wa g2 a2 n2 c2 b2 m2 d2
 obtain ⟨wb,hwb⟩:∃ wb,ratBox wa g2 a2 n2 c2 b2 m2 d2 = wb:=⟨_,rfl⟩
 rw [hwb] at by_
 obtain ⟨wo,hwo⟩:∃ x,wb.alloc (.cells #[.bool false,.slice none 0 0,.slice none 0 0] 25) = x:=⟨_,rfl⟩
 have hba:Below w.heap.size w wa:=by rw [← hwa]; exact bAl
 have hbb:Below wa.heap.size wa wb:=by rw [← hwb]; exact bAl
 have hbo:Below wb.heap.size wb wo:=by rw [← hwo]; exact bAl
 have hO:Out wo wb.heap.size:=by rw [← hwo]; exact Out.made wb
 have bx2:=(bx.keep hbb).keep hbo
 have by2:=by_.keep hbo
 have hB:=(hba.trans (hbb.mono hba.size)).trans (hbo.mono (Nat.le_trans hba.size hbb.size))
 have Hwb:=Hj (show w.heap.size ≤ wb.heap.size from Nat.le_trans hba.size hbb.size)
 unfold ratBox at hwa hwb
 have p0:=bx2.d0
 have p1:=bx2.d1
 have p2:=bx2.d2
 have p3:=by2.d0
 have p4:=by2.d1
 have p5:=by2.d2
 have KP:=pairMul_is g1 g2 a1 b1 a2 b2 n1 c1 m1 d1 n2 c2 m2 d2 x1 y1 x2 y2 wo (hx1.below hB) (hy1.below hB) (hx2.below hB) (hy2.below hB) ox1 oy1 ox2 oy2 (hT.below hB)
 obtain ⟨R,hR⟩:∃ R,MulF g1 x1 y1 g2 x2 y2 = R:=⟨_,rfl⟩
 rw [hR] at KP ⊢
 obtain ⟨⟨ng,zs,us⟩,er⟩:=R
 dsimp only at KP ⊢
 unfold ratV at KP ⊢
 have HKP:=Hj KP
 have HBB:=Hj hB
 have HO:=Hj hO
 clear bx bx2 by_ by2 hba hbb hbo hB hO hx1 hy1 hx2 hy2 hT KP hR
 go_enter Tryz.func21,Tryz.ntmps21
 go_wp2_with fail
 refine (Uh HKP).mono ?_
 rintro _ wy ⟨v,rfl,aN,mN,cN,aM,mM,cM,rfl,sN,sM,nN,nM,hby⟩
 have hlt9:wb.heap.size < wo.heap.size:=(Uh HO).lt
 have HX:=Hj (And.intro sN (And.intro sM (And.intro nN nM)))
 clear HKP p0 p1 p2 p3 p4 p5 sN sM nN nM
 unfold ratV
 have hO3:=(Uh HO).keep hby
 obtain ⟨i0,o0⟩:=hO3.cells 0 (by decide)
 obtain ⟨i1,o1⟩:=hO3.cells 1 (by decide)
 obtain ⟨i2,o2⟩:=hO3.cells 2 (by decide)
 have f0:=hO3.fz 0 (by decide)
 have f1:=hO3.fz 1 (by decide)
 have f2:=hO3.fz 2 (by decide)
 have H4:=Hj (three_set wy wb.heap.size (.bool ng) (.slice aN mN cN) (.slice aM mM cM) hO3.cells)
 have HBy:=Hj hby
 clear hO3 hby
 go_wp2_with fail
 obtain ⟨t0,t1,t2,c4⟩:=Uh H4
 generalize ((wy.setCell ⟨wb.heap.size,0,none⟩ (.bool ng)).setCell ⟨wb.heap.size,1,none⟩ (.slice aN mN cN)).setCell ⟨wb.heap.size,2,none⟩ (.slice aM mM cM) = wk at *
 refine bodyPost_ret (by simp [results,Tryz.results21,go_sem,t0,t1,t2]; try rfl) rfl ?_
 have hBy:Below w.heap.size w wy:=(Uh HBB).trans ((Uh HBy).mono (Uh HBB).size)
 have hBk:Below w.heap.size w wk:=hBy.trans (c4.below hBy.size (fun k hk => by have:=Uh Hwb; omega))
 have hwd:w.heap.size ≤ wo.heap.size:=(Uh HBB).size
 exact ⟨_,rfl,aN,mN,cN,aM,mM,cM,rfl,(Uh HX).1.chg c4 (fun x hx _ h => by have h1:=(Uh HX).2.2.1 x hx; omega),(Uh HX).2.1.chg c4 (fun x hx _ h => by have h1:=(Uh HX).2.2.2 x hx; omega),(fun x hx => Nat.le_trans hwd ((Uh HX).2.2.1 x hx)),(fun x hx => Nat.le_trans hwd ((Uh HX).2.2.2 x hx)),hBk⟩
set_option maxHeartbeats 8000000 in
set_option maxRecDepth 100000 in
theorem ratsubtract_any (g1 g2:Bool) (a1 b1 a2 b2:Option Addr) (n1 c1 m1 d1 n2 c2 m2 d2:Nat) (w:World) (ng:Bool) (zs us:List Nat) (er:Int)
  (hF:∀ W,Below w.heap.size w W → Calls Tryz.prog 42 #[ratV g1 a1 n1 c1 b1 m1 d1,ratV (!g2) a2 n2 c2 b2 m2 d2] W fun e w' => ResR W w' ng zs us er e) :
  Calls Tryz.prog 107 #[ratV g1 a1 n1 c1 b1 m1 d1,ratV g2 a2 n2 c2 b2 m2 d2] w fun e w' => ResR w w' ng zs us er e:=by
 have bx:=Box.made w g1 a1 n1 c1 b1 m1 d1
 obtain ⟨wa,hwa⟩:∃ wa,ratBox w g1 a1 n1 c1 b1 m1 d1 = wa:=⟨_,rfl⟩
 rw [hwa] at bx
 have by_:=Box.made wa g2 a2 n2 c2 b2 m2 d2
 obtain ⟨wb,hwb⟩:∃ wb,ratBox wa g2 a2 n2 c2 b2 m2 d2 = wb:=⟨_,rfl⟩
 rw [hwb] at by_
 obtain ⟨wo,hwo⟩:∃ x,wb.alloc (.cells #[.bool false,.slice none 0 0,.slice none 0 0] 25) = x:=⟨_,rfl⟩
 have hba:Below w.heap.size w wa:=by rw [← hwa]; exact bAl
 have hbb:Below wa.heap.size wa wb:=by rw [← hwb]; exact bAl
 have hbo:Below wb.heap.size wb wo:=by rw [← hwo]; exact bAl
 have hO:Out wo wb.heap.size:=by rw [← hwo]; exact Out.made wb
 have bx2:=(bx.keep hbb).keep hbo
 have by2:=by_.keep hbo
 have hB:=(hba.trans (hbb.mono hba.size)).trans (hbo.mono (Nat.le_trans hba.size hbb.size))
 have Hwb:=Hj (show w.heap.size ≤ wb.heap.size from Nat.le_trans hba.size hbb.size)
 unfold ratBox at hwa hwb
 have p0:=bx2.d0
 have p1:=bx2.d1
 have p2:=bx2.d2
 have p3:=by2.d0
 have p4:=by2.d1
 have p5:=by2.d2
 have hoB:wo.frozen? ⟨wa.heap.size,0,none⟩ = false:=by rw [← hwo,← hwb]; simp
 have hcs:Chg (fun j => j = wa.heap.size) wo (wo.setCell ⟨wa.heap.size,0,none⟩ (.bool (!g2))):=Chg.of_set _ _ _ _ rfl
 have hBs:=hB.trans (hcs.below hB.size (fun k hk => by have h1:=hba.size; first | omega | (rw [hk]; exact h1)))
 have hab:wa.heap.size < wb.heap.size:=by_.lt
 have hne:w.heap.size ≠ wa.heap.size:=Nat.ne_of_lt bx.lt
 have hOs:Out (wo.setCell ⟨wa.heap.size,0,none⟩ (.bool (!g2))) wb.heap.size:=by
  refine ⟨fun i hi => ?_,fun i hi => ?_,by simpa using hO.lt⟩
  ·obtain ⟨v,hv⟩:=hO.cells i hi
   exact ⟨v,(World.cell?_setCell_other _ _ _ _ (by first | (simp; done) | (simp; omega))).trans hv⟩
  ·have:=hO.fz i hi
   simpa using this
 have HBB:=Hj hBs
 have HO:=Hj hOs
 have HKP:=Hj (hF _ hBs)
 unfold ratV at HKP ⊢
 clear bx bx2 by_ by2 hba hbb hbo hB hO hF hcs hBs hOs hab
 go_enter Tryz.func107,Tryz.ntmps107
 go_wp2_with fail
 generalize wo.setCell ⟨wa.heap.size,0,none⟩ (.bool (!g2)) = ws at *
 refine (Uh HKP).mono ?_
 rintro _ wy ⟨v,rfl,aN,mN,cN,aM,mM,cM,rfl,sN,sM,nN,nM,hby⟩
 have hlt9:wb.heap.size < ws.heap.size:=(Uh HO).lt
 have HX:=Hj (And.intro sN (And.intro sM (And.intro nN nM)))
 clear HKP p0 p1 p2 p3 p4 p5 sN sM nN nM
 unfold ratV
 have hO3:=(Uh HO).keep hby
 obtain ⟨i0,o0⟩:=hO3.cells 0 (by decide)
 obtain ⟨i1,o1⟩:=hO3.cells 1 (by decide)
 obtain ⟨i2,o2⟩:=hO3.cells 2 (by decide)
 have f0:=hO3.fz 0 (by decide)
 have f1:=hO3.fz 1 (by decide)
 have f2:=hO3.fz 2 (by decide)
 have H4:=Hj (three_set wy wb.heap.size (.bool ng) (.slice aN mN cN) (.slice aM mM cM) hO3.cells)
 have HBy:=Hj hby
 clear hO3 hby
 go_wp2_with fail
 obtain ⟨t0,t1,t2,c4⟩:=Uh H4
 generalize ((wy.setCell ⟨wb.heap.size,0,none⟩ (.bool ng)).setCell ⟨wb.heap.size,1,none⟩ (.slice aN mN cN)).setCell ⟨wb.heap.size,2,none⟩ (.slice aM mM cM) = wk at *
 refine bodyPost_ret (by simp [results,Tryz.results107,go_sem,t0,t1,t2]; try rfl) rfl ?_
 have hBy:Below w.heap.size w wy:=(Uh HBB).trans ((Uh HBy).mono (Uh HBB).size)
 have hBk:Below w.heap.size w wk:=hBy.trans (c4.below hBy.size (fun k hk => by have:=Uh Hwb; omega))
 have hwd:w.heap.size ≤ ws.heap.size:=(Uh HBB).size
 exact ⟨_,rfl,aN,mN,cN,aM,mM,cM,rfl,(Uh HX).1.chg c4 (fun x hx _ h => by have h1:=(Uh HX).2.2.1 x hx; omega),(Uh HX).2.1.chg c4 (fun x hx _ h => by have h1:=(Uh HX).2.2.2 x hx; omega),(fun x hx => Nat.le_trans hwd ((Uh HX).2.2.1 x hx)),(fun x hx => Nat.le_trans hwd ((Uh HX).2.2.2 x hx)),hBk⟩
end Go.Proofs.YtmnlhnmlgncedaaGreatDoor
