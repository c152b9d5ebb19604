/- Wil -/
import Derived.Test.YtmnlhnmlgncedaaGreatDoorWij
import Derived.Test.YtmnlhnmlgncedaaGreatDoorWik
namespace Go.Proofs.YtmnlhnmlgncedaaGreatDoor
open Go.RowKit Go.Deep
set_option linter.unusedVariables false
def adG (y1 y2:List Nat):Nat:=Nat.gcd (val y1) (val y2)
def adS (g1:Bool) (x1 y1:List Nat) (g2:Bool) (x2 y2:List Nat):Nat × Bool:=cmbV g1 (val x1 * (val y2 / adG y1 y2)) g2 (val x2 * (val y1 / adG y1 y2))
def adC (g1:Bool) (x1 y1:List Nat) (g2:Bool) (x2 y2:List Nat):Nat:=Nat.gcd (adS g1 x1 y1 g2 x2 y2).1 (adG y1 y2)
def adN (g1:Bool) (x1 y1:List Nat) (g2:Bool) (x2 y2:List Nat):Nat:=(adS g1 x1 y1 g2 x2 y2).1 / adC g1 x1 y1 g2 x2 y2
def adD (g1:Bool) (x1 y1:List Nat) (g2:Bool) (x2 y2:List Nat):Nat:=(val y1 / adG y1 y2) * (val y2 / adG y1 y2) * (adG y1 y2 / adC g1 x1 y1 g2 x2 y2)
theorem sll_3of {w:World} {g:Nat} {p q r:Pc} (hs:Sl w p.a p.n p.c p.xs) (ok:Ok p.xs) (hs2:Sl w q.a q.n q.c q.xs) (ok2:Ok q.xs) (hs3:Sl w r.a r.n r.c r.xs) (ok3:Ok r.xs) (hc:w.cell? ⟨g,0,none⟩ = some (.slice p.a p.n p.c)) (hc2:w.cell? ⟨g,1,none⟩ = some (.slice q.a q.n q.c)) (hc3:w.cell? ⟨g,2,none⟩ = some (.slice r.a r.n r.c)):SlL w (some ⟨g,0,none⟩) 3 3 [p,q,r]:=by
 refine ⟨rfl,Nat.le_refl _,.inr ⟨g,0,rfl,fun i t ht => ?_⟩,fun t ht => ?_⟩
 ·match i,ht with
  | 0,ht => cases ht; exact hc
  | 1,ht => cases ht; exact hc2
  | 2,ht => cases ht; exact hc3
  | i + 3,ht => simp at ht
 ·simp at ht
  rcases ht with rfl | rfl | rfl
  ·exact ⟨hs,ok⟩
  ·exact ⟨hs2,ok2⟩
  ·exact ⟨hs3,ok3⟩
theorem prod_three {A B E:Nat} {p q r:Pc} (hp:p.xs = limbs A) (hq:q.xs = limbs B) (hr:r.xs = limbs E) (mA:MayL (limbs A) = true) (mB:MayL (limbs B) = true) (mE:MayL (limbs E) = true) (zE:0 < E):prodL [p,q,r] = fitL (A * B * E):=by
 unfold prodL
 rw [if_pos (by simp [mayB,hp,hq,hr,mA,mB,mE])]
 have h1:=MayL.len mA
 simp only [prodF,hp,hq,hr,(limbs_rep _).val,Nat.one_mul]
 rw [if_neg (by omega)]
 by_cases h2:2048 < (limbs (A * B)).length
 ·rw [if_pos h2]
  have h3:(limbs (A * B)).length ≤ (limbs (A * B * E)).length:=limbs_len_monoF (Nat.le_mul_of_pos_right _ zE)
  exact (fitL_big (by omega)).symm
 ·rw [if_neg h2]
  rfl
theorem may_lt {xs:List Nat} (m:MayL xs = true) (ox:Ok xs):val xs < wD * wD:=by
 have h1:=val_lt ox
 have h2:=MayL.len m
 have e:=dL_eq
 have h3:4294967296 ^ xs.length ≤ 4294967296 ^ (dLimbs + dLimbs):=pow_mono (by omega)
 rw [Nat.pow_add,← wD_def] at h3
 omega
theorem wD_two_le:2 ≤ wD:=by
 have e0:dLimbs = 1 + (dLimbs - 1):=by have:=dL_eq; omega
 have e:wD = 4294967296 ^ 1 * 4294967296 ^ (dLimbs - 1):=by rw [← Nat.pow_add,← e0]; exact wD_def
 rw [e]
 have h:=Nat.pow_pos (n:=dLimbs - 1) (show 0 < 4294967296 by decide)
 have h2:4294967296 ^ 1 * 1 ≤ 4294967296 ^ 1 * 4294967296 ^ (dLimbs - 1):=Nat.mul_le_mul_left _ h
 omega
theorem wide_len10 {w:World} {a:Option Addr} {n c v:Nat} {ps:List Pc} (h:Wide w a n c v ps) (hv:v < wD ^ 5):n ≤ 10:=by
 rcases Nat.lt_or_ge 10 n with k | k
 ·have h1:=wide_ge h (by omega)
  have h2:wD ^ 5 ≤ wD ^ (n - 1):=Nat.pow_le_pow_right wD_pos (by omega)
  omega
 ·exact k
theorem cmb_small {g1 g2:Bool} {x1 x2 A B:Nat} (h1:x1 < wD * wD) (hB:B < wD * wD) (h2:x2 < wD * wD) (hA:A < wD * wD):(cmbV g1 (x1 * B) g2 (x2 * A)).1 < wD ^ 5:=by
 have k1:x1 * B ≤ wD * wD * (wD * wD):=Nat.mul_le_mul (Nat.le_of_lt h1) (Nat.le_of_lt hB)
 have k2:x2 * A < wD * wD * (wD * wD):=Nat.mul_lt_mul_of_lt_of_le h2 (Nat.le_of_lt hA) (by omega)
 have e5:wD ^ 5 = wD * (wD * wD * (wD * wD)):=by rw [Nat.pow_succ,Nat.mul_comm]; simp only [Nat.pow_succ,Nat.pow_zero,Nat.one_mul,Nat.mul_assoc]
 have k3:2 * (wD * wD * (wD * wD)) ≤ wD * (wD * wD * (wD * wD)):=Nat.mul_le_mul_right _ wD_two_le
 rw [e5]
 generalize wD * (wD * wD * (wD * wD)) = F at *
 generalize wD * wD * (wD * wD) = E at *
 unfold cmbV
 split
 ·show x1 * B + x2 * A < F
  omega
 ·split
  ·show x2 * A - x1 * B < F
   omega
  ·show x1 * B - x2 * A < F
   omega
def ByAll (w:World):Prop:=∀ W a1 n1 c1 v ps a m c zs,Below w.heap.size w W → Wide W a1 n1 c1 v ps → n1 ≤ 10 → Sl W a m c zs → Ok zs → MayL zs = true → zs ≠ [] → Calls Tryz.prog 95 #[.slice a1 n1 c1,.slice a m c] W fun e w' => ByPost 10 W w' (v / val zs) (v % val zs) e

set_option maxHeartbeats 8000000 in
set_option maxRecDepth 100000 in
theorem ratadd_any (g1 g2:Bool) (a1 b1 a2 b2:Option Addr) (n1 c1 m1 d1 n2 c2 m2 d2:Nat) (x1 y1 x2 y2:List Nat) (w:World) (hx1:Sl w a1 n1 c1 x1) (hy1:Sl w b1 m1 d1 y1) (hx2:Sl w a2 n2 c2 x2) (hy2:Sl w b2 m2 d2 y2) (ox1:Ok x1) (oy1:Ok y1) (ox2:Ok x2) (oy2:Ok y2) (kx1:MayL x1 = true) (ky1:MayL y1 = true) (kx2:MayL x2 = true) (ky2:MayL y2 = true) (ey1:y1 ≠ []) (ey2:y2 ≠ []) (hT:Tab64 w) (hBy:ByAll w) :
  Calls Tryz.prog 42 #[ratV g1 a1 n1 c1 b1 m1 d1,ratV g2 a2 n2 c2 b2 m2 d2] w fun e w' => MuPost w w' (adS g1 x1 y1 g2 x2 y2).2 (adN g1 x1 y1 g2 x2 y2) (adD g1 x1 y1 g2 x2 y2) e:=by
 have bx:=Box.made w g1 a1 n1 c1 b1 m1 d1
 obtain ⟨wa,hwa⟩:∃ wa,ratBox w g1 a1 n1 c1 b1 m1 d1 = wa:=⟨_,rfl⟩
 rw [hwa] at bx
 have by_:=Box.made wa g2 a2 n2 c2 b2 m2 d2
 obtain ⟨wb,hwb⟩:∃ wb,ratBox wa g2 a2 n2 c2 b2 m2 d2 = wb:=⟨_,rfl⟩
 rw [hwb] at by_
 obtain ⟨wo,hwo⟩:∃ x,wb.alloc (.cells #[.bool false,.slice none 0 0,.slice none 0 0] 25) = x:=⟨_,rfl⟩
 have hba:Below w.heap.size w wa:=by rw [← hwa]; exact bAl
 have hbb:Below wa.heap.size wa wb:=by rw [← hwb]; exact bAl
 have hbo:Below wb.heap.size wb wo:=by rw [← hwo]; exact bAl
 have hO:Out wo wb.heap.size:=by rw [← hwo]; exact Out.made wb
 have bx2:=(bx.keep hbb).keep hbo
 have by2:=by_.keep hbo
 have hB:=(hba.trans (hbb.mono hba.size)).trans (hbo.mono (Nat.le_trans hba.size hbb.size))
 have Hwb:=Hj (show w.heap.size ≤ wb.heap.size from Nat.le_trans hba.size hbb.size)
 unfold ratBox at hwa hwb
 have p0:=bx2.d0
 have p1:=bx2.d1
 have p2:=bx2.d2
 have p3:=by2.d0
 have p4:=by2.d1
 have p5:=by2.d2
 have vy1:=val_pos_of_may ky1 ey1
 have vy2:=val_pos_of_may ky2 ey2
 have HKD1:=Hj (fun (W:World) (hb:Below wo.heap.size wo W) => ratDivisor_any b1 b2 m1 d1 m2 d2 y1 y2 W ((hy1.below hB).below hb) ((hy2.below hB).below hb) oy1 oy2 ky1 ky2 ((hT.below hB).below hb))
 obtain ⟨R,hR⟩:∃ R,adS g1 x1 y1 g2 x2 y2 = R:=⟨_,rfl⟩
 obtain ⟨N,hN⟩:∃ N,adN g1 x1 y1 g2 x2 y2 = N:=⟨_,rfl⟩
 obtain ⟨M,hM⟩:∃ M,adD g1 x1 y1 g2 x2 y2 = M:=⟨_,rfl⟩
 rw [hN,hM,hR]
 unfold adN adC at hN
 unfold adD adC at hM
 rw [hR] at hN hM
 unfold adS at hR
 have hGp:0 < adG y1 y2:=Nat.gcd_pos_of_pos_right _ vy2
 have mG1:MayL (limbs (adG y1 y2)) = true:=may_small ky2 oy2 (Nat.gcd_le_right _ vy2)
 unfold adG at hN hM hR hGp mG1
 have hGl:=And.intro (Nat.gcd_le_left (val y2) vy1) (Nat.gcd_le_right (val y1) vy2)
 obtain ⟨G,hG⟩:∃ G,Nat.gcd (val y1) (val y2) = G:=⟨_,rfl⟩
 rw [hG] at HKD1 hN hM hR hGp mG1 hGl
 have HGl:=Hj hGl
 have HhN:=Hj hN
 have HhM:=Hj hM
 have HhR:=Hj hR
 clear hN hM hR hG
 unfold ratV
 go_enter Tryz.func42,Tryz.ntmps42
 go_wp2_with fail
 refine (Uh HKD1 wo (Below.refl _ _)).mono ?_
 rintro _ wc ⟨aC,mC,cC,rfl,sC,nC,bC⟩
 have k0:=(ck bC p0); have k1:=(ck bC p1); have k2:=(ck bC p2); have k3:=(ck bC p3); have k4:=(ck bC p4); have k5:=(ck bC p5)
 have hbc:=bC
 have hBc:=hB.trans (hbc.mono hB.size)
 have nzG:limbs G ≠ []:=limbs_ne hGp
 have HQ1:=Hj (fun (W:World) (hb:Below wc.heap.size wc W) => (by have K:=ratQuotient_any b1 aC m1 d1 mC cC y1 (limbs G) W ((hy1.below hBc).below hb) (sC.below hb) oy1 (limbs_rep G).ok ky1 mG1 nzG; rw [(limbs_rep G).val] at K; exact K:Calls Tryz.prog 80 #[.slice b1 m1 d1,.slice aC mC cC] W fun e w' => OldN W w' b1 m1 d1 (val y1 / G) e))
 have HQ2:=Hj (fun (W:World) (hb:Below wc.heap.size wc W) => (by have K:=ratQuotient_any b2 aC m2 d2 mC cC y2 (limbs G) W ((hy2.below hBc).below hb) (sC.below hb) oy2 (limbs_rep G).ok ky2 mG1 nzG; rw [(limbs_rep G).val] at K; exact K:Calls Tryz.prog 80 #[.slice b2 m2 d2,.slice aC mC cC] W fun e w' => OldN W w' b2 m2 d2 (val y2 / G) e))
 have mA:MayL (limbs (val y1 / G)) = true:=may_div ky1 oy1 _
 have mB:MayL (limbs (val y2 / G)) = true:=may_div ky2 oy2 _
 have zA:0 < val y1 / G:=Nat.div_pos (Uh HGl).1 hGp
 have zB:0 < val y2 / G:=Nat.div_pos (Uh HGl).2 hGp
 obtain ⟨A,hA⟩:∃ A,val y1 / G = A:=⟨_,rfl⟩
 obtain ⟨B,hBq⟩:∃ B,val y2 / G = B:=⟨_,rfl⟩
 rw [hA] at HQ1 mA HhM HhR zA
 rw [hBq] at HQ2 mB HhM HhR zB
 have HP:=Hj (And.intro (hx1.below hBc) (And.intro (hx2.below hBc) (And.intro (hT.below hBc) (And.intro sC (And.intro hBc (hO.keep hbc))))))
 have HBy:=Hj hBy
 clear hGl hx1 hx2 hy1 hy2 hT hBy sC nC bC hbc hBc hB hO HKD1 bx bx2 by_ by2 hba hbb hbo hwa hwb hwo p0 p1 p2 p3 p4 p5 hA hBq HGl
 go_wp2_with fail
 go_region_held3 (fun w' => w'.cell? ⟨w.heap.size,0,none⟩ = some (.bool g1) ∧ w'.cell? ⟨w.heap.size,1,none⟩ = some (.slice a1 n1 c1) ∧ w'.cell? ⟨w.heap.size,2,none⟩ = some (.slice b1 m1 d1) ∧ w'.cell? ⟨wa.heap.size,0,none⟩ = some (.bool g2) ∧ w'.cell? ⟨wa.heap.size,1,none⟩ = some (.slice a2 n2 c2) ∧ w'.cell? ⟨wa.heap.size,2,none⟩ = some (.slice b2 m2 d2)) (first | go_keep | (exact ⟨e0,e1,e2,e3,e4,e5⟩) | (exact ⟨f0,f1,f2,f3,f4,f5⟩))
  (first
   | (go_at_call_of 80 (Value.slice b1 m1 d1); refine (Uh HQ1 _ (Below.refl _ _).drew).mono ?_; rintro _ we ⟨ae,me,ce,rfl,sE,oE,bE⟩; have hbe:Below wc.heap.size wc we:=(Below.refl _ _).drew.trans bE; have e0:=(ck hbe k0); have e1:=(ck hbe k1); have e2:=(ck hbe k2); have e3:=(ck hbe k3); have e4:=(ck hbe k4); have e5:=(ck hbe k5); have He:=Hj (And.intro sE hbe); clear sE oE bE hbe)
   | (go_at_call_of 80 (Value.slice b2 m2 d2); refine (Uh HQ2 _ (Uh He).2).mono ?_; rintro _ wf ⟨af,mf,cf,rfl,sF_,oF,bF⟩; have f0:=(ck bF e0); have f1:=(ck bF e1); have f2:=(ck bF e2); have f3:=(ck bF e3); have f4:=(ck bF e4); have f5:=(ck bF e5); have Hf:=Hj (And.intro ((Uh He).1.below bF) (And.intro sF_ ((Uh He).2.trans (bF.mono (Uh He).2.size)))); clear sF_ oF bF He))
 obtain ⟨pA,pB,pb⟩:=Uh Hf
 have HP2:=Hj (And.intro ((Uh HP).1.below pb) (And.intro ((Uh HP).2.1.below pb) (And.intro ((Uh HP).2.2.1.below pb) (And.intro ((Uh HP).2.2.2.1.below pb) (And.intro ((Uh HP).2.2.2.2.1.trans (pb.mono (Uh HP).2.2.2.2.1.size)) ((Uh HP).2.2.2.2.2.keep pb))))))
 have HAB:=Hj (And.intro pA pB)
 have HX1:=Hj (fun (W:World) (hb:Below wf.heap.size wf W) => (by have K:=product_any a1 af n1 c1 mf cf x1 (limbs B) W ((Uh HP2).1.below hb) ((Uh HAB).2.below hb) ox1 (limbs_rep B).ok kx1 mB; rw [(limbs_rep B).val] at K; exact K:Calls Tryz.prog 86 #[.slice a1 n1 c1,.slice af mf cf] W fun e w' => WdPostN 200 W w' (val x1 * B) e))
 have HX2:=Hj (fun (W:World) (hb:Below wf.heap.size wf W) => (by have K:=product_any a2 ae n2 c2 me ce x2 (limbs A) W ((Uh HP2).2.1.below hb) ((Uh HAB).1.below hb) ox2 (limbs_rep A).ok kx2 mA; rw [(limbs_rep A).val] at K; exact K:Calls Tryz.prog 86 #[.slice a2 n2 c2,.slice ae me ce] W fun e w' => WdPostN 200 W w' (val x2 * A) e))
 clear k0 k1 k2 k3 k4 k5 e0 e1 e2 e3 e4 e5 Hf HP HQ1 HQ2 pA pB pb
 try go_wp2_with fail
 go_region_held3 (fun w' => w'.cell? ⟨w.heap.size,0,none⟩ = some (.bool g1) ∧ w'.cell? ⟨w.heap.size,1,none⟩ = some (.slice a1 n1 c1) ∧ w'.cell? ⟨w.heap.size,2,none⟩ = some (.slice b1 m1 d1) ∧ w'.cell? ⟨wa.heap.size,0,none⟩ = some (.bool g2) ∧ w'.cell? ⟨wa.heap.size,1,none⟩ = some (.slice a2 n2 c2) ∧ w'.cell? ⟨wa.heap.size,2,none⟩ = some (.slice b2 m2 d2)) (first | go_keep | (exact ⟨u0,u1,u2,u3,u4,u5⟩) | (exact ⟨v0,v1,v2,v3,v4,v5⟩) | (exact ⟨z0,z1,z2,z3,z4,z5⟩))
  (first
   | (go_at_call_of 86 (Value.slice a1 n1 c1); refine (Uh HX1 _ (Below.refl _ _).drew).mono ?_; rintro _ wu ⟨au,nu,cu,us,rfl,hWu,hnu,bU⟩; have hbu:Below wf.heap.size wf wu:=(Below.refl _ _).drew.trans bU; have u0:=(ck hbu f0); have u1:=(ck hbu f1); have u2:=(ck hbu f2); have u3:=(ck hbu f3); have u4:=(ck hbu f4); have u5:=(ck hbu f5); have Hu:=Hj (And.intro hWu (And.intro hnu hbu)); clear hWu hnu bU hbu)
   | (go_at_call_of 86 (Value.slice a2 n2 c2); refine (Uh HX2 _ (Uh Hu).2.2).mono ?_; rintro _ wv_ ⟨av,nv,cv,vs,rfl,hWv,hnv,bV⟩; have v0:=(ck bV u0); have v1:=(ck bV u1); have v2:=(ck bV u2); have v3:=(ck bV u3); have v4:=(ck bV u4); have v5:=(ck bV u5); have KC:=combine_any g1 g2 au av nu cu nv cv (val x1 * B) (val x2 * A) us vs wv_ ((Uh Hu).1.below bV) hWv (Nat.le_trans (Uh Hu).2.1 (by decide)) (Nat.le_trans hnv (by decide)); rw [Uh HhR] at KC; have HKC:=Hj KC; have Hv:=Hj ((Uh Hu).2.2.trans (bV.mono (Uh Hu).2.2.size)); clear hWv hnv bV KC Hu)
   | (go_at_call 85; refine (Uh HKC).mono ?_; rintro _ wz ⟨az,nz,cz,zs,rfl,hWz,hnz,bZ⟩; have z0:=(ck bZ v0); have z1:=(ck bZ v1); have z2:=(ck bZ v2); have z3:=(ck bZ v3); have z4:=(ck bZ v4); have z5:=(ck bZ v5); have Hz:=Hj (And.intro hWz (And.intro (True.intro) ((Uh Hv).trans (bZ.mono (Uh Hv).size)))); clear hWz hnz bZ HKC))
 obtain ⟨hWz,_,hbz⟩:=Uh Hz
 have hnz:nz ≤ 10:=wide_len10 hWz (by have h:=cmb_small (g1:=g1) (g2:=g2) (may_lt kx1 ox1) (by have:=may_lt mB (limbs_rep B).ok; rwa [(limbs_rep B).val] at this) (may_lt kx2 ox2) (by have:=may_lt mA (limbs_rep A).ok; rwa [(limbs_rep A).val] at this); rwa [Uh HhR] at h)
 have hBz:=(Uh HP2).2.2.2.2.1.trans (hbz.mono (Uh HP2).2.2.2.2.1.size)
 have KK:=cancel_any 10 az aC nz cz mC cC R.1 zs (limbs G) wz hWz hnz ((Uh HP2).2.2.2.1.below hbz) (limbs_rep G).ok mG1 nzG ((Uh HP2).2.2.1.below hbz) (fun W a m c ys hb hs ok mm ne => Uh HBy W az nz cz R.1 zs a m c ys (hBz.trans (hb.mono hBz.size)) (hWz.below hb) hnz hs ok mm ne)
 rw [(limbs_rep G).val,Uh HhN] at KK
 have hCp:0 < Nat.gcd R.1 G:=Nat.gcd_pos_of_pos_right _ hGp
 have hGC:0 < G / Nat.gcd R.1 G:=Nat.div_pos (Nat.gcd_le_right _ hGp) hCp
 have mGC:MayL (limbs (G / Nat.gcd R.1 G)) = true:=by have:=may_div mG1 (limbs_rep G).ok (Nat.gcd R.1 G); rw [(limbs_rep G).val] at this; exact this
 obtain ⟨E,hE⟩:∃ E,G / Nat.gcd R.1 G = E:=⟨_,rfl⟩
 rw [hE] at KK HhM hGC mGC
 have HKK:=Hj KK
 have HQ:=Hj (And.intro ((Uh HAB).1.below hbz) (And.intro ((Uh HAB).2.below hbz) (And.intro hBz ((Uh HP2).2.2.2.2.2.keep hbz))))
 clear f0 f1 f2 f3 f4 f5 u0 u1 u2 u3 u4 u5 v0 v1 v2 v3 v4 v5 z0 z1 z2 z3 z4 z5 HX1 HX2 Hv Hz hWz hnz hbz hBz KK hCp hE HBy HP2 HAB nzG mG1 hGp ox1 ox2 oy1 oy2 kx1 kx2 ky1 ky2 ey1 ey2 vy1 vy2
 go_wp2_with fail
 refine (Uh HKK).mono ?_
 rintro _ wg ⟨ag,ng,cg,gs,ah,mh,ch,rfl,hWg,hng,sh,hbg⟩
 have HKN:=Hj (narrow_any ag ng cg N gs wg hWg)
 have HR:=Hj (And.intro ((Uh HQ).1.below hbg) (And.intro ((Uh HQ).2.1.below hbg) (And.intro sh (And.intro ((Uh HQ).2.2.1.trans (hbg.mono (Uh HQ).2.2.1.size)) ((Uh HQ).2.2.2.keep hbg)))))
 clear hWg hng sh hbg HKK HQ
 go_wp2_with fail
 refine (Uh HKN).mono ?_
 rintro _ wn ⟨aq,mq,cq,rfl,sn,nn,bn⟩
 obtain ⟨wp_,hwp⟩:∃ x,wn.alloc (.cells #[.slice ae me ce,.slice af mf cf,.slice ah mh ch] 23) = x:=⟨_,rfl⟩
 have hbp:Below wn.heap.size wn wp_:=by rw [← hwp]; exact bAl
 have hp0:wp_.cell? ⟨wn.heap.size,0,none⟩ = some (.slice ae me ce):=by rw [← hwp]; simp
 have hp1:wp_.cell? ⟨wn.heap.size,1,none⟩ = some (.slice af mf cf):=by rw [← hwp]; simp
 have hp2:wp_.cell? ⟨wn.heap.size,2,none⟩ = some (.slice ah mh ch):=by rw [← hwp]; simp
 have hbq:=bn.trans (hbp.mono bn.size)
 have KPr:=nprod_any (some ⟨wn.heap.size,0,none⟩) 3 3 [⟨ae,me,ce,limbs A⟩,⟨af,mf,cf,limbs B⟩,⟨ah,mh,ch,limbs E⟩] wp_ (sll_3of (p:=⟨ae,me,ce,limbs A⟩) (q:=⟨af,mf,cf,limbs B⟩) (r:=⟨ah,mh,ch,limbs E⟩) ((Uh HR).1.below hbq) (limbs_rep _).ok ((Uh HR).2.1.below hbq) (limbs_rep _).ok ((Uh HR).2.2.1.below hbq) (limbs_rep _).ok hp0 hp1 hp2) (by decide)
 rw [prod_three rfl rfl rfl mA mB mGC hGC,Uh HhM] at KPr
 have HPr:=Hj KPr
 have HT:=Hj (And.intro (sn.below hbp) (And.intro nn (And.intro hbq hbp.size)))
 clear sn nn bn hbp hp0 hp1 hp2 hbq KPr HKN
 go_wp2_with fail
 refine (Uh HPr).mono ?_
 rintro _ wt ⟨at_,mt,ct,rfl,st,nt,bt⟩
 have hBp:Below w.heap.size w wp_:=(Uh HR).2.2.2.1.trans ((Uh HT).2.2.1.mono (Uh HR).2.2.2.1.size)
 have hBt:=hBp.trans (bt.mono hBp.size)
 have hO2:=((Uh HR).2.2.2.2.keep (Uh HT).2.2.1).keep bt
 have hlt9:wb.heap.size < wg.heap.size:=(Uh HR).2.2.2.2.lt
 have HY:=Hj (And.intro (fun x hx => by have h1:=(Uh HT).2.1 x hx; omega:∀ x,aq = some x → x.block ≠ wb.heap.size) (fun x hx => by have h1:=nt x hx; have h2:=(Uh HT).2.2.1.size; omega:∀ x,at_ = some x → x.block ≠ wb.heap.size))
 have HX:=Hj (And.intro ((Uh HT).1.below bt) (And.intro st (And.intro (fun x hx => Nat.le_trans (Uh HR).2.2.2.1.size ((Uh HT).2.1 x hx):NewAt w.heap.size aq) (And.intro (fun x hx => Nat.le_trans hBp.size (nt x hx):NewAt w.heap.size at_) (And.intro hBt hO2)))))
 clear st nt bt hBp hBt hO2 hlt9 HT HR HPr hwp mA mB mGC hGC zA zB HhN HhM HhR
 cases hbN:bigN N
 ·have eN:fitL N = (limbs N,0):=fitL_ok (by unfold bigN at hbN; simpa using hbN)
  rw [eN] at HX ⊢
  cases hbM:bigN M
  ·have eM:fitL M = (limbs M,0):=fitL_ok (by unfold bigN at hbM; simpa using hbM)
   rw [eM] at HX ⊢
   dsimp only at HX ⊢
   clear eN eM
   have K:=answer_any R.2 aq at_ mq cq mt ct 0 wt
   unfold AnPost at K
   rw [if_pos rfl] at K
   unfold ratV at K
   obtain ⟨SG,hSG⟩:∃ SG,(R.2 && decide (0 < mq)) = SG:=⟨_,rfl⟩
   rw [hSG] at K
   have HSG:=Hj hSG
   clear hSG
   have HK:=Hj K
   have HbN:=Hj hbN
   have HbM:=Hj hbM
   clear K hbN hbM
   go_wp2_with fail
   refine (Uh HK).mono ?_
   rintro _ wy ⟨rfl,hby⟩
   have hO3:=(Uh HX).2.2.2.2.2.keep hby
   obtain ⟨i0,o0⟩:=hO3.cells 0 (by decide)
   obtain ⟨i1,o1⟩:=hO3.cells 1 (by decide)
   obtain ⟨i2,o2⟩:=hO3.cells 2 (by decide)
   have r0:=hO3.fz 0 (by decide)
   have r1:=hO3.fz 1 (by decide)
   have r2:=hO3.fz 2 (by decide)
   have H4:=Hj (three_set wy wb.heap.size (.bool SG) (.slice aq mq cq) (.slice at_ mt ct) hO3.cells)
   have HBy:=Hj hby
   clear hO3 hby HK
   go_wp2_with fail
   obtain ⟨t0,t1,t2,c4⟩:=Uh H4
   generalize ((wy.setCell ⟨wb.heap.size,0,none⟩ (.bool SG)).setCell ⟨wb.heap.size,1,none⟩ (.slice aq mq cq)).setCell ⟨wb.heap.size,2,none⟩ (.slice at_ mt ct) = wk at *
   refine bodyPost_ret (by simp [results,Tryz.results42,go_sem,t0,t1,t2]; try rfl) rfl ?_
   unfold MuPost
   rw [Uh HbN,Uh HbM]
   have hBy:Below w.heap.size w wy:=(Uh HX).2.2.2.2.1.trans ((Uh HBy).mono (Uh HX).2.2.2.2.1.size)
   have hBk:Below w.heap.size w wk:=hBy.trans (c4.below hBy.size (fun k hk => by have:=Uh Hwb; omega))
   refine ⟨_,rfl,aq,mq,cq,at_,mt,ct,?_,((Uh HX).1.below (Uh HBy)).chg c4 (fun x hx _ h => (Uh HY).1 x hx h),((Uh HX).2.1.below (Uh HBy)).chg c4 (fun x hx _ h => (Uh HY).2 x hx h),(Uh HX).2.2.1,(Uh HX).2.2.2.1,hBk⟩
   rw [← Uh HSG]
   show ratV _ aq mq cq at_ mt ct = ratV _ aq mq cq at_ mt ct
   refine ratV_congr ?_
   have hl:=(Uh HX).1.len
   have e:decide (0 < mq) = decide (N ≠ 0):=by
    rw [Bool.eq_iff_iff]
    simp only [decide_eq_true_eq]
    rw [← hl]
    constructor
    ·intro h h0
     rw [h0] at h
     exact absurd h (by decide)
    ·intro h
     rcases Nat.eq_zero_or_pos (limbs N).length with k | k
     ·exfalso
      have:=(limbs_rep N).val
      rw [List.length_eq_zero_iff.1 k] at this
      exact h this.symm
     ·exact k
   rw [e]
  ·have eM:fitL M = ([],2):=fitL_big (by unfold bigN at hbM; simpa using hbM)
   rw [eM] at HX ⊢
   dsimp only at HX ⊢
   clear eN eM
   have K:=answer_any R.2 aq at_ mq cq mt ct 2 wt
   unfold AnPost at K
   rw [if_neg (by decide)] at K
   unfold ratV at K
   have HK:=Hj K
   have HbN:=Hj hbN
   have HbM:=Hj hbM
   clear K hbN hbM
   go_wp2_with fail
   refine (Uh HK).mono ?_
   rintro _ wy ⟨rfl,hby⟩
   have hO3:=(Uh HX).2.2.2.2.2.keep hby
   obtain ⟨i0,o0⟩:=hO3.cells 0 (by decide)
   obtain ⟨i1,o1⟩:=hO3.cells 1 (by decide)
   obtain ⟨i2,o2⟩:=hO3.cells 2 (by decide)
   have r0:=hO3.fz 0 (by decide)
   have r1:=hO3.fz 1 (by decide)
   have r2:=hO3.fz 2 (by decide)
   have H4:=Hj (three_set wy wb.heap.size (.bool false) (.slice none 0 0) (.slice none 0 0) hO3.cells)
   have HBy:=Hj hby
   clear hO3 hby HK
   go_wp2_with fail
   obtain ⟨t0,t1,t2,c4⟩:=Uh H4
   generalize ((wy.setCell ⟨wb.heap.size,0,none⟩ (.bool false)).setCell ⟨wb.heap.size,1,none⟩ (.slice none 0 0)).setCell ⟨wb.heap.size,2,none⟩ (.slice none 0 0) = wk at *
   refine bodyPost_ret (by simp [results,Tryz.results42,go_sem,t0,t1,t2]; try rfl) rfl ?_
   unfold MuPost
   rw [Uh HbN,Uh HbM]
   have hBy:Below w.heap.size w wy:=(Uh HX).2.2.2.2.1.trans ((Uh HBy).mono (Uh HX).2.2.2.2.1.size)
   have hBk:Below w.heap.size w wk:=hBy.trans (c4.below hBy.size (fun k hk => by have:=Uh Hwb; omega))
   exact ⟨_,rfl,none,0,0,none,0,0,rfl,⟨rfl,Nat.le_refl _,Nat.zero_le _,.inl rfl⟩,⟨rfl,Nat.le_refl _,Nat.zero_le _,.inl rfl⟩,(fun x hx => by cases hx),(fun x hx => by cases hx),hBk⟩
 ·have eN:fitL N = ([],2):=fitL_big (by unfold bigN at hbN; simpa using hbN)
  rw [eN] at HX ⊢
  cases hbM:bigN M
  ·have eM:fitL M = (limbs M,0):=fitL_ok (by unfold bigN at hbM; simpa using hbM)
   rw [eM] at HX ⊢
   dsimp only at HX ⊢
   clear eN eM
   have K:=answer_any R.2 aq at_ mq cq mt ct 2 wt
   unfold AnPost at K
   rw [if_neg (by decide)] at K
   unfold ratV at K
   have HK:=Hj K
   have HbN:=Hj hbN
   have HbM:=Hj hbM
   clear K hbN hbM
   go_wp2_with fail
   refine (Uh HK).mono ?_
   rintro _ wy ⟨rfl,hby⟩
   have hO3:=(Uh HX).2.2.2.2.2.keep hby
   obtain ⟨i0,o0⟩:=hO3.cells 0 (by decide)
   obtain ⟨i1,o1⟩:=hO3.cells 1 (by decide)
   obtain ⟨i2,o2⟩:=hO3.cells 2 (by decide)
   have r0:=hO3.fz 0 (by decide)
   have r1:=hO3.fz 1 (by decide)
   have r2:=hO3.fz 2 (by decide)
   have H4:=Hj (three_set wy wb.heap.size (.bool false) (.slice none 0 0) (.slice none 0 0) hO3.cells)
   have HBy:=Hj hby
   clear hO3 hby HK
   go_wp2_with fail
   obtain ⟨t0,t1,t2,c4⟩:=Uh H4
   generalize ((wy.setCell ⟨wb.heap.size,0,none⟩ (.bool false)).setCell ⟨wb.heap.size,1,none⟩ (.slice none 0 0)).setCell ⟨wb.heap.size,2,none⟩ (.slice none 0 0) = wk at *
   refine bodyPost_ret (by simp [results,Tryz.results42,go_sem,t0,t1,t2]; try rfl) rfl ?_
   unfold MuPost
   rw [Uh HbN,Uh HbM]
   have hBy:Below w.heap.size w wy:=(Uh HX).2.2.2.2.1.trans ((Uh HBy).mono (Uh HX).2.2.2.2.1.size)
   have hBk:Below w.heap.size w wk:=hBy.trans (c4.below hBy.size (fun k hk => by have:=Uh Hwb; omega))
   exact ⟨_,rfl,none,0,0,none,0,0,rfl,⟨rfl,Nat.le_refl _,Nat.zero_le _,.inl rfl⟩,⟨rfl,Nat.le_refl _,Nat.zero_le _,.inl rfl⟩,(fun x hx => by cases hx),(fun x hx => by cases hx),hBk⟩
  ·have eM:fitL M = ([],2):=fitL_big (by unfold bigN at hbM; simpa using hbM)
   rw [eM] at HX ⊢
   dsimp only at HX ⊢
   clear eN eM
   have K:=answer_any R.2 aq at_ mq cq mt ct 2 wt
   unfold AnPost at K
   rw [if_neg (by decide)] at K
   unfold ratV at K
   have HK:=Hj K
   have HbN:=Hj hbN
   have HbM:=Hj hbM
   clear K hbN hbM
   go_wp2_with fail
   refine (Uh HK).mono ?_
   rintro _ wy ⟨rfl,hby⟩
   have hO3:=(Uh HX).2.2.2.2.2.keep hby
   obtain ⟨i0,o0⟩:=hO3.cells 0 (by decide)
   obtain ⟨i1,o1⟩:=hO3.cells 1 (by decide)
   obtain ⟨i2,o2⟩:=hO3.cells 2 (by decide)
   have r0:=hO3.fz 0 (by decide)
   have r1:=hO3.fz 1 (by decide)
   have r2:=hO3.fz 2 (by decide)
   have H4:=Hj (three_set wy wb.heap.size (.bool false) (.slice none 0 0) (.slice none 0 0) hO3.cells)
   have HBy:=Hj hby
   clear hO3 hby HK
   go_wp2_with fail
   obtain ⟨t0,t1,t2,c4⟩:=Uh H4
   generalize ((wy.setCell ⟨wb.heap.size,0,none⟩ (.bool false)).setCell ⟨wb.heap.size,1,none⟩ (.slice none 0 0)).setCell ⟨wb.heap.size,2,none⟩ (.slice none 0 0) = wk at *
   refine bodyPost_ret (by simp [results,Tryz.results42,go_sem,t0,t1,t2]; try rfl) rfl ?_
   unfold MuPost
   rw [Uh HbN,Uh HbM]
   have hBy:Below w.heap.size w wy:=(Uh HX).2.2.2.2.1.trans ((Uh HBy).mono (Uh HX).2.2.2.2.1.size)
   have hBk:Below w.heap.size w wk:=hBy.trans (c4.below hBy.size (fun k hk => by have:=Uh Hwb; omega))
   exact ⟨_,rfl,none,0,0,none,0,0,rfl,⟨rfl,Nat.le_refl _,Nat.zero_le _,.inl rfl⟩,⟨rfl,Nat.le_refl _,Nat.zero_le _,.inl rfl⟩,(fun x hx => by cases hx),(fun x hx => by cases hx),hBk⟩
end Go.Proofs.YtmnlhnmlgncedaaGreatDoor
