/- Wkja -/
import Derived.Test.YtmmeiebbnjjijaaGreatDoorWkj
namespace Go.Proofs.YtmmeiebbnjjijaaGreatDoor
open Go.RowKit Go.Deep
set_option linter.unusedVariables false
set_option maxRecDepth 100000 in
set_option maxHeartbeats 32000000 in
theorem ratDivide_same (g1:Bool) (a1 b1 a2 b2:Option Addr) (n1 c1 m1 d1 n2 c2 m2 d2:Nat) (x1 y1 x2 y2:List Nat) (w:World) (hx1:Sl w a1 n1 c1 x1) (hy1:Sl w b1 m1 d1 y1) (hx2:Sl w a2 n2 c2 x2) (hy2:Sl w b2 m2 d2 y2) (ox1:Ok x1) (oy1:Ok y1) (ox2:Ok x2) (oy2:Ok y2) (hTb:Tab64 w) (k1:MayR g1 x1 y1 = true) (k2:MayR g1 x2 y2 = true) (ex2:x2 ≠ [])  :
  Calls Tryz.prog 21 #[ratV g1 a1 n1 c1 b1 m1 d1,ratV g1 a2 n2 c2 b2 m2 d2] w fun e w' => ResD w w' (DivdG g1 g1 (val x1) (val y1) (val x2) (val y2)) e:=by
 obtain ⟨kx1,ky1,ey1,_,_⟩:=MayR.parts k1
 obtain ⟨kx2,ky2,ey2,_,_⟩:=MayR.parts k2
 have vy1:=val_pos_of_may ky1 ey1
 have vy2:=val_pos_of_may ky2 ey2
 have vx2:=val_pos_of_may kx2 ex2
 have bx:=Box.made w g1 a1 n1 c1 b1 m1 d1
 obtain ⟨wa,hwa⟩:∃ wa,ratBox w g1 a1 n1 c1 b1 m1 d1 = wa:=⟨_,rfl⟩
 rw [hwa] at bx
 have by_:=Box.made wa g1 a2 n2 c2 b2 m2 d2
 obtain ⟨wb,hwb⟩:∃ wb,ratBox wa g1 a2 n2 c2 b2 m2 d2 = wb:=⟨_,rfl⟩
 rw [hwb] at by_
 have hba:Below w.heap.size w wa:=by rw [← hwa]; exact bAl
 have hbb:Below wa.heap.size wa wb:=by rw [← hwb]; exact bAl
 unfold ratBox at hwa hwb
 obtain ⟨wo,hwo⟩:∃ x,wb.alloc (.cells #[.bool false,.slice none 0 0,.slice none 0 0] 25) = x:=⟨_,rfl⟩
 have hbo:Below wb.heap.size wb wo:=by rw [← hwo]; exact bAl
 obtain ⟨wp,hwp⟩:∃ x,wo.alloc (.cells #[.bool false,.slice none 0 0,.slice none 0 0] 25) = x:=⟨_,rfl⟩
 have hbp:Below wo.heap.size wo wp:=by rw [← hwp]; exact bAl
 have hO1:Out wp wb.heap.size:=by have h:Out wo wb.heap.size:=by { rw [← hwo]; exact Out.made wb }; exact h.keep hbp
 have hO2:Out wp wo.heap.size:=by rw [← hwp]; exact Out.made wo
 have bx2:=((bx.keep hbb).keep hbo).keep hbp
 have by2:=(by_.keep hbo).keep hbp
 have hB:=((hba.trans (hbb.mono hba.size)).trans (hbo.mono (Nat.le_trans hba.size hbb.size))).trans (hbp.mono (Nat.le_trans (Nat.le_trans hba.size hbb.size) hbo.size))
 have hzo:wo.heap.size = wb.heap.size + 1:=by rw [← hwo]; simp
 have hlab:w.heap.size < wa.heap.size:=bx.lt
 have hlab3:wa.heap.size < wb.heap.size:=by_.lt
 have p0:=bx2.d0
 have p1:=bx2.d1
 have p2:=bx2.d2
 have p3:=by2.d0
 have p4:=by2.d1
 have p5:=by2.d2
 have HRw:=Hd (show w.heap.size ≤ wb.heap.size from Nat.le_trans hba.size hbb.size)
 have HRT:=Hd (show wb.heap.size < wo.heap.size by omega)
 have hne1:wb.heap.size ≠ wo.heap.size:=by omega
 have hne2:wo.heap.size ≠ wb.heap.size:=by omega
 have hne3:w.heap.size ≠ wa.heap.size:=by omega
 have hne4:w.heap.size ≠ wb.heap.size:=by omega
 have hne5:w.heap.size ≠ wo.heap.size:=by omega
 have hne6:wa.heap.size ≠ wb.heap.size:=by omega
 have hne7:wa.heap.size ≠ wo.heap.size:=by omega
 have HO:=Hd (And.intro hO1 hO2)
 have HB:=Hd hB
 have HS:=Hd (And.intro (hx1.below hB) (And.intro (hy1.below hB) (And.intro (hx2.below hB) (hy2.below hB))))
 have HT:=Hd (hTb.below hB)
 have HKM1:=Hd (fun (W:World) (hb:Below wp.heap.size wp W) => ratMay_any g1 a1 b1 n1 c1 m1 d1 x1 y1 W ((Uh HS).1.below hb) ((Uh HS).2.1.below hb) ox1 oy1 ((Uh HT).below hb))
 have HKM2:=Hd (fun (W:World) (hb:Below wp.heap.size wp W) => ratMay_any g1 a2 b2 n2 c2 m2 d2 x2 y2 W ((Uh HS).2.2.1.below hb) ((Uh HS).2.2.2.below hb) ox2 oy2 ((Uh HT).below hb))
 have HKZ:=Hd (fun (W:World) => isZero_any g1 a2 b2 n2 c2 m2 d2 W)
 have HKD:=Hd (fun (W:World) (hb:Below wp.heap.size wp W) => ratDivisor_any b1 b2 m1 d1 m2 d2 y1 y2 W ((Uh HS).2.1.below hb) ((Uh HS).2.2.2.below hb) oy1 oy2 ky1 ky2 ((Uh HT).below hb))
 rw [k1] at HKM1
 rw [k2] at HKM2
 have hn2:n2 ≠ 0:=fun e => ex2 (List.eq_nil_of_length_eq_zero (by rw [hx2.len,e]))
 rw [decide_eq_false hn2] at HKZ
 have hFF:DivdG g1 g1 (val x1) (val y1) (val x2) (val y2) = DivdG g1 g1 (val x1) (val y1) (val x2) (val y2):=rfl
 unfold DivdG dvN dvD dvQ dvL dvX dvY at hFF
 skip
 have hGp:0 < Nat.gcd (val y1) (val y2):=Nat.gcd_pos_of_pos_right _ vy2
 have mG1:MayL (limbs (Nat.gcd (val y1) (val y2))) = true:=may_small ky2 oy2 (Nat.gcd_le_right _ vy2)
 have hGl:=And.intro (Nat.gcd_le_left (val y2) vy1) (Nat.gcd_le_right (val y1) vy2)
 have hGG:DivdG g1 g1 (val x1) (val y1) (val x2) (val y2) = (if bigN (flQ false (val x1 * (val y2 / Nat.gcd (val y1) (val y2))) (val y1 / Nat.gcd (val y1) (val y2) * val x2)) || bigN (flL false (val x1 * (val y2 / Nat.gcd (val y1) (val y2))) (val y1 / Nat.gcd (val y1) (val y2) * val x2) / Nat.gcd (flL false (val x1 * (val y2 / Nat.gcd (val y1) (val y2))) (val y1 / Nat.gcd (val y1) (val y2) * val x2)) (val y2)) || bigN (val y1 / Nat.gcd (val y1) (val y2) * (val y2 / Nat.gcd (flL false (val x1 * (val y2 / Nat.gcd (val y1) (val y2))) (val y1 / Nat.gcd (val y1) (val y2) * val x2)) (val y2))) then (((false,[],[]),(false,[],[])),2) else (((false && decide (flQ false (val x1 * (val y2 / Nat.gcd (val y1) (val y2))) (val y1 / Nat.gcd (val y1) (val y2) * val x2) ≠ 0),limbs (flQ false (val x1 * (val y2 / Nat.gcd (val y1) (val y2))) (val y1 / Nat.gcd (val y1) (val y2) * val x2)),[1]),(g1 && decide (flL false (val x1 * (val y2 / Nat.gcd (val y1) (val y2))) (val y1 / Nat.gcd (val y1) (val y2) * val x2) / Nat.gcd (flL false (val x1 * (val y2 / Nat.gcd (val y1) (val y2))) (val y1 / Nat.gcd (val y1) (val y2) * val x2)) (val y2) ≠ 0),limbs (flL false (val x1 * (val y2 / Nat.gcd (val y1) (val y2))) (val y1 / Nat.gcd (val y1) (val y2) * val x2) / Nat.gcd (flL false (val x1 * (val y2 / Nat.gcd (val y1) (val y2))) (val y1 / Nat.gcd (val y1) (val y2) * val x2)) (val y2)),limbs (val y1 / Nat.gcd (val y1) (val y2) * (val y2 / Nat.gcd (flL false (val x1 * (val y2 / Nat.gcd (val y1) (val y2))) (val y1 / Nat.gcd (val y1) (val y2) * val x2)) (val y2))))),0)):=by
  unfold DivdG dvN dvD dvQ dvL dvX dvY
  rw [(show (g1 != g1) = false from by simp)]
 rw [hGG]
 clear hFF hGG
 obtain ⟨G,hG⟩:∃ G,Nat.gcd (val y1) (val y2) = G:=⟨_,rfl⟩
 rw [hG] at HKD hGp mG1 hGl  ⊢
 have nzG:limbs G ≠ []:=limbs_ne hGp
 have mA:MayL (limbs (val y1 / G)) = true:=may_div ky1 oy1 _
 have mB:MayL (limbs (val y2 / G)) = true:=may_div ky2 oy2 _
 have zA:0 < val y1 / G:=Nat.div_pos hGl.1 hGp
 obtain ⟨A,hA⟩:∃ A,val y1 / G = A:=⟨_,rfl⟩
 obtain ⟨B,hBq⟩:∃ B,val y2 / G = B:=⟨_,rfl⟩
 rw [hA] at mA zA  ⊢
 rw [hBq] at mB  ⊢
 have zAe:limbs A ≠ []:=limbs_ne zA
 have lA:A < wD * wD:=by have:=may_lt mA (limbs_rep A).ok; rwa [(limbs_rep A).val] at this
 have lB:B < wD * wD:=by have:=may_lt mB (limbs_rep B).ok; rwa [(limbs_rep B).val] at this
 have hX5:val x1 * B < wD ^ 5:=small5 (may_lt kx1 ox1) lB
 have hY5:A * val x2 < wD ^ 5:=small5 lA (may_lt kx2 ox2)
 have hYp:0 < A * val x2:=Nat.mul_pos zA vx2
 obtain ⟨X,hX⟩:∃ X,val x1 * B = X:=⟨_,rfl⟩
 obtain ⟨Y,hY⟩:∃ Y,A * val x2 = Y:=⟨_,rfl⟩
 rw [hX] at hX5  ⊢
 rw [hY] at hY5 hYp  ⊢
 have hL1:X % Y ≤ Y:=Nat.le_of_lt (Nat.mod_lt _ hYp)
 have hL5:flL false X Y < wD ^ 5:=by
  rw [show flL false X Y = X % Y from by unfold flL; rfl]
  have:=Nat.mod_lt X hYp
  omega
 rw [show flL false X Y = X % Y from by unfold flL; rfl] at hL5 ⊢
 rw [show flQ false X Y = X / Y from by unfold flQ; rfl]
 obtain ⟨Q0,hQ0⟩:∃ q,X / Y = q:=⟨_,rfl⟩
 obtain ⟨L0,hL0⟩:∃ q,X % Y = q:=⟨_,rfl⟩
 rw [hQ0]
 rw [hL0] at hL1 hL5  ⊢
 have mE:MayL (limbs (val y2 / Nat.gcd L0 (val y2))) = true:=may_div ky2 oy2 _
 obtain ⟨NN,hNN⟩:∃ q,L0 / Nat.gcd L0 (val y2) = q:=⟨_,rfl⟩
 obtain ⟨E,hE⟩:∃ q,val y2 / Nat.gcd L0 (val y2) = q:=⟨_,rfl⟩
 rw [hNN]
 rw [hE] at mE ⊢
 have hDm:mulL (limbs A) (limbs E) = fitL (A * E):=by unfold mulL; rw [mA,mE,(limbs_rep A).val,(limbs_rep E).val]; rfl
 obtain ⟨DD,hDD⟩:∃ q,A * E = q:=⟨_,rfl⟩
 rw [hDD] at hDm ⊢
 have HM:=Hd (And.intro ky1 (And.intro ky2 (And.intro mG1 (And.intro nzG ey2))))
 have HM2:=Hd (And.intro kx1 (And.intro kx2 (And.intro mA (And.intro mB (And.intro zAe ex2)))))
 have HAe:=Hd hA
 have HBe:=Hd hBq
 have HXe:=Hd hX
 have HYe:=Hd hY
 have HX5:=Hd hX5
 have HQe:=Hd hQ0
 have HLe:=Hd hL0
 have HL1:=Hd hL1
 have HL5:=Hd hL5
 have HNe:=Hd hNN
 have HEe:=Hd hE
 have HDe:=Hd hDm
 skip
 clear hx1 hy1 hx2 hy2 bx by_ bx2 by2 hba hbb hbo hbp hB hO1 hO2 hzo hlab hlab3
 clear hTb k1 k2 kx1 ky1 kx2 ky2 ey1 ey2 ex2 vy1 vy2 vx2 hn2 hGp mG1 hGl hG nzG mA mB zA hA hBq zAe lA lB hX5 hY5 hYp hX hY hL1 hL5 hQ0 hL0 mE hNN hE hDm hDD 
 obtain ⟨RR,hRR⟩:∃ r:((Bool × List Nat × List Nat) × (Bool × List Nat × List Nat)) × Int,(if bigN (Q0) || bigN NN || bigN DD then (((false,[],[]),(false,[],[])),2) else (((false && decide (Q0 ≠ 0),limbs (Q0),[1]),(g1 && decide (NN ≠ 0),limbs NN,limbs DD)),0)) = r:=⟨_,rfl⟩
 rw [hRR]
 have HRR:=Hd hRR
 clear hRR
 unfold ratV at HKM1 HKM2 HKZ ⊢
 go_enter Tryz.func21,Tryz.ntmps21
 go_wp2_with fail
 refine (Uh HKM1 _ (Below.refl _ _)).mono ?_
 rintro _ w1 ⟨rfl,bl1⟩
 have e0:=(ck bl1 p0)
 have e1:=(ck bl1 p1)
 have e2:=(ck bl1 p2)
 have e3:=(ck bl1 p3)
 have e4:=(ck bl1 p4)
 have e5:=(ck bl1 p5)
 have HB1:=Hd bl1
 clear bl1 HKM1 p0 p1 p2 p3 p4 p5
 go_wp2_with fail
 refine (Uh HKM2 _ (Uh HB1)).mono ?_
 rintro _ w2 ⟨rfl,bl2⟩
 have f0:=(ck bl2 e0)
 have f1:=(ck bl2 e1)
 have f2:=(ck bl2 e2)
 have f3:=(ck bl2 e3)
 have f4:=(ck bl2 e4)
 have f5:=(ck bl2 e5)
 have HB2:=Hd ((Uh HB1).trans (bl2.mono (Uh HB1).size))
 clear bl2 HKM2 HB1 e0 e1 e2 e3 e4 e5
 go_wp2_with fail
 refine (Uh HKZ _).mono ?_
 rintro _ w3 ⟨rfl,bl3⟩
 have h0:=(ck bl3 f0)
 have h1:=(ck bl3 f1)
 have h2:=(ck bl3 f2)
 have h3:=(ck bl3 f3)
 have h4:=(ck bl3 f4)
 have h5:=(ck bl3 f5)
 have HB3:=Hd ((Uh HB2).trans (bl3.mono (Uh HB2).size))
 clear bl3 HKZ HB2 f0 f1 f2 f3 f4 f5
 go_wp2_with fail
 refine (Uh HKD _ (Uh HB3)).mono ?_
 rintro _ w4 ⟨aC,mC,cC,rfl,sC,nC,bl4⟩
 have i0:=(ck bl4 h0)
 have i1:=(ck bl4 h1)
 have i2:=(ck bl4 h2)
 have i3:=(ck bl4 h3)
 have i4:=(ck bl4 h4)
 have i5:=(ck bl4 h5)
 have HB4:=Hd ((Uh HB3).trans (bl4.mono (Uh HB3).size))
 have HQ1:=Hd (fun (W:World) (hb:Below w4.heap.size w4 W) => (by have K:=ratQuotient_any b1 aC m1 d1 mC cC y1 (limbs G) W ((Uh HS).2.1.below ((Uh HB4).trans (hb.mono (Uh HB4).size))) (sC.below hb) oy1 (limbs_rep G).ok (Uh HM).1 (Uh HM).2.2.1 (Uh HM).2.2.2.1; rw [(limbs_rep G).val,Uh HAe] at K; exact K:Calls Tryz.prog 56 #[.slice b1 m1 d1,.slice aC mC cC] W fun e w' => OldN W w' b1 m1 d1 A e))
 have HQ2:=Hd (fun (W:World) (hb:Below w4.heap.size w4 W) => (by have K:=ratQuotient_any b2 aC m2 d2 mC cC y2 (limbs G) W ((Uh HS).2.2.2.below ((Uh HB4).trans (hb.mono (Uh HB4).size))) (sC.below hb) oy2 (limbs_rep G).ok (Uh HM).2.1 (Uh HM).2.2.1 (Uh HM).2.2.2.1; rw [(limbs_rep G).val,Uh HBe] at K; exact K:Calls Tryz.prog 56 #[.slice b2 m2 d2,.slice aC mC cC] W fun e w' => OldN W w' b2 m2 d2 B e))
 clear sC nC bl4 HKD HB3 h0 h1 h2 h3 h4 h5
 go_wp2_with fail
 go_region_held3 (fun w' => w'.cell? ⟨w.heap.size,0,none⟩ = some (.bool g1) ∧ w'.cell? ⟨w.heap.size,1,none⟩ = some (.slice a1 n1 c1) ∧ w'.cell? ⟨w.heap.size,2,none⟩ = some (.slice b1 m1 d1) ∧ w'.cell? ⟨wa.heap.size,0,none⟩ = some (.bool g1) ∧ w'.cell? ⟨wa.heap.size,1,none⟩ = some (.slice a2 n2 c2) ∧ w'.cell? ⟨wa.heap.size,2,none⟩ = some (.slice b2 m2 d2)) (first | go_keep | (exact ⟨e0,e1,e2,e3,e4,e5⟩) | (exact ⟨f0,f1,f2,f3,f4,f5⟩))
  (first
   | (go_at_call_of 56 (Value.slice b1 m1 d1); refine (Uh HQ1 _ (Below.refl _ _).drew).mono ?_; rintro _ we ⟨ae,me,ce,rfl,sE,oE,bE⟩; have hbe:Below w4.heap.size w4 we:=(Below.refl _ _).drew.trans bE; have e0:=(ck hbe i0); have e1:=(ck hbe i1); have e2:=(ck hbe i2); have e3:=(ck hbe i3); have e4:=(ck hbe i4); have e5:=(ck hbe i5); have He:=Hd (And.intro sE hbe); clear sE oE bE hbe)
   | (go_at_call_of 56 (Value.slice b2 m2 d2); refine (Uh HQ2 _ (Uh He).2).mono ?_; rintro _ wf ⟨af,mf,cf,rfl,sF_,oF,bF⟩; have f0:=(ck bF e0); have f1:=(ck bF e1); have f2:=(ck bF e2); have f3:=(ck bF e3); have f4:=(ck bF e4); have f5:=(ck bF e5); have Hf:=Hd (And.intro ((Uh He).1.below bF) (And.intro sF_ ((Uh He).2.trans (bF.mono (Uh He).2.size)))); clear sF_ oF bF He))
 have HB5:=Hd ((Uh HB4).trans ((Uh Hf).2.2.mono (Uh HB4).size))
 have SA:=Hd (Uh Hf).1
 have SB:=Hd (Uh Hf).2.1
 clear Hf HQ1 HQ2 HB4 i0 i1 i2 i3 i4 i5 e0 e1 e2 e3 e4 e5
 have HX1:=Hd (fun (W:World) (hb:Below wf.heap.size wf W) => (by have K:=product_any a1 af n1 c1 mf cf x1 (limbs B) W ((Uh HS).1.below ((Uh HB5).trans (hb.mono (Uh HB5).size))) ((Uh SB).below hb) ox1 (limbs_rep B).ok (Uh HM2).1 (Uh HM2).2.2.2.1; rw [(limbs_rep B).val,Uh HXe] at K; exact K:Calls Tryz.prog 58 #[.slice a1 n1 c1,.slice af mf cf] W fun e w' => WdPostN 200 W w' X e))
 go_wp2_with fail
 go_region_held3 (fun w' => w'.cell? ⟨w.heap.size,0,none⟩ = some (.bool g1) ∧ w'.cell? ⟨w.heap.size,1,none⟩ = some (.slice a1 n1 c1) ∧ w'.cell? ⟨w.heap.size,2,none⟩ = some (.slice b1 m1 d1) ∧ w'.cell? ⟨wa.heap.size,0,none⟩ = some (.bool g1) ∧ w'.cell? ⟨wa.heap.size,1,none⟩ = some (.slice a2 n2 c2) ∧ w'.cell? ⟨wa.heap.size,2,none⟩ = some (.slice b2 m2 d2)) (first | go_keep | (exact ⟨u0,u1,u2,u3,u4,u5⟩) | (exact ⟨v0,v1,v2,v3,v4,v5⟩))
  (first
   | (go_at_call 58; refine (Uh HX1 _ (Below.refl _ _).drew).mono ?_; rintro _ wu ⟨au,nu,cu,us,rfl,hWu,hnu,bU⟩; have hbu:Below wf.heap.size wf wu:=(Below.refl _ _).drew.trans bU; have u0:=(ck hbu f0); have u1:=(ck hbu f1); have u2:=(ck hbu f2); have u3:=(ck hbu f3); have u4:=(ck hbu f4); have u5:=(ck hbu f5); have KT:=divTwice_any au nu cu X us ae a2 me ce n2 c2 (limbs A) x2 wu hWu (wide_len10 hWu (Uh HX5)) ((Uh SA).below hbu) ((Uh HS).2.2.1.below ((Uh HB5).trans (hbu.mono (Uh HB5).size))) (limbs_rep A).ok ox2 (Uh HM2).2.2.1 (Uh HM2).2.1 (Uh HM2).2.2.2.2.1 (Uh HM2).2.2.2.2.2; rw [(limbs_rep A).val,Uh HYe,Uh HQe,Uh HLe] at KT; have HKT:=Hd KT; have Hu:=Hd hbu; clear hWu hnu bU hbu KT)
   | (go_at_call 57; refine (Uh HKT).mono ?_; rintro _ wv_ ⟨aq,nq,cq,qs,al,nl,cl,ls,rfl,hWq,hnq,hWl,hnl,bV⟩; have v0:=(ck bV u0); have v1:=(ck bV u1); have v2:=(ck bV u2); have v3:=(ck bV u3); have v4:=(ck bV u4); have v5:=(ck bV u5); have Hv:=Hd ((Uh Hu).trans (bV.mono (Uh Hu).size)); have WQ:=Hd (And.intro hWq (show nq ≤ 1000 by omega)); have WL:=Hd (And.intro hWl hnl); clear hWq hnq hWl hnl bV HKT Hu))
 have HB6:=Hd ((Uh HB5).trans ((Uh Hv).mono (Uh HB5).size))
 have SA:=Hd ((Uh SA).below (Uh Hv))
 have hnl:=wide_some (Uh WL).1
 clear Hv HX1 SB HB5 f0 f1 f2 f3 f4 f5 u0 u1 u2 u3 u4 u5
 clear hnl
 have WQ:=Hd (Uh WQ).1
 have WL:=Hd (Uh WL).1
 have hW10:nl ≤ 10:=wide_len10 (Uh WL) (Uh HL5)
 have KK:=cancel_any 10 al b2 nl cl m2 d2 (L0) ls y2 wv_ (Uh WL) hW10 ((Uh HS).2.2.2.below (Uh HB6)) oy2 (Uh HM).2.1 (Uh HM).2.2.2.2 ((Uh HT).below (Uh HB6)) (fun W' a m c zs hb hs ok mm ne => by_any wv_ W' al nl cl (L0) ls a m c zs hb ((Uh WL).below hb) hW10 hs ok mm ne)
 rw [Uh HNe,Uh HEe] at KK
 have HKK:=Hd KK
 clear KK hW10 WL
 go_wp2_with fail
 refine (Uh HKK).mono ?_
 rintro _ wg ⟨ag,ng,cg,gs,ah,mh,ch,rfl,hWg,hng,sh,bg⟩
 have k0:=(ck bg v0)
 have k1:=(ck bg v1)
 have k2:=(ck bg v2)
 have k3:=(ck bg v3)
 have k4:=(ck bg v4)
 have k5:=(ck bg v5)
 have HB7:=Hd ((Uh HB6).trans (bg.mono (Uh HB6).size))
 have HKQ:=Hd (narrow_any aq nq cq (Q0) qs wg ((Uh WQ).below bg))
 have SA:=Hd ((Uh SA).below bg)
 have SH:=Hd sh
 have WG:=Hd hWg
 clear hWg hng sh bg HKK HB6 WQ v0 v1 v2 v3 v4 v5
 go_wp2_with fail
 refine (Uh HKQ).mono ?_
 rintro _ wh ⟨ar,mr,cr,rfl,sr,nr,bh⟩
 have j0:=(ck bh k0)
 have j1:=(ck bh k1)
 have j2:=(ck bh k2)
 have j3:=(ck bh k3)
 have j4:=(ck bh k4)
 have j5:=(ck bh k5)
 have HB8:=Hd ((Uh HB7).trans (bh.mono (Uh HB7).size))
 have HKN:=Hd (narrow_any ag ng cg NN gs wh ((Uh WG).below bh))
 have SA:=Hd ((Uh SA).below bh)
 have SH:=Hd ((Uh SH).below bh)
 have SR:=Hd (And.intro sr (show NewAt wp.heap.size ar from fun p hp => Nat.le_trans (Uh HB7).size (nr p hp)))
 clear sr nr bh HKQ HB7 WG k0 k1 k2 k3 k4 k5
 go_wp2_with fail
 refine (Uh HKN).mono ?_
 rintro _ wi ⟨as_,ms_,cs_,rfl,ss,ns,bi⟩
 have k0:=(ck bi j0)
 have k1:=(ck bi j1)
 have k2:=(ck bi j2)
 have k3:=(ck bi j3)
 have k4:=(ck bi j4)
 have k5:=(ck bi j5)
 have HB9:=Hd ((Uh HB8).trans (bi.mono (Uh HB8).size))
 have KM:=nmul_any ae ah me ce mh ch (limbs A) (limbs E) wi ((Uh SA).below bi) ((Uh SH).below bi) (limbs_rep A).ok (limbs_rep E).ok
 rw [Uh HDe] at KM
 have HKM:=Hd KM
 have SR:=Hd (And.intro ((Uh SR).1.below bi) (Uh SR).2)
 have SN:=Hd (And.intro ss (show NewAt wp.heap.size as_ from fun p hp => Nat.le_trans (Uh HB8).size (ns p hp)))
 clear KM ss ns bi HKN HB8 SA SH j0 j1 j2 j3 j4 j5
 go_wp2_with fail
 refine (Uh HKM).mono ?_
 rintro _ wj ⟨ad_,md_,cd_,rfl,sd,nd,bj⟩
 have j0:=(ck bj k0)
 have j1:=(ck bj k1)
 have j2:=(ck bj k2)
 have j3:=(ck bj k3)
 have j4:=(ck bj k4)
 have j5:=(ck bj k5)
 have HB10:=Hd ((Uh HB9).trans (bj.mono (Uh HB9).size))
 have SR:=Hd (And.intro ((Uh SR).1.below bj) (Uh SR).2)
 have SN:=Hd (And.intro ((Uh SN).1.below bj) (Uh SN).2)
 have SD:=Hd (And.intro sd (show NewAt wp.heap.size ad_ from fun p hp => Nat.le_trans (Uh HB9).size (nd p hp)))
 clear sd nd bj HKM HB9 k0 k1 k2 k3 k4 k5
 have HOa:=Hd (And.intro ((Uh HO).1.keep (Uh HB10)) ((Uh HO).2.keep (Uh HB10)))
 have HBa:=Hd ((Uh HB).trans ((Uh HB10).mono (Uh HB).size))
 clear HB HS HT HM HM2 HAe HBe HXe HYe HX5 HQe HLe HL1 HL5 HNe HEe HDe hwa hwb hwo hwp hne2 hne3 ox1 oy1 ox2 oy2
 by_cases hall:(bigN (Q0) || bigN NN || bigN DD) = true
 ·have HR2:=Hd ((Uh HRR).symm.trans (if_pos hall))
  have fQ:=fitL_er (Q0)
  have fN:=fitL_er NN
  have fD:=fitL_er DD
  generalize (fitL (Q0)).2 = EQ at *
  generalize (fitL NN).2 = EN at *
  generalize (fitL DD).2 = ED at *
  have hm2:∀ (P:Program) (w:World) (ts:Array TypeId) (t:TypeId) (k k1 k2:IntKind),(Builtin.max_ ts t #[.int k EQ,.int k1 EN,.int k2 ED]).run P w = .ok (.int k 2) w:=by
   intro P w ts t k k1 k2
   rw [run_max3]
   rcases fQ with ⟨f1,rfl⟩ | ⟨f1,rfl⟩ <;> rcases fN with ⟨f2,rfl⟩ | ⟨f2,rfl⟩ <;> rcases fD with ⟨f3,rfl⟩ | ⟨f3,rfl⟩ <;> first | rfl | exact absurd hall (by rw [f1,f2,f3]; decide)
  clear hall fQ fN fD HRR
  have HO1:=Hd (Uh HOa).1
  have HO2:=Hd (Uh HOa).2
  obtain ⟨x0,q0⟩:=(Uh HO1).cells 0 (by decide)
  obtain ⟨x1',q1⟩:=(Uh HO1).cells 1 (by decide)
  obtain ⟨x2',q2⟩:=(Uh HO1).cells 2 (by decide)
  obtain ⟨x3',q3⟩:=(Uh HO2).cells 0 (by decide)
  obtain ⟨x4',q4⟩:=(Uh HO2).cells 1 (by decide)
  obtain ⟨x5',q5⟩:=(Uh HO2).cells 2 (by decide)
  have r0:=(Uh HO1).fz 0 (by decide)
  have r1:=(Uh HO1).fz 1 (by decide)
  have r2:=(Uh HO1).fz 2 (by decide)
  have r3:=(Uh HO2).fz 0 (by decide)
  have r4:=(Uh HO2).fz 1 (by decide)
  have r5:=(Uh HO2).fz 2 (by decide)
  have H6:=Hd (six_set wj wb.heap.size wo.heap.size hne1 (.bool false) (.slice none 0 0) (.slice none 0 0) (.bool false) (.slice none 0 0) (.slice none 0 0) (Uh HO1) (Uh HO2))
  go_wp2_with fail
  obtain ⟨wf,hwf,⟨t0,t1,t2⟩,⟨t3,t4,t5⟩,c6⟩:=Uh H6
  rw [hwf]
  refine bodyPost_ret (by simp [results,Tryz.results21,go_sem,t0,t1,t2,t3,t4,t5]; try rfl) rfl ?_
  rw [Uh HR2]
  exact ⟨_,_,rfl,newR_two (Uh HRw) (Uh HRT) (Uh HBa) (sl_nil _) (newAt_nil _) (sl_nil _) (newAt_nil _) c6 false,newR_two (Uh HRw) (Uh HRT) (Uh HBa) (sl_nil _) (newAt_nil _) (sl_nil _) (newAt_nil _) c6 false⟩
 ·have hall':bigN (Q0) = false ∧ bigN NN = false ∧ bigN DD = false:=by
   cases h1:bigN (Q0) <;> cases h2:bigN NN <;> cases h3:bigN DD <;> simp [h1,h2,h3] at hall ⊢
  have HR2:=Hd ((Uh HRR).symm.trans (if_neg hall))
  rw [fitN2 hall'.1] at SR ⊢
  rw [fitN2 hall'.2.1] at SN ⊢
  rw [fitN2 hall'.2.2] at SD ⊢
  clear hall hall'
  dsimp only at SR SN SD ⊢
  have hlq:=limbs_len0 (Uh SR).1.len
  have hln:=limbs_len0 (Uh SN).1.len
  have HKW:=Hd (fun (W:World) => ratWhole_any false ar mr cr W)
  have HKS:=Hd (fun (W:World) => signed_any g1 as_ ad_ ms_ cs_ md_ cd_ W)
  unfold WhPost at HKW
  rw [hlq] at HKW
  rw [hln] at HKS
  obtain ⟨SG,hSG⟩:∃ s,(false && decide (Q0 ≠ 0)) = s:=⟨_,rfl⟩
  obtain ⟨SH,hSH⟩:∃ s,(g1 && decide (NN ≠ 0)) = s:=⟨_,rfl⟩
  rw [hSG] at HKW
  rw [hSH] at HKS
  have HSG:=Hd hSG
  have HSH:=Hd hSH
  unfold ratV at HKW HKS
  clear hlq hln hSG hSH
  have hmx:=run_max3
  go_wp2_with fail
  clear hmx
  go_region_held3 (fun w' => w'.cell? ⟨w.heap.size,0,none⟩ = some (.bool g1) ∧ w'.cell? ⟨w.heap.size,1,none⟩ = some (.slice a1 n1 c1) ∧ w'.cell? ⟨w.heap.size,2,none⟩ = some (.slice b1 m1 d1) ∧ w'.cell? ⟨wa.heap.size,0,none⟩ = some (.bool g1) ∧ w'.cell? ⟨wa.heap.size,1,none⟩ = some (.slice a2 n2 c2) ∧ w'.cell? ⟨wa.heap.size,2,none⟩ = some (.slice b2 m2 d2)) (first | (with_reducible exact ⟨u0,u1,u2,u3,u4,u5⟩) | (with_reducible exact ⟨k0,k1,k2,k3,k4,k5⟩) | (with_reducible exact ⟨z0,z1,z2,z3,z4,z5⟩) | (with_reducible exact ⟨y0,y1,y2,y3,y4,y5⟩) | go_keep)
   (first
    | (go_at_call 45; refine (Uh HKW _).mono ?_; rintro _ wk ⟨aW,mW,cW,rfl,sW,nW,bK⟩; have hbk:Below wj.heap.size wj wk:=(Below.refl _ _).drew.trans bK; have k0:=(ck hbk j0); have k1:=(ck hbk j1); have k2:=(ck hbk j2); have k3:=(ck hbk j3); have k4:=(ck hbk j4); have k5:=(ck hbk j5); have Hk:=Hd (And.intro sW (And.intro (show NewAt wj.heap.size aW from fun p hp => by have h1:=nW p hp; simpa using h1) hbk)); clear sW nW bK hbk)
    | (go_at_call 66; refine (Uh HKS _).mono ?_; rintro _ wl ⟨rfl,bL⟩; have u0:=(ck bL k0); have u1:=(ck bL k1); have u2:=(ck bL k2); have u3:=(ck bL k3); have u4:=(ck bL k4); have u5:=(ck bL k5); have Hl:=Hd (And.intro ((Uh Hk).1.below bL) (And.intro (Uh Hk).2.1 ((Uh Hk).2.2.trans (bL.mono (Uh Hk).2.2.size)))); have HO1:=Hd ((Uh HOa).1.keep (Uh Hl).2.2); have HO2:=Hd ((Uh HOa).2.keep (Uh Hl).2.2); obtain ⟨x0,q0⟩:=(Uh HO1).cells 0 (by decide); obtain ⟨x1',q1⟩:=(Uh HO1).cells 1 (by decide); obtain ⟨x2',q2⟩:=(Uh HO1).cells 2 (by decide); obtain ⟨x3',q3⟩:=(Uh HO2).cells 0 (by decide); obtain ⟨x4',q4⟩:=(Uh HO2).cells 1 (by decide); obtain ⟨x5',q5⟩:=(Uh HO2).cells 2 (by decide); have r0:=(Uh HO1).fz 0 (by decide); have r1:=(Uh HO1).fz 1 (by decide); have r2:=(Uh HO1).fz 2 (by decide); have r3:=(Uh HO2).fz 0 (by decide); have r4:=(Uh HO2).fz 1 (by decide); have r5:=(Uh HO2).fz 2 (by decide); obtain ⟨_,_,_,c3⟩:=three_set wl wb.heap.size (.bool SG) (.slice ar mr cr) (.slice aW mW cW) (Uh HO1).cells; have z0:=c3.cell (b:=w.heap.size) (i:=0) (fun e => hne4 e) u0; have z1:=c3.cell (b:=w.heap.size) (i:=1) (fun e => hne4 e) u1; have z2:=c3.cell (b:=w.heap.size) (i:=2) (fun e => hne4 e) u2; have z3:=c3.cell (b:=wa.heap.size) (i:=0) (fun e => hne6 e) u3; have z4:=c3.cell (b:=wa.heap.size) (i:=1) (fun e => hne6 e) u4; have z5:=c3.cell (b:=wa.heap.size) (i:=2) (fun e => hne6 e) u5; clear c3; obtain ⟨_,rfl,_,_,c6⟩:=six_set wl wb.heap.size wo.heap.size hne1 (.bool SG) (.slice ar mr cr) (.slice aW mW cW) (.bool SH) (.slice as_ ms_ cs_) (.slice ad_ md_ cd_) (Uh HO1) (Uh HO2); have y0:=c6.cell (b:=w.heap.size) (i:=0) (fun e => e.elim (fun e => hne4 e) (fun e => hne5 e)) u0; have y1:=c6.cell (b:=w.heap.size) (i:=1) (fun e => e.elim (fun e => hne4 e) (fun e => hne5 e)) u1; have y2:=c6.cell (b:=w.heap.size) (i:=2) (fun e => e.elim (fun e => hne4 e) (fun e => hne5 e)) u2; have y3:=c6.cell (b:=wa.heap.size) (i:=0) (fun e => e.elim (fun e => hne6 e) (fun e => hne7 e)) u3; have y4:=c6.cell (b:=wa.heap.size) (i:=1) (fun e => e.elim (fun e => hne6 e) (fun e => hne7 e)) u4; have y5:=c6.cell (b:=wa.heap.size) (i:=2) (fun e => e.elim (fun e => hne6 e) (fun e => hne7 e)) u5; clear c6; clear bL))
  have H6:=Hd (six_set wl wb.heap.size wo.heap.size hne1 (.bool SG) (.slice ar mr cr) (.slice aW mW cW) (.bool SH) (.slice as_ ms_ cs_) (.slice ad_ md_ cd_) (Uh HO1) (Uh HO2))
  have HBw:=Hd ((Uh HBa).trans ((Uh Hl).2.2.mono (Uh HBa).size))
  have hzw:wo.heap.size + 1 ≤ wp.heap.size:=(Uh HO).2.lt
  have hzj:wp.heap.size ≤ wj.heap.size:=(Uh HB10).size
  have HZ:=Hd (And.intro ((Uh SR).1.below (Uh Hl).2.2) (And.intro (show NewAt (wo.heap.size + 1) ar from fun p hp => Nat.le_trans hzw ((Uh SR).2 p hp)) (And.intro (Uh Hl).1 (And.intro (show NewAt (wo.heap.size + 1) aW from fun p hp => Nat.le_trans (Nat.le_trans hzw hzj) ((Uh Hl).2.1 p hp)) (And.intro ((Uh SN).1.below (Uh Hl).2.2) (And.intro (show NewAt (wo.heap.size + 1) as_ from fun p hp => Nat.le_trans hzw ((Uh SN).2 p hp)) (And.intro ((Uh SD).1.below (Uh Hl).2.2) (show NewAt (wo.heap.size + 1) ad_ from fun p hp => Nat.le_trans hzw ((Uh SD).2 p hp)))))))))
  clear q0 q1 q2 q3 q4 q5 r0 r1 r2 r3 r4 r5 hzw hzj z0 z1 z2 z3 z4 z5 y0 y1 y2 y3 y4 y5
  try go_wp2_with fail
  obtain ⟨wf_,hwf,⟨t0,t1,t2⟩,⟨t3,t4,t5⟩,c6⟩:=Uh H6
  rw [hwf]
  refine bodyPost_ret (by simp [results,Tryz.results21,go_sem,t0,t1,t2,t3,t4,t5]; try rfl) rfl ?_
  rw [Uh HR2,Uh HSG,Uh HSH]
  obtain ⟨z1,z2,z3,z4,z5,z6,z7,z8⟩:=Uh HZ
  exact ⟨_,_,rfl,newR_two (Uh HRw) (Uh HRT) (Uh HBw) z1 z2 z3 z4 c6 SG,newR_two (Uh HRw) (Uh HRT) (Uh HBw) z5 z6 z7 z8 c6 SH⟩
end Go.Proofs.YtmmeiebbnjjijaaGreatDoor
