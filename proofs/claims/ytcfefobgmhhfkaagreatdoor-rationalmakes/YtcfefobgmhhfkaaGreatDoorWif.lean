/-
  rational.multiply: contract.
-/
import Derived.Test.YtcfefobgmhhfkaaGreatDoorRa8
namespace Go.Proofs.YtcfefobgmhhfkaaGreatDoor
open Go.RowKit Go.Deep
set_option linter.unusedVariables false

/-- The product's two naturals. -/
def mulN (x1 y1 x2 y2 : List Nat) : Nat := (val x1 / Nat.gcd (val x1) (val y2)) * (val x2 / Nat.gcd (val x2) (val y1))
def mulD (x1 y1 x2 y2 : List Nat) : Nat := (val y1 / Nat.gcd (val x2) (val y1)) * (val y2 / Nat.gcd (val x1) (val y2))
def bigN (v : Nat) : Bool := decide (2048 < (limbs v).length)
/-- What a product or a quotient answers. -/
def MuPost (w w' : World) (sg : Bool) (N M : Nat) (e : Ending) : Prop := if bigN N || bigN M then ResR w w' false [] [] 2 e else ResR w w' (sg && decide (N ≠ 0)) (limbs N) (limbs M) 0 e

set_option maxHeartbeats 8000000 in
set_option maxRecDepth 100000 in
/-- rational.multiply. -/
theorem ratmultiply_any (g1 g2 : Bool) (a1 b1 a2 b2 : Option Addr) (n1 c1 m1 d1 n2 c2 m2 d2 : Nat) (x1 y1 x2 y2 : List Nat) (w : World) (hx1 : Sl w a1 n1 c1 x1) (hy1 : Sl w b1 m1 d1 y1) (hx2 : Sl w a2 n2 c2 x2) (hy2 : Sl w b2 m2 d2 y2) (ox1 : Ok x1) (oy1 : Ok y1) (ox2 : Ok x2) (oy2 : Ok y2) (kx1 : MayL x1 = true) (ky1 : MayL y1 = true) (kx2 : MayL x2 = true) (ky2 : MayL y2 = true) (ey1 : y1 ≠ []) (ey2 : y2 ≠ []) (hT : Tab64 w) :
    Calls Tryz.prog 115 #[ratV g1 a1 n1 c1 b1 m1 d1, ratV g2 a2 n2 c2 b2 m2 d2] w fun e w' => MuPost w w' (g1 != g2) (mulN x1 y1 x2 y2) (mulD x1 y1 x2 y2) e := by
  have bx := Box.made w g1 a1 n1 c1 b1 m1 d1
  obtain ⟨wa, hwa⟩ : ∃ wa, ratBox w g1 a1 n1 c1 b1 m1 d1 = wa := ⟨_, rfl⟩
  rw [hwa] at bx
  have by_ := Box.made wa g2 a2 n2 c2 b2 m2 d2
  obtain ⟨wb, hwb⟩ : ∃ wb, ratBox wa g2 a2 n2 c2 b2 m2 d2 = wb := ⟨_, rfl⟩
  rw [hwb] at by_
  obtain ⟨wo, hwo⟩ : ∃ x, wb.alloc (.cells #[.bool false, .slice none 0 0, .slice none 0 0] 25) = x := ⟨_, rfl⟩
  have hba : Below w.heap.size w wa := by rw [← hwa]; exact (Below.refl _ _).alloc (Nat.le_refl _) _
  have hbb : Below wa.heap.size wa wb := by rw [← hwb]; exact (Below.refl _ _).alloc (Nat.le_refl _) _
  have hbo : Below wb.heap.size wb wo := by rw [← hwo]; exact (Below.refl _ _).alloc (Nat.le_refl _) _
  have hO : Out wo wb.heap.size := by rw [← hwo]; exact Out.made wb
  have bx2 := (bx.keep hbb).keep hbo
  have by2 := by_.keep hbo
  have hB := (hba.trans (hbb.mono hba.size)).trans (hbo.mono (Nat.le_trans hba.size hbb.size))
  have Hwb := hide (show w.heap.size ≤ wb.heap.size from Nat.le_trans hba.size hbb.size)
  unfold ratBox at hwa hwb
  have p0 := bx2.d0
  have p1 := bx2.d1
  have p2 := bx2.d2
  have p3 := by2.d0
  have p4 := by2.d1
  have p5 := by2.d2
  have vy1 := val_pos_of_may ky1 ey1
  have vy2 := val_pos_of_may ky2 ey2
  have HKD1 := hide (fun (W : World) (hb : Below wo.heap.size wo W) => ratDivisor_any a1 b2 n1 c1 m2 d2 x1 y2 W ((hx1.below hB).below hb) ((hy2.below hB).below hb) ox1 oy2 kx1 ky2 ((hT.below hB).below hb))
  have HKD2 := hide (fun (W : World) (hb : Below wo.heap.size wo W) => ratDivisor_any a2 b1 n2 c2 m1 d1 x2 y1 W ((hx2.below hB).below hb) ((hy1.below hB).below hb) ox2 oy1 kx2 ky1 ((hT.below hB).below hb))
  obtain ⟨N, hN⟩ : ∃ N, mulN x1 y1 x2 y2 = N := ⟨_, rfl⟩
  obtain ⟨M, hM⟩ : ∃ M, mulD x1 y1 x2 y2 = M := ⟨_, rfl⟩
  rw [hN, hM]
  have HhN := hide hN
  have HhM := hide hM
  clear hN hM
  unfold ratV
  go_enter Tryz.func115, Tryz.ntmps115
  go_wp2_with fail
  go_region_held3 (fun w' => w'.cell? ⟨w.heap.size, 0, none⟩ = some (.bool g1) ∧ w'.cell? ⟨w.heap.size, 1, none⟩ = some (.slice a1 n1 c1) ∧ w'.cell? ⟨w.heap.size, 2, none⟩ = some (.slice b1 m1 d1) ∧ w'.cell? ⟨wa.heap.size, 0, none⟩ = some (.bool g2) ∧ w'.cell? ⟨wa.heap.size, 1, none⟩ = some (.slice a2 n2 c2) ∧ w'.cell? ⟨wa.heap.size, 2, none⟩ = some (.slice b2 m2 d2)) (first | go_keep | (exact ⟨k0, k1, k2, k3, k4, k5⟩) | (exact ⟨j0, j1, j2, j3, j4, j5⟩))
    (first
      | (go_at_call_of 37 (Value.slice a1 n1 c1); refine (unhide HKD1 _ (Below.refl _ _).drew).mono ?_; rintro _ wc ⟨aC, mC, cC, rfl, sC, nC, bC⟩; have hbc : Below wo.heap.size wo wc := (Below.refl _ _).drew.trans bC; have k0 := (hbc.cell (p := ⟨w.heap.size, 0, none⟩) (World.block_lt_of_cell? _ _ p0)).trans p0; have k1 := (hbc.cell (p := ⟨w.heap.size, 1, none⟩) (World.block_lt_of_cell? _ _ p1)).trans p1; have k2 := (hbc.cell (p := ⟨w.heap.size, 2, none⟩) (World.block_lt_of_cell? _ _ p2)).trans p2; have k3 := (hbc.cell (p := ⟨wa.heap.size, 0, none⟩) (World.block_lt_of_cell? _ _ p3)).trans p3; have k4 := (hbc.cell (p := ⟨wa.heap.size, 1, none⟩) (World.block_lt_of_cell? _ _ p4)).trans p4; have k5 := (hbc.cell (p := ⟨wa.heap.size, 2, none⟩) (World.block_lt_of_cell? _ _ p5)).trans p5; have HC := hide (And.intro sC hbc); clear sC nC bC hbc)
      | (go_at_call_of 37 (Value.slice a2 n2 c2); refine (unhide HKD2 _ (unhide HC).2).mono ?_; rintro _ wd ⟨aD, mD, cD, rfl, sD, nD, bD⟩; have j0 := (bD.cell (p := ⟨w.heap.size, 0, none⟩) (World.block_lt_of_cell? _ _ k0)).trans k0; have j1 := (bD.cell (p := ⟨w.heap.size, 1, none⟩) (World.block_lt_of_cell? _ _ k1)).trans k1; have j2 := (bD.cell (p := ⟨w.heap.size, 2, none⟩) (World.block_lt_of_cell? _ _ k2)).trans k2; have j3 := (bD.cell (p := ⟨wa.heap.size, 0, none⟩) (World.block_lt_of_cell? _ _ k3)).trans k3; have j4 := (bD.cell (p := ⟨wa.heap.size, 1, none⟩) (World.block_lt_of_cell? _ _ k4)).trans k4; have j5 := (bD.cell (p := ⟨wa.heap.size, 2, none⟩) (World.block_lt_of_cell? _ _ k5)).trans k5; have HD := hide (And.intro ((unhide HC).1.below bD) (And.intro sD ((unhide HC).2.trans (bD.mono (unhide HC).2.size)))); clear sD nD bD HC))
  have hGC : 0 < Nat.gcd (val x1) (val y2) := Nat.gcd_pos_of_pos_right _ vy2
  have hGD : 0 < Nat.gcd (val x2) (val y1) := Nat.gcd_pos_of_pos_right _ vy1
  have mC1 : MayL (limbs (Nat.gcd (val x1) (val y2))) = true := may_small ky2 oy2 (Nat.gcd_le_right _ vy2)
  have mD1 : MayL (limbs (Nat.gcd (val x2) (val y1))) = true := may_small ky1 oy1 (Nat.gcd_le_right _ vy1)
  have HN := hide (show mulN x1 y1 x2 y2 = (val x1 / Nat.gcd (val x1) (val y2)) * (val x2 / Nat.gcd (val x2) (val y1)) from rfl)
  have HMd := hide (show mulD x1 y1 x2 y2 = (val y1 / Nat.gcd (val x2) (val y1)) * (val y2 / Nat.gcd (val x1) (val y2)) from rfl)
  obtain ⟨C, hC⟩ : ∃ C, Nat.gcd (val x1) (val y2) = C := ⟨_, rfl⟩
  obtain ⟨D, hD⟩ : ∃ D, Nat.gcd (val x2) (val y1) = D := ⟨_, rfl⟩
  rw [hC] at HD hGC mC1 HN HMd
  rw [hD] at HD hGD mD1 HN HMd
  obtain ⟨sC, sD, hbd⟩ := unhide HD
  have nzC : limbs C ≠ [] := fun h => by have := (limbs_rep C).val; rw [h] at this; simp [val] at this; omega
  have nzD : limbs D ≠ [] := fun h => by have := (limbs_rep D).val; rw [h] at this; simp [val] at this; omega
  have HBd := hide hbd
  have hBd := hB.trans (hbd.mono hB.size)
  have HQ1 := hide (fun (W : World) (hb : Below wd.heap.size wd W) => (by have K := ratQuotient_any a1 aC n1 c1 mC cC x1 (limbs C) W ((hx1.below hBd).below hb) (sC.below hb) ox1 (limbs_rep C).ok kx1 mC1 nzC; rw [(limbs_rep C).val] at K; exact K : Calls Tryz.prog 56 #[.slice a1 n1 c1, .slice aC mC cC] W fun e w' => OldN W w' a1 n1 c1 (val x1 / C) e))
  have HQ2 := hide (fun (W : World) (hb : Below wd.heap.size wd W) => (by have K := ratQuotient_any a2 aD n2 c2 mD cD x2 (limbs D) W ((hx2.below hBd).below hb) (sD.below hb) ox2 (limbs_rep D).ok kx2 mD1 nzD; rw [(limbs_rep D).val] at K; exact K : Calls Tryz.prog 56 #[.slice a2 n2 c2, .slice aD mD cD] W fun e w' => OldN W w' a2 n2 c2 (val x2 / D) e))
  have HQ3 := hide (fun (W : World) (hb : Below wd.heap.size wd W) => (by have K := ratQuotient_any b1 aD m1 d1 mD cD y1 (limbs D) W ((hy1.below hBd).below hb) (sD.below hb) oy1 (limbs_rep D).ok ky1 mD1 nzD; rw [(limbs_rep D).val] at K; exact K : Calls Tryz.prog 56 #[.slice b1 m1 d1, .slice aD mD cD] W fun e w' => OldN W w' b1 m1 d1 (val y1 / D) e))
  have HQ4 := hide (fun (W : World) (hb : Below wd.heap.size wd W) => (by have K := ratQuotient_any b2 aC m2 d2 mC cC y2 (limbs C) W ((hy2.below hBd).below hb) (sC.below hb) oy2 (limbs_rep C).ok ky2 mC1 nzC; rw [(limbs_rep C).val] at K; exact K : Calls Tryz.prog 56 #[.slice b2 m2 d2, .slice aC mC cC] W fun e w' => OldN W w' b2 m2 d2 (val y2 / C) e))
  have yq1 : MayL (limbs (val x1 / C)) = true := may_div kx1 ox1 _
  have yq2 : MayL (limbs (val x2 / D)) = true := may_div kx2 ox2 _
  have yq3 : MayL (limbs (val y1 / D)) = true := may_div ky1 oy1 _
  have yq4 : MayL (limbs (val y2 / C)) = true := may_div ky2 oy2 _
  have fN : mulL (limbs (val x1 / C)) (limbs (val x2 / D)) = fitL (mulN x1 y1 x2 y2) := by unfold mulL; rw [yq1, yq2, (limbs_rep _).val, (limbs_rep _).val, unhide HN]; rfl
  have fM : mulL (limbs (val y1 / D)) (limbs (val y2 / C)) = fitL (mulD x1 y1 x2 y2) := by unfold mulL; rw [yq3, yq4, (limbs_rep _).val, (limbs_rep _).val, unhide HMd]; rfl
  rw [unhide HhN] at fN
  rw [unhide HhM] at fM
  have HfN := hide fN
  have HfM := hide fM
  have HO := hide (hO.keep hbd)
  have HBw := hide hBd
  obtain ⟨Q1, hQ1⟩ : ∃ Q, val x1 / C = Q := ⟨_, rfl⟩
  obtain ⟨Q2, hQ2⟩ : ∃ Q, val x2 / D = Q := ⟨_, rfl⟩
  obtain ⟨Q3, hQ3⟩ : ∃ Q, val y1 / D = Q := ⟨_, rfl⟩
  obtain ⟨Q4, hQ4⟩ : ∃ Q, val y2 / C = Q := ⟨_, rfl⟩
  rw [hQ1] at HQ1 HfN
  rw [hQ2] at HQ2 HfN
  rw [hQ3] at HQ3 HfM
  rw [hQ4] at HQ4 HfM
  clear hGC hGD mC1 mD1 HN HMd hC hD sC sD hbd nzC nzD hBd yq1 yq2 yq3 yq4 fN fM HhN HhM hQ1 hQ2 hQ3 hQ4 HD HKD1 HKD2 hx1 hy1 hx2 hy2 hT kx1 ky1 kx2 ky2 ey1 ey2 vy1 vy2 ox1 oy1 ox2 oy2 bx bx2 by_ by2 hba hbb hbo hB hO hwa hwb hwo p0 p1 p2 p3 p4 p5 k0 k1 k2 k3 k4 k5
  go_wp2_with fail
  go_region_held3 (fun w' => w'.cell? ⟨w.heap.size, 0, none⟩ = some (.bool g1) ∧ w'.cell? ⟨w.heap.size, 1, none⟩ = some (.slice a1 n1 c1) ∧ w'.cell? ⟨w.heap.size, 2, none⟩ = some (.slice b1 m1 d1) ∧ w'.cell? ⟨wa.heap.size, 0, none⟩ = some (.bool g2) ∧ w'.cell? ⟨wa.heap.size, 1, none⟩ = some (.slice a2 n2 c2) ∧ w'.cell? ⟨wa.heap.size, 2, none⟩ = some (.slice b2 m2 d2)) (first | go_keep | (exact ⟨e0, e1, e2, e3, e4, e5⟩) | (exact ⟨f0, f1, f2, f3, f4, f5⟩) | (exact ⟨q0, q1, q2, q3, q4, q5⟩))
    (first
      | (go_at_call_of 56 (Value.slice a1 n1 c1); refine (unhide HQ1 _ ((Below.refl wd.heap.size wd).drew)).mono ?_; rintro _ we ⟨ae, me, ce, rfl, sE, oE, bE⟩; have hbe : Below wd.heap.size wd we := (Below.refl _ _).drew.trans bE; have e0 := (hbe.cell (p := ⟨w.heap.size, 0, none⟩) (World.block_lt_of_cell? _ _ j0)).trans j0; have e1 := (hbe.cell (p := ⟨w.heap.size, 1, none⟩) (World.block_lt_of_cell? _ _ j1)).trans j1; have e2 := (hbe.cell (p := ⟨w.heap.size, 2, none⟩) (World.block_lt_of_cell? _ _ j2)).trans j2; have e3 := (hbe.cell (p := ⟨wa.heap.size, 0, none⟩) (World.block_lt_of_cell? _ _ j3)).trans j3; have e4 := (hbe.cell (p := ⟨wa.heap.size, 1, none⟩) (World.block_lt_of_cell? _ _ j4)).trans j4; have e5 := (hbe.cell (p := ⟨wa.heap.size, 2, none⟩) (World.block_lt_of_cell? _ _ j5)).trans j5; have He := hide (And.intro sE hbe); clear sE oE bE hbe)
      | (go_at_call_of 56 (Value.slice a2 n2 c2); refine (unhide HQ2 _ ((Below.refl wd.heap.size wd).trans ((unhide He).2.mono (Below.refl wd.heap.size wd).size))).mono ?_; rintro _ wf ⟨af, mf, cf, rfl, sF_, oF, bF⟩; have f0 := (bF.cell (p := ⟨w.heap.size, 0, none⟩) (World.block_lt_of_cell? _ _ e0)).trans e0; have f1 := (bF.cell (p := ⟨w.heap.size, 1, none⟩) (World.block_lt_of_cell? _ _ e1)).trans e1; have f2 := (bF.cell (p := ⟨w.heap.size, 2, none⟩) (World.block_lt_of_cell? _ _ e2)).trans e2; have f3 := (bF.cell (p := ⟨wa.heap.size, 0, none⟩) (World.block_lt_of_cell? _ _ e3)).trans e3; have f4 := (bF.cell (p := ⟨wa.heap.size, 1, none⟩) (World.block_lt_of_cell? _ _ e4)).trans e4; have f5 := (bF.cell (p := ⟨wa.heap.size, 2, none⟩) (World.block_lt_of_cell? _ _ e5)).trans e5; have KM := nmul_any ae af me ce mf cf (limbs Q1) (limbs Q2) wf ((unhide He).1.below bF) sF_ (limbs_rep _).ok (limbs_rep _).ok; rw [unhide HfN] at KM; have HKMf := hide KM; have Hf := hide ((unhide He).2.trans (bF.mono (unhide He).2.size)); clear sF_ oF bF KM)
      | (go_at_call 65; refine (unhide HKMf).mono ?_; rintro _ wq ⟨aq, mq, cq, rfl, sN, nN, bN⟩; have q0 := (bN.cell (p := ⟨w.heap.size, 0, none⟩) (World.block_lt_of_cell? _ _ f0)).trans f0; have q1 := (bN.cell (p := ⟨w.heap.size, 1, none⟩) (World.block_lt_of_cell? _ _ f1)).trans f1; have q2 := (bN.cell (p := ⟨w.heap.size, 2, none⟩) (World.block_lt_of_cell? _ _ f2)).trans f2; have q3 := (bN.cell (p := ⟨wa.heap.size, 0, none⟩) (World.block_lt_of_cell? _ _ f3)).trans f3; have q4 := (bN.cell (p := ⟨wa.heap.size, 1, none⟩) (World.block_lt_of_cell? _ _ f4)).trans f4; have q5 := (bN.cell (p := ⟨wa.heap.size, 2, none⟩) (World.block_lt_of_cell? _ _ f5)).trans f5; have Hq := hide (And.intro sN (And.intro nN ((unhide Hf).trans (bN.mono (unhide Hf).size)))); have Hsq := hide (unhide Hf).size; clear sN nN bN))
  clear j0 j1 j2 j3 j4 j5 e0 e1 e2 e3 e4 e5 f0 f1 f2 f3 f4 f5 He Hf HKMf HQ1 HQ2
  go_wp2_with fail
  go_region_held3 (fun w' => w'.cell? ⟨w.heap.size, 0, none⟩ = some (.bool g1) ∧ w'.cell? ⟨w.heap.size, 1, none⟩ = some (.slice a1 n1 c1) ∧ w'.cell? ⟨w.heap.size, 2, none⟩ = some (.slice b1 m1 d1) ∧ w'.cell? ⟨wa.heap.size, 0, none⟩ = some (.bool g2) ∧ w'.cell? ⟨wa.heap.size, 1, none⟩ = some (.slice a2 n2 c2) ∧ w'.cell? ⟨wa.heap.size, 2, none⟩ = some (.slice b2 m2 d2)) (first | go_keep | (exact ⟨u0, u1, u2, u3, u4, u5⟩) | (exact ⟨v0, v1, v2, v3, v4, v5⟩) | (exact ⟨z0, z1, z2, z3, z4, z5⟩))
    (first
      | (go_at_call_of 56 (Value.slice b1 m1 d1); refine (unhide HQ3 _ ((unhide Hq).2.2.drew)).mono ?_; rintro _ wu ⟨au, mu, cu, rfl, sE, oE, bE⟩; have hbe : Below wq.heap.size wq wu := (Below.refl _ _).drew.trans bE; have u0 := (hbe.cell (p := ⟨w.heap.size, 0, none⟩) (World.block_lt_of_cell? _ _ q0)).trans q0; have u1 := (hbe.cell (p := ⟨w.heap.size, 1, none⟩) (World.block_lt_of_cell? _ _ q1)).trans q1; have u2 := (hbe.cell (p := ⟨w.heap.size, 2, none⟩) (World.block_lt_of_cell? _ _ q2)).trans q2; have u3 := (hbe.cell (p := ⟨wa.heap.size, 0, none⟩) (World.block_lt_of_cell? _ _ q3)).trans q3; have u4 := (hbe.cell (p := ⟨wa.heap.size, 1, none⟩) (World.block_lt_of_cell? _ _ q4)).trans q4; have u5 := (hbe.cell (p := ⟨wa.heap.size, 2, none⟩) (World.block_lt_of_cell? _ _ q5)).trans q5; have Hu := hide (And.intro sE hbe); clear sE oE bE hbe)
      | (go_at_call_of 56 (Value.slice b2 m2 d2); refine (unhide HQ4 _ ((unhide Hq).2.2.trans ((unhide Hu).2.mono (unhide Hq).2.2.size))).mono ?_; rintro _ wv ⟨av, mv, cv, rfl, sF_, oF, bF⟩; have v0 := (bF.cell (p := ⟨w.heap.size, 0, none⟩) (World.block_lt_of_cell? _ _ u0)).trans u0; have v1 := (bF.cell (p := ⟨w.heap.size, 1, none⟩) (World.block_lt_of_cell? _ _ u1)).trans u1; have v2 := (bF.cell (p := ⟨w.heap.size, 2, none⟩) (World.block_lt_of_cell? _ _ u2)).trans u2; have v3 := (bF.cell (p := ⟨wa.heap.size, 0, none⟩) (World.block_lt_of_cell? _ _ u3)).trans u3; have v4 := (bF.cell (p := ⟨wa.heap.size, 1, none⟩) (World.block_lt_of_cell? _ _ u4)).trans u4; have v5 := (bF.cell (p := ⟨wa.heap.size, 2, none⟩) (World.block_lt_of_cell? _ _ u5)).trans u5; have KM := nmul_any au av mu cu mv cv (limbs Q3) (limbs Q4) wv ((unhide Hu).1.below bF) sF_ (limbs_rep _).ok (limbs_rep _).ok; rw [unhide HfM] at KM; have HKMv := hide KM; have Hv := hide ((unhide Hu).2.trans (bF.mono (unhide Hu).2.size)); clear sF_ oF bF KM)
      | (go_at_call 65; refine (unhide HKMv).mono ?_; rintro _ wz ⟨az, mz, cz, rfl, sN, nN, bN⟩; have z0 := (bN.cell (p := ⟨w.heap.size, 0, none⟩) (World.block_lt_of_cell? _ _ v0)).trans v0; have z1 := (bN.cell (p := ⟨w.heap.size, 1, none⟩) (World.block_lt_of_cell? _ _ v1)).trans v1; have z2 := (bN.cell (p := ⟨w.heap.size, 2, none⟩) (World.block_lt_of_cell? _ _ v2)).trans v2; have z3 := (bN.cell (p := ⟨wa.heap.size, 0, none⟩) (World.block_lt_of_cell? _ _ v3)).trans v3; have z4 := (bN.cell (p := ⟨wa.heap.size, 1, none⟩) (World.block_lt_of_cell? _ _ v4)).trans v4; have z5 := (bN.cell (p := ⟨wa.heap.size, 2, none⟩) (World.block_lt_of_cell? _ _ v5)).trans v5; have Hz := hide (And.intro sN (And.intro nN ((unhide Hv).trans (bN.mono (unhide Hv).size)))); have Hsz := hide (unhide Hv).size; clear sN nN bN))
  have hwq : w.heap.size ≤ wf.heap.size := Nat.le_trans (unhide HBw).size (unhide Hsq)
  have hbz : Below wq.heap.size wq wz := (unhide Hz).2.2
  have hwz : w.heap.size ≤ wv.heap.size := Nat.le_trans (Nat.le_trans (unhide HBw).size (unhide Hq).2.2.size) (unhide Hsz)
  have hBz := (unhide HBw).trans (((unhide Hq).2.2.trans (hbz.mono (unhide Hq).2.2.size)).mono (unhide HBw).size)
  have hO2 := ((unhide HO).keep (unhide Hq).2.2).keep hbz
  obtain ⟨oc, hoc⟩ := (unhide HO).cells 0 (by decide)
  have hwb9 : wb.heap.size < wd.heap.size := World.block_lt_of_cell? _ _ hoc
  have HY := hide (And.intro (fun x hx => by have h1 := (unhide Hq).2.1 x hx; have h2 := unhide Hsq; omega : ∀ x, aq = some x → x.block ≠ wb.heap.size) (fun x hx => by have h1 := (unhide Hz).2.1 x hx; have h2 := unhide Hsz; have h3 := (unhide Hq).2.2.size; omega : ∀ x, az = some x → x.block ≠ wb.heap.size))
  have HX := hide (And.intro ((unhide Hq).1.below hbz) (And.intro (unhide Hz).1 (And.intro (fun x hx => Nat.le_trans hwq ((unhide Hq).2.1 x hx) : NewAt w.heap.size aq) (And.intro (fun x hx => Nat.le_trans hwz ((unhide Hz).2.1 x hx) : NewAt w.heap.size az) (And.intro hBz hO2)))))
  clear q0 q1 q2 q3 q4 q5 u0 u1 u2 u3 u4 u5 v0 v1 v2 v3 v4 v5 Hu Hv HKMv HQ3 HQ4 hwq hbz hwz hBz hO2 hoc hwb9 Hq Hz Hsq Hsz HfN HfM HBd HBw HO
  cases hbN : bigN N
  · have eN : fitL N = (limbs N, 0) := fitL_ok (by unfold bigN at hbN; simpa using hbN)
    rw [eN] at HX ⊢
    cases hbM : bigN M
    · have eM : fitL M = (limbs M, 0) := fitL_ok (by unfold bigN at hbM; simpa using hbM)
      rw [eM] at HX ⊢
      dsimp only at HX ⊢
      clear eN eM
      have K := answer_any (!(g1 == g2)) aq az mq cq mz cz 0 wz
      unfold AnPost at K
      rw [if_pos rfl] at K
      unfold ratV at K
      obtain ⟨SG, hSG⟩ : ∃ SG, ((!(g1 == g2)) && decide (0 < mq)) = SG := ⟨_, rfl⟩
      rw [hSG] at K
      have HSG := hide hSG
      clear hSG
      have HK := hide K
      have HbN := hide hbN
      have HbM := hide hbM
      clear K hbN hbM
      go_wp2_with fail
      refine (unhide HK).mono ?_
      rintro _ wy ⟨rfl, hby⟩
      have hO3 := (unhide HX).2.2.2.2.2.keep hby
      obtain ⟨i0, o0⟩ := hO3.cells 0 (by decide)
      obtain ⟨i1, o1⟩ := hO3.cells 1 (by decide)
      obtain ⟨i2, o2⟩ := hO3.cells 2 (by decide)
      have r0 := hO3.fz 0 (by decide)
      have r1 := hO3.fz 1 (by decide)
      have r2 := hO3.fz 2 (by decide)
      have H4 := hide (three_set wy wb.heap.size (.bool SG) (.slice aq mq cq) (.slice az mz cz) hO3.cells)
      have HBy := hide hby
      clear hO3 hby HK
      go_wp2_with fail
      obtain ⟨t0, t1, t2, c4⟩ := unhide H4
      generalize ((wy.setCell ⟨wb.heap.size, 0, none⟩ (.bool SG)).setCell ⟨wb.heap.size, 1, none⟩ (.slice aq mq cq)).setCell ⟨wb.heap.size, 2, none⟩ (.slice az mz cz) = wk at *
      refine bodyPost_ret (by simp [results, Tryz.results115, go_sem, t0, t1, t2]; try rfl) rfl ?_
      unfold MuPost
      rw [unhide HbN, unhide HbM]
      have hBy : Below w.heap.size w wy := (unhide HX).2.2.2.2.1.trans ((unhide HBy).mono (unhide HX).2.2.2.2.1.size)
      have hBk : Below w.heap.size w wk := hBy.trans (c4.below hBy.size (fun k hk => by have := unhide Hwb; omega))
      refine ⟨_, rfl, aq, mq, cq, az, mz, cz, ?_, ((unhide HX).1.below (unhide HBy)).chg c4 (fun x hx _ h => (unhide HY).1 x hx h), ((unhide HX).2.1.below (unhide HBy)).chg c4 (fun x hx _ h => (unhide HY).2 x hx h), (unhide HX).2.2.1, (unhide HX).2.2.2.1, hBk⟩
      rw [← unhide HSG]
      show ratV _ aq mq cq az mz cz = ratV _ aq mq cq az mz cz
      refine ratV_congr ?_
      have hl := (unhide HX).1.len
      have e : decide (0 < mq) = decide (N ≠ 0) := by
        rw [Bool.eq_iff_iff]
        simp only [decide_eq_true_eq]
        rw [← hl]
        constructor
        · intro h h0
          rw [h0] at h
          exact absurd h (by decide)
        · intro h
          rcases Nat.eq_zero_or_pos (limbs N).length with k | k
          · exfalso
            have := (limbs_rep N).val
            rw [List.length_eq_zero_iff.1 k] at this
            exact h this.symm
          · exact k
      rw [e]
      rfl
    · have eM : fitL M = ([], 2) := fitL_big (by unfold bigN at hbM; simpa using hbM)
      rw [eM] at HX ⊢
      dsimp only at HX ⊢
      clear eN eM
      have K := answer_any (!(g1 == g2)) aq az mq cq mz cz 2 wz
      unfold AnPost at K
      rw [if_neg (by decide)] at K
      unfold ratV at K
      have HK := hide K
      have HbN := hide hbN
      have HbM := hide hbM
      clear K hbN hbM
      go_wp2_with fail
      refine (unhide HK).mono ?_
      rintro _ wy ⟨rfl, hby⟩
      have hO3 := (unhide HX).2.2.2.2.2.keep hby
      obtain ⟨i0, o0⟩ := hO3.cells 0 (by decide)
      obtain ⟨i1, o1⟩ := hO3.cells 1 (by decide)
      obtain ⟨i2, o2⟩ := hO3.cells 2 (by decide)
      have r0 := hO3.fz 0 (by decide)
      have r1 := hO3.fz 1 (by decide)
      have r2 := hO3.fz 2 (by decide)
      have H4 := hide (three_set wy wb.heap.size (.bool false) (.slice none 0 0) (.slice none 0 0) hO3.cells)
      have HBy := hide hby
      clear hO3 hby HK
      go_wp2_with fail
      obtain ⟨t0, t1, t2, c4⟩ := unhide H4
      generalize ((wy.setCell ⟨wb.heap.size, 0, none⟩ (.bool false)).setCell ⟨wb.heap.size, 1, none⟩ (.slice none 0 0)).setCell ⟨wb.heap.size, 2, none⟩ (.slice none 0 0) = wk at *
      refine bodyPost_ret (by simp [results, Tryz.results115, go_sem, t0, t1, t2]; try rfl) rfl ?_
      unfold MuPost
      rw [unhide HbN, unhide HbM]
      have hBy : Below w.heap.size w wy := (unhide HX).2.2.2.2.1.trans ((unhide HBy).mono (unhide HX).2.2.2.2.1.size)
      have hBk : Below w.heap.size w wk := hBy.trans (c4.below hBy.size (fun k hk => by have := unhide Hwb; omega))
      exact ⟨_, rfl, none, 0, 0, none, 0, 0, rfl, ⟨rfl, Nat.le_refl _, Nat.zero_le _, .inl rfl⟩, ⟨rfl, Nat.le_refl _, Nat.zero_le _, .inl rfl⟩, (fun x hx => by cases hx), (fun x hx => by cases hx), hBk⟩
  · have eN : fitL N = ([], 2) := fitL_big (by unfold bigN at hbN; simpa using hbN)
    rw [eN] at HX ⊢
    cases hbM : bigN M
    · have eM : fitL M = (limbs M, 0) := fitL_ok (by unfold bigN at hbM; simpa using hbM)
      rw [eM] at HX ⊢
      dsimp only at HX ⊢
      clear eN eM
      have K := answer_any (!(g1 == g2)) aq az mq cq mz cz 2 wz
      unfold AnPost at K
      rw [if_neg (by decide)] at K
      unfold ratV at K
      have HK := hide K
      have HbN := hide hbN
      have HbM := hide hbM
      clear K hbN hbM
      go_wp2_with fail
      refine (unhide HK).mono ?_
      rintro _ wy ⟨rfl, hby⟩
      have hO3 := (unhide HX).2.2.2.2.2.keep hby
      obtain ⟨i0, o0⟩ := hO3.cells 0 (by decide)
      obtain ⟨i1, o1⟩ := hO3.cells 1 (by decide)
      obtain ⟨i2, o2⟩ := hO3.cells 2 (by decide)
      have r0 := hO3.fz 0 (by decide)
      have r1 := hO3.fz 1 (by decide)
      have r2 := hO3.fz 2 (by decide)
      have H4 := hide (three_set wy wb.heap.size (.bool false) (.slice none 0 0) (.slice none 0 0) hO3.cells)
      have HBy := hide hby
      clear hO3 hby HK
      go_wp2_with fail
      obtain ⟨t0, t1, t2, c4⟩ := unhide H4
      generalize ((wy.setCell ⟨wb.heap.size, 0, none⟩ (.bool false)).setCell ⟨wb.heap.size, 1, none⟩ (.slice none 0 0)).setCell ⟨wb.heap.size, 2, none⟩ (.slice none 0 0) = wk at *
      refine bodyPost_ret (by simp [results, Tryz.results115, go_sem, t0, t1, t2]; try rfl) rfl ?_
      unfold MuPost
      rw [unhide HbN, unhide HbM]
      have hBy : Below w.heap.size w wy := (unhide HX).2.2.2.2.1.trans ((unhide HBy).mono (unhide HX).2.2.2.2.1.size)
      have hBk : Below w.heap.size w wk := hBy.trans (c4.below hBy.size (fun k hk => by have := unhide Hwb; omega))
      exact ⟨_, rfl, none, 0, 0, none, 0, 0, rfl, ⟨rfl, Nat.le_refl _, Nat.zero_le _, .inl rfl⟩, ⟨rfl, Nat.le_refl _, Nat.zero_le _, .inl rfl⟩, (fun x hx => by cases hx), (fun x hx => by cases hx), hBk⟩
    · have eM : fitL M = ([], 2) := fitL_big (by unfold bigN at hbM; simpa using hbM)
      rw [eM] at HX ⊢
      dsimp only at HX ⊢
      clear eN eM
      have K := answer_any (!(g1 == g2)) aq az mq cq mz cz 2 wz
      unfold AnPost at K
      rw [if_neg (by decide)] at K
      unfold ratV at K
      have HK := hide K
      have HbN := hide hbN
      have HbM := hide hbM
      clear K hbN hbM
      go_wp2_with fail
      refine (unhide HK).mono ?_
      rintro _ wy ⟨rfl, hby⟩
      have hO3 := (unhide HX).2.2.2.2.2.keep hby
      obtain ⟨i0, o0⟩ := hO3.cells 0 (by decide)
      obtain ⟨i1, o1⟩ := hO3.cells 1 (by decide)
      obtain ⟨i2, o2⟩ := hO3.cells 2 (by decide)
      have r0 := hO3.fz 0 (by decide)
      have r1 := hO3.fz 1 (by decide)
      have r2 := hO3.fz 2 (by decide)
      have H4 := hide (three_set wy wb.heap.size (.bool false) (.slice none 0 0) (.slice none 0 0) hO3.cells)
      have HBy := hide hby
      clear hO3 hby HK
      go_wp2_with fail
      obtain ⟨t0, t1, t2, c4⟩ := unhide H4
      generalize ((wy.setCell ⟨wb.heap.size, 0, none⟩ (.bool false)).setCell ⟨wb.heap.size, 1, none⟩ (.slice none 0 0)).setCell ⟨wb.heap.size, 2, none⟩ (.slice none 0 0) = wk at *
      refine bodyPost_ret (by simp [results, Tryz.results115, go_sem, t0, t1, t2]; try rfl) rfl ?_
      unfold MuPost
      rw [unhide HbN, unhide HbM]
      have hBy : Below w.heap.size w wy := (unhide HX).2.2.2.2.1.trans ((unhide HBy).mono (unhide HX).2.2.2.2.1.size)
      have hBk : Below w.heap.size w wk := hBy.trans (c4.below hBy.size (fun k hk => by have := unhide Hwb; omega))
      exact ⟨_, rfl, none, 0, 0, none, 0, 0, rfl, ⟨rfl, Nat.le_refl _, Nat.zero_le _, .inl rfl⟩, ⟨rfl, Nat.le_refl _, Nat.zero_le _, .inl rfl⟩, (fun x hx => by cases hx), (fun x hx => by cases hx), hBk⟩
end Go.Proofs.YtcfefobgmhhfkaaGreatDoor
