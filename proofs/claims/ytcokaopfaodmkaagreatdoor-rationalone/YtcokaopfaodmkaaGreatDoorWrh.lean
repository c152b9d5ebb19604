/-
  sloperef2: plus: contract.
-/
import Derived.Test.YtcokaopfaodmkaaGreatDoorWrf
import Derived.Test.YtcokaopfaodmkaaGreatDoorWic
namespace Go.Proofs.YtcokaopfaodmkaaGreatDoor
open Go.RowKit Go.Deep
set_option linter.unusedVariables false

theorem add_len {X Y k : Nat} (h1 : (limbs X).length ≤ k) (h2 : (limbs Y).length ≤ k) : (limbs (X + Y)).length ≤ k + 1 := by
  refine limbs_len ?_
  have a1 := limbs_lt X
  have a2 := limbs_lt Y
  have h3 : 4294967296 ^ (limbs X).length ≤ 4294967296 ^ k := Nat.pow_le_pow_right (by decide) h1
  have h4 : 4294967296 ^ (limbs Y).length ≤ 4294967296 ^ k := Nat.pow_le_pow_right (by decide) h2
  rw [Nat.pow_succ]
  generalize 4294967296 ^ k = T at *
  omega

set_option maxRecDepth 100000 in
set_option maxHeartbeats 16000000 in
/-- sloperef2.plus. -/
theorem wplus_any (g1 g2 : Bool) (a1 b1 a2 b2 : Option Addr) (n1 c1 m1 d1 n2 c2 m2 d2 : Nat) (x1 y1 x2 y2 : List Nat) (w : World) (hx1 : Sl w a1 n1 c1 x1) (hy1 : Sl w b1 m1 d1 y1) (hx2 : Sl w a2 n2 c2 x2) (hy2 : Sl w b2 m2 d2 y2) (ox1 : Ok x1) (oy1 : Ok y1) (ox2 : Ok x2) (oy2 : Ok y2) (nx1 : Norm x1) (ny1 : Norm y1) (nx2 : Norm x2) (ny2 : Norm y2) (ey1 : y1 ≠ []) (ey2 : y2 ≠ []) (s1 : n1 ≤ 1000000) (s2 : m1 ≤ 1000000) (s3 : n2 ≤ 1000000) (s4 : m2 ≤ 1000000) :
    Calls Tryz.prog 93 #[ratV g1 a1 n1 c1 b1 m1 d1, ratV g2 a2 n2 c2 b2 m2 d2] w fun e w' => ResF w w' (lowF (cmbV g1 (val x1 * val y2) g2 (val x2 * val y1)).2 (cmbV g1 (val x1 * val y2) g2 (val x2 * val y1)).1 (val y1 * val y2)) e := by
  obtain ⟨⟨⟨SG, LN, LD⟩, ER⟩, hFF⟩ : ∃ r, lowF (cmbV g1 (val x1 * val y2) g2 (val x2 * val y1)).2 (cmbV g1 (val x1 * val y2) g2 (val x2 * val y1)).1 (val y1 * val y2) = r := ⟨_, rfl⟩
  rw [hFF]
  unfold ResF
  dsimp only
  have bx := Box.made w g1 a1 n1 c1 b1 m1 d1
  obtain ⟨wa, hwa⟩ : ∃ wa, ratBox w g1 a1 n1 c1 b1 m1 d1 = wa := ⟨_, rfl⟩
  rw [hwa] at bx
  have by_ := Box.made wa g2 a2 n2 c2 b2 m2 d2
  obtain ⟨wb, hwb⟩ : ∃ wb, ratBox wa g2 a2 n2 c2 b2 m2 d2 = wb := ⟨_, rfl⟩
  rw [hwb] at by_
  have hba : Below w.heap.size w wa := by rw [← hwa]; exact (Below.refl _ _).alloc (Nat.le_refl _) _
  have hbb : Below wa.heap.size wa wb := by rw [← hwb]; exact (Below.refl _ _).alloc (Nat.le_refl _) _
  unfold ratBox at hwa hwb
  obtain ⟨wo, hwo⟩ : ∃ x, wb.alloc (.cells #[.bool false, .slice none 0 0, .slice none 0 0] 25) = x := ⟨_, rfl⟩
  have hbo : Below wb.heap.size wb wo := by rw [← hwo]; exact (Below.refl _ _).alloc (Nat.le_refl _) _
  have hO : Out wo wb.heap.size := by rw [← hwo]; exact Out.made wb
  have bx2 := (bx.keep hbb).keep hbo
  have by2 := by_.keep hbo
  have hB := (hba.trans (hbb.mono hba.size)).trans (hbo.mono (Nat.le_trans hba.size hbb.size))
  have hRw : w.heap.size ≤ wb.heap.size := Nat.le_trans hba.size hbb.size
  have hlab : w.heap.size ≠ wa.heap.size := by have := bx.lt; omega
  have hlab2 : w.heap.size < wb.heap.size := Nat.lt_of_lt_of_le bx.lt hbb.size
  have hlab3 : wa.heap.size < wb.heap.size := by_.lt
  have hne1 : w.heap.size ≠ wb.heap.size := by omega
  have hne2 : wa.heap.size ≠ wb.heap.size := by omega
  have hne3 : wb.heap.size ≠ w.heap.size := by omega
  have hne4 : wb.heap.size ≠ wa.heap.size := by omega
  have p0 := bx2.d0
  have p1 := bx2.d1
  have p2 := bx2.d2
  have p3 := by2.d0
  have p4 := by2.d1
  have p5 := by2.d2

  have HRw := hide hRw
  have HO := hide hO
  have HBo := hide hB
  have HB_0 := hide (Below.refl wo.heap.size wo)
  have HM1 := hide (fun (W : World) (hb : Below wo.heap.size wo W) => wmulw_any a1 b2 n1 c1 m2 d2 x1 y2 W ((hx1.below hB).below hb) ((hy2.below hB).below hb) ox1 oy2 (by omega))
  have HM2 := hide (fun (W : World) (hb : Below wo.heap.size wo W) => wmulw_any a2 b1 n2 c2 m1 d1 x2 y1 W ((hx2.below hB).below hb) ((hy1.below hB).below hb) ox2 oy1 (by omega))
  have HM3 := hide (fun (W : World) (hb : Below wo.heap.size wo W) => wmulw_any b1 b2 m1 d1 m2 d2 y1 y2 W ((hy1.below hB).below hb) ((hy2.below hB).below hb) oy1 oy2 (by omega))
  have HYP := hide (Nat.mul_pos (Nat.pos_of_ne_zero (val_ne ny1 ey1)) (Nat.pos_of_ne_zero (val_ne ny2 ey2)))
  have HL1 := hide (mul_len ox1 oy2)
  have HL2 := hide (mul_len ox2 oy1)
  have HL3 := hide (mul_len oy1 oy2)
  have HLN := hide (And.intro hx1.len (And.intro hy1.len (And.intro hx2.len hy2.len)))
  clear hx1 hy1 hx2 hy2 bx by_ bx2 by2 hba hbb hbo hB hO ey1 ey2 nx1 ny1 nx2 ny2
  obtain ⟨XX, hXX⟩ : ∃ r, val x1 * val y2 = r := ⟨_, rfl⟩
  obtain ⟨YY, hYY⟩ : ∃ r, val x2 * val y1 = r := ⟨_, rfl⟩
  obtain ⟨DD, hDD⟩ : ∃ r, val y1 * val y2 = r := ⟨_, rfl⟩
  rw [hXX] at HM1 HL1 hFF
  rw [hYY] at HM2 HL2 hFF
  rw [hDD] at HM3 HL3 HYP hFF
  have HBX := hide (show (limbs XX).length ≤ 2000000 by have := unhide HL1; have := unhide HLN; omega)
  have HBY := hide (show (limbs YY).length ≤ 2000000 by have := unhide HL2; have := unhide HLN; omega)
  have HBD := hide (show (limbs DD).length ≤ 2000000 by have := unhide HL3; have := unhide HLN; omega)
  clear hXX hYY hDD HL1 HL2 HL3 HLN
  unfold ratV
  have hSum : g1 = g2 → lowF g1 (XX + YY) DD = ((SG, LN, LD), ER) := fun h => by rw [← hFF]; unfold cmbV; rw [if_pos h]
  have hDif : g1 ≠ g2 → YY ≤ XX → lowF g1 (XX - YY) DD = ((SG, LN, LD), ER) := fun h h' => by rw [← hFF]; unfold cmbV; rw [if_neg h, if_neg (by omega)]
  have hDif2 : g1 ≠ g2 → XX < YY → lowF g2 (YY - XX) DD = ((SG, LN, LD), ER) := fun h h' => by rw [← hFF]; unfold cmbV; rw [if_neg h, if_pos h']
  have HSum := hide hSum
  have HDif := hide hDif
  have HDif2 := hide hDif2
  clear hFF hSum hDif hDif2
  by_cases hg : g1 = g2
  · have tg : (g1 == g2) = true := by simp [hg]
    have HR := hide (unhide HSum hg)
    clear hg HSum HDif HDif2
    go_enter Tryz.func93, Tryz.ntmps93
    go_wp2_with fail
    refine (unhide HM1 _ (unhide HB_0)).mono ?_
    rintro _ w1 ⟨aX, mX, cX, rfl, s_, n_, h_, b_⟩
    have e0 := (b_.cell (p := ⟨w.heap.size, 0, none⟩) (World.block_lt_of_cell? _ _ p0)).trans p0
    have e1 := (b_.cell (p := ⟨w.heap.size, 1, none⟩) (World.block_lt_of_cell? _ _ p1)).trans p1
    have e2 := (b_.cell (p := ⟨w.heap.size, 2, none⟩) (World.block_lt_of_cell? _ _ p2)).trans p2
    have e3 := (b_.cell (p := ⟨wa.heap.size, 0, none⟩) (World.block_lt_of_cell? _ _ p3)).trans p3
    have e4 := (b_.cell (p := ⟨wa.heap.size, 1, none⟩) (World.block_lt_of_cell? _ _ p4)).trans p4
    have e5 := (b_.cell (p := ⟨wa.heap.size, 2, none⟩) (World.block_lt_of_cell? _ _ p5)).trans p5
    have HB_1 := hide ((unhide HB_0).trans (b_.mono (unhide HB_0).size))
    have hlX := s_.len
    have SX := hide s_
    have NX := hide h_
    clear s_ n_ h_ b_ HM1 p0 p1 p2 p3 p4 p5
    go_wp2_with fail
    refine (unhide HM2 _ (unhide HB_1)).mono ?_
    rintro _ w2 ⟨aY, mY, cY, rfl, s_, n_, h_, b_⟩
    have h0 := (b_.cell (p := ⟨w.heap.size, 0, none⟩) (World.block_lt_of_cell? _ _ e0)).trans e0
    have h1 := (b_.cell (p := ⟨w.heap.size, 1, none⟩) (World.block_lt_of_cell? _ _ e1)).trans e1
    have h2 := (b_.cell (p := ⟨w.heap.size, 2, none⟩) (World.block_lt_of_cell? _ _ e2)).trans e2
    have h3 := (b_.cell (p := ⟨wa.heap.size, 0, none⟩) (World.block_lt_of_cell? _ _ e3)).trans e3
    have h4 := (b_.cell (p := ⟨wa.heap.size, 1, none⟩) (World.block_lt_of_cell? _ _ e4)).trans e4
    have h5 := (b_.cell (p := ⟨wa.heap.size, 2, none⟩) (World.block_lt_of_cell? _ _ e5)).trans e5
    have HB_2 := hide ((unhide HB_1).trans (b_.mono (unhide HB_1).size))
    have hlY := s_.len
    have SX := hide ((unhide SX).below b_)
    have SY := hide s_
    have NY := hide h_
    clear s_ n_ h_ b_ HM2 e0 e1 e2 e3 e4 e5
    go_wp2_with fail
    refine (unhide HM3 _ (unhide HB_2)).mono ?_
    rintro _ w3 ⟨aD, mD, cD, rfl, s_, n_, h_, b_⟩
    have f0 := (b_.cell (p := ⟨w.heap.size, 0, none⟩) (World.block_lt_of_cell? _ _ h0)).trans h0
    have f1 := (b_.cell (p := ⟨w.heap.size, 1, none⟩) (World.block_lt_of_cell? _ _ h1)).trans h1
    have f2 := (b_.cell (p := ⟨w.heap.size, 2, none⟩) (World.block_lt_of_cell? _ _ h2)).trans h2
    have f3 := (b_.cell (p := ⟨wa.heap.size, 0, none⟩) (World.block_lt_of_cell? _ _ h3)).trans h3
    have f4 := (b_.cell (p := ⟨wa.heap.size, 1, none⟩) (World.block_lt_of_cell? _ _ h4)).trans h4
    have f5 := (b_.cell (p := ⟨wa.heap.size, 2, none⟩) (World.block_lt_of_cell? _ _ h5)).trans h5
    have HB_3 := hide ((unhide HB_2).trans (b_.mono (unhide HB_2).size))
    have hlD := s_.len
    have SX := hide ((unhide SX).below b_)
    have SY := hide ((unhide SY).below b_)
    have SD := hide s_
    have ND := hide h_
    clear s_ n_ h_ b_ HM3 h0 h1 h2 h3 h4 h5
    have KA := waddw_any aX aY mX cX mY cY (limbs XX) (limbs YY)
    have HKA := hide (fun (W : World) (hb : Below w3.heap.size w3 W) => KA W ((unhide SX).below hb) ((unhide SY).below hb) (limbs_ok _) (limbs_ok _) (by have := unhide HBX; omega) (by have := unhide HBY; omega))
    have HBL3 := HB_3
    have hsl : (limbs (XX + YY)).length ≤ 4000001 := by have := add_len (unhide HBX) (unhide HBY); omega
    have HSL := hide hsl
    clear KA hsl
    rw [limbs_v, limbs_v] at HKA
    go_wp2_with fail
    go_region_held3 (fun w' => w'.cell? ⟨w.heap.size, 0, none⟩ = some (.bool g1) ∧ w'.cell? ⟨w.heap.size, 1, none⟩ = some (.slice a1 n1 c1) ∧ w'.cell? ⟨w.heap.size, 2, none⟩ = some (.slice b1 m1 d1) ∧ w'.cell? ⟨wa.heap.size, 0, none⟩ = some (.bool g2) ∧ w'.cell? ⟨wa.heap.size, 1, none⟩ = some (.slice a2 n2 c2) ∧ w'.cell? ⟨wa.heap.size, 2, none⟩ = some (.slice b2 m2 d2)) (first | go_keep | (exact ⟨k0, k1, k2, k3, k4, k5⟩) | (exact ⟨i0, i1, i2, i3, i4, i5⟩))
      (first
        | (go_at_call_of 123 (Value.slice aX mX cX); refine (unhide HKA _ (Below.refl _ _).drew).mono ?_; rintro _ wk ⟨aq, mq, cq, rfl, sq, nq, hq, bl_k⟩; have hb_k : Below w3.heap.size w3 wk := (Below.refl _ _).drew.trans bl_k; have k0 := (hb_k.cell (p := ⟨w.heap.size, 0, none⟩) (World.block_lt_of_cell? _ _ f0)).trans f0; have k1 := (hb_k.cell (p := ⟨w.heap.size, 1, none⟩) (World.block_lt_of_cell? _ _ f1)).trans f1; have k2 := (hb_k.cell (p := ⟨w.heap.size, 2, none⟩) (World.block_lt_of_cell? _ _ f2)).trans f2; have k3 := (hb_k.cell (p := ⟨wa.heap.size, 0, none⟩) (World.block_lt_of_cell? _ _ f3)).trans f3; have k4 := (hb_k.cell (p := ⟨wa.heap.size, 1, none⟩) (World.block_lt_of_cell? _ _ f4)).trans f4; have k5 := (hb_k.cell (p := ⟨wa.heap.size, 2, none⟩) (World.block_lt_of_cell? _ _ f5)).trans f5; have SQ := hide sq; have hlq := sq.len; have SDk := hide ((unhide SD).below hb_k); clear sq nq hq; have HB_k := hide hb_k; clear hb_k bl_k)
        | (go_at_call 24; have KL := wlower_any g1 aq aD mq cq mD cD (limbs (XX + YY)) (limbs DD) wk (unhide SQ) (unhide SDk) (limbs_ok _) (limbs_ok _) (limbs_norm _) (limbs_norm _) (fun e => by have := limbs_eq_nil.1 e; have := unhide HYP; omega) (by have := unhide HSL; omega) (by have := unhide HBD; omega); rw [limbs_v, limbs_v, unhide HR] at KL; unfold ResF at KL; dsimp only at KL; refine KL.mono ?_; clear KL; rintro _ wi ⟨vv, rfl, aN, mN, cN, aE, mE, cE, rfl, sN, sD, nN, nD, bl_i⟩; unfold ratV; have i0 := (bl_i.cell (p := ⟨w.heap.size, 0, none⟩) (World.block_lt_of_cell? _ _ k0)).trans k0; have i1 := (bl_i.cell (p := ⟨w.heap.size, 1, none⟩) (World.block_lt_of_cell? _ _ k1)).trans k1; have i2 := (bl_i.cell (p := ⟨w.heap.size, 2, none⟩) (World.block_lt_of_cell? _ _ k2)).trans k2; have i3 := (bl_i.cell (p := ⟨wa.heap.size, 0, none⟩) (World.block_lt_of_cell? _ _ k3)).trans k3; have i4 := (bl_i.cell (p := ⟨wa.heap.size, 1, none⟩) (World.block_lt_of_cell? _ _ k4)).trans k4; have i5 := (bl_i.cell (p := ⟨wa.heap.size, 2, none⟩) (World.block_lt_of_cell? _ _ k5)).trans k5; have hzz : wb.heap.size + 1 ≤ wk.heap.size := Nat.le_trans (unhide HO).lt (Nat.le_trans (unhide HBL3).size (unhide HB_k).size); have HS3 := hide (And.intro sN (And.intro (show NewAt (wb.heap.size + 1) aN from fun x hx => Nat.le_trans hzz (nN x hx)) (And.intro sD (show NewAt (wb.heap.size + 1) aE from fun x hx => Nat.le_trans hzz (nD x hx))))); have hb_i := (unhide HB_k).trans (bl_i.mono (unhide HB_k).size); have HB_i := hide hb_i; have hO3 := (unhide HO).keep ((unhide HBL3).trans (hb_i.mono (unhide HBL3).size)); obtain ⟨x0, q0⟩ := hO3.cells 0 (by decide); obtain ⟨x1', q1⟩ := hO3.cells 1 (by decide); obtain ⟨x2', q2⟩ := hO3.cells 2 (by decide); have r0 := hO3.fz 0 (by decide); have r1 := hO3.fz 1 (by decide); have r2 := hO3.fz 2 (by decide); have HO3 := hide hO3; clear sN sD nN nD bl_i hb_i hO3))
    have H4 := hide (three_set wi wb.heap.size (.bool SG) (.slice aN mN cN) (.slice aE mE cE) (unhide HO3).cells)
    have HB3 := hide ((unhide HBo).trans (((unhide HBL3).trans ((unhide HB_i).mono (unhide HBL3).size)).mono (unhide HBo).size))
    clear q0 q1 q2 r0 r1 r2
    try go_wp2_with fail
    obtain ⟨t0, t1, t2, c4⟩ := unhide H4
    generalize ((wi.setCell ⟨wb.heap.size, 0, none⟩ (.bool SG)).setCell ⟨wb.heap.size, 1, none⟩ (.slice aN mN cN)).setCell ⟨wb.heap.size, 2, none⟩ (.slice aE mE cE) = wf at *
    refine bodyPost_ret (by simp [results, Tryz.results93, go_sem, t0, t1, t2]; try rfl) rfl ?_
    obtain ⟨sN, nN, sD, nD⟩ := unhide HS3
    exact ⟨_, rfl, newR_of (unhide HRw) (unhide HO3).lt (unhide HB3) sN nN sD nD c4 SG⟩
  · have tg : (g1 == g2) = false := by simp [hg]
    have HBL3 := HB_0
    clear HBL3 HSum
    by_cases hc : XX < YY
    · have HR := hide (unhide HDif2 hg hc)
      have hcg : cmpN XX YY < 0 := by rw [cmpN_lt hc]; decide
      have hle : XX ≤ YY := Nat.le_of_lt hc
      have hcg2 : ¬ (0:Int) ≤ cmpN XX YY := by omega
      clear hg HDif HDif2
      go_enter Tryz.func93, Tryz.ntmps93
      go_wp2_with fail
      refine (unhide HM1 _ (unhide HB_0)).mono ?_
      rintro _ w1 ⟨aX, mX, cX, rfl, s_, n_, h_, b_⟩
      have e0 := (b_.cell (p := ⟨w.heap.size, 0, none⟩) (World.block_lt_of_cell? _ _ p0)).trans p0
      have e1 := (b_.cell (p := ⟨w.heap.size, 1, none⟩) (World.block_lt_of_cell? _ _ p1)).trans p1
      have e2 := (b_.cell (p := ⟨w.heap.size, 2, none⟩) (World.block_lt_of_cell? _ _ p2)).trans p2
      have e3 := (b_.cell (p := ⟨wa.heap.size, 0, none⟩) (World.block_lt_of_cell? _ _ p3)).trans p3
      have e4 := (b_.cell (p := ⟨wa.heap.size, 1, none⟩) (World.block_lt_of_cell? _ _ p4)).trans p4
      have e5 := (b_.cell (p := ⟨wa.heap.size, 2, none⟩) (World.block_lt_of_cell? _ _ p5)).trans p5
      have HB_1 := hide ((unhide HB_0).trans (b_.mono (unhide HB_0).size))
      have hlX := s_.len
      have SX := hide s_
      have NX := hide h_
      clear s_ n_ h_ b_ HM1 p0 p1 p2 p3 p4 p5
      go_wp2_with fail
      refine (unhide HM2 _ (unhide HB_1)).mono ?_
      rintro _ w2 ⟨aY, mY, cY, rfl, s_, n_, h_, b_⟩
      have h0 := (b_.cell (p := ⟨w.heap.size, 0, none⟩) (World.block_lt_of_cell? _ _ e0)).trans e0
      have h1 := (b_.cell (p := ⟨w.heap.size, 1, none⟩) (World.block_lt_of_cell? _ _ e1)).trans e1
      have h2 := (b_.cell (p := ⟨w.heap.size, 2, none⟩) (World.block_lt_of_cell? _ _ e2)).trans e2
      have h3 := (b_.cell (p := ⟨wa.heap.size, 0, none⟩) (World.block_lt_of_cell? _ _ e3)).trans e3
      have h4 := (b_.cell (p := ⟨wa.heap.size, 1, none⟩) (World.block_lt_of_cell? _ _ e4)).trans e4
      have h5 := (b_.cell (p := ⟨wa.heap.size, 2, none⟩) (World.block_lt_of_cell? _ _ e5)).trans e5
      have HB_2 := hide ((unhide HB_1).trans (b_.mono (unhide HB_1).size))
      have hlY := s_.len
      have SX := hide ((unhide SX).below b_)
      have SY := hide s_
      have NY := hide h_
      clear s_ n_ h_ b_ HM2 e0 e1 e2 e3 e4 e5
      go_wp2_with fail
      refine (unhide HM3 _ (unhide HB_2)).mono ?_
      rintro _ w3 ⟨aD, mD, cD, rfl, s_, n_, h_, b_⟩
      have f0 := (b_.cell (p := ⟨w.heap.size, 0, none⟩) (World.block_lt_of_cell? _ _ h0)).trans h0
      have f1 := (b_.cell (p := ⟨w.heap.size, 1, none⟩) (World.block_lt_of_cell? _ _ h1)).trans h1
      have f2 := (b_.cell (p := ⟨w.heap.size, 2, none⟩) (World.block_lt_of_cell? _ _ h2)).trans h2
      have f3 := (b_.cell (p := ⟨wa.heap.size, 0, none⟩) (World.block_lt_of_cell? _ _ h3)).trans h3
      have f4 := (b_.cell (p := ⟨wa.heap.size, 1, none⟩) (World.block_lt_of_cell? _ _ h4)).trans h4
      have f5 := (b_.cell (p := ⟨wa.heap.size, 2, none⟩) (World.block_lt_of_cell? _ _ h5)).trans h5
      have HB_3 := hide ((unhide HB_2).trans (b_.mono (unhide HB_2).size))
      have hlD := s_.len
      have SX := hide ((unhide SX).below b_)
      have SY := hide ((unhide SY).below b_)
      have SD := hide s_
      have ND := hide h_
      clear s_ n_ h_ b_ HM3 h0 h1 h2 h3 h4 h5
      have KC := wcmp_any aX aY mX cX mY cY (limbs XX) (limbs YY) w3 (unhide SX) (unhide SY) (limbs_ok _) (limbs_ok _) (limbs_norm _) (limbs_norm _) (by have := unhide HBX; omega) (by have := unhide HBY; omega)
      rw [limbs_v, limbs_v] at KC
      have HKC := hide KC
      clear KC hc
      generalize cmpN XX YY = cc at *
      go_wp2_with fail
      refine (unhide HKC).mono ?_
      rintro _ w4 ⟨rfl, jj, hw4⟩
      have b_ : Below w3.heap.size w3 w4 := by rw [hw4]; exact bel_drewN (Below.refl _ _) jj
      have u0 := (b_.cell (p := ⟨w.heap.size, 0, none⟩) (World.block_lt_of_cell? _ _ f0)).trans f0
      have u1 := (b_.cell (p := ⟨w.heap.size, 1, none⟩) (World.block_lt_of_cell? _ _ f1)).trans f1
      have u2 := (b_.cell (p := ⟨w.heap.size, 2, none⟩) (World.block_lt_of_cell? _ _ f2)).trans f2
      have u3 := (b_.cell (p := ⟨wa.heap.size, 0, none⟩) (World.block_lt_of_cell? _ _ f3)).trans f3
      have u4 := (b_.cell (p := ⟨wa.heap.size, 1, none⟩) (World.block_lt_of_cell? _ _ f4)).trans f4
      have u5 := (b_.cell (p := ⟨wa.heap.size, 2, none⟩) (World.block_lt_of_cell? _ _ f5)).trans f5
      have HB_4 := hide ((unhide HB_3).trans (b_.mono (unhide HB_3).size))
      have SX := hide ((unhide SX).below b_)
      have SY := hide ((unhide SY).below b_)
      have SD := hide ((unhide SD).below b_)
      clear b_ hw4 HKC f0 f1 f2 f3 f4 f5
      have KA := wsubw_any aY aX mY cY mX cX (limbs YY) (limbs XX)
      have HKA := hide (fun (W : World) (hb : Below w4.heap.size w4 W) => KA W ((unhide SY).below hb) (unhide NY) ((unhide SX).below hb) (limbs_ok _) (limbs_ok _) (by have := unhide HBY; omega) (by have := limbs_mono hle; omega) (by rw [limbs_v, limbs_v]; exact hle))
      have HBL3 := HB_4
      have HSL := hide (show (limbs (YY - XX)).length ≤ 4000001 by have h1 := limbs_mono (show YY - XX ≤ YY by omega); have := unhide HBY; omega)
      clear KA
      rw [limbs_v, limbs_v] at HKA
      go_wp2_with fail
      go_region_held3 (fun w' => w'.cell? ⟨w.heap.size, 0, none⟩ = some (.bool g1) ∧ w'.cell? ⟨w.heap.size, 1, none⟩ = some (.slice a1 n1 c1) ∧ w'.cell? ⟨w.heap.size, 2, none⟩ = some (.slice b1 m1 d1) ∧ w'.cell? ⟨wa.heap.size, 0, none⟩ = some (.bool g2) ∧ w'.cell? ⟨wa.heap.size, 1, none⟩ = some (.slice a2 n2 c2) ∧ w'.cell? ⟨wa.heap.size, 2, none⟩ = some (.slice b2 m2 d2)) (first | go_keep | (exact ⟨k0, k1, k2, k3, k4, k5⟩) | (exact ⟨i0, i1, i2, i3, i4, i5⟩))
        (first
          | (go_at_call_of 124 (Value.slice aY mY cY); refine (unhide HKA _ (Below.refl _ _).drew).mono ?_; rintro _ wk ⟨aq, mq, cq, rfl, sq, nq, hq, bl_k⟩; have hb_k : Below w4.heap.size w4 wk := (Below.refl _ _).drew.trans bl_k; have k0 := (hb_k.cell (p := ⟨w.heap.size, 0, none⟩) (World.block_lt_of_cell? _ _ u0)).trans u0; have k1 := (hb_k.cell (p := ⟨w.heap.size, 1, none⟩) (World.block_lt_of_cell? _ _ u1)).trans u1; have k2 := (hb_k.cell (p := ⟨w.heap.size, 2, none⟩) (World.block_lt_of_cell? _ _ u2)).trans u2; have k3 := (hb_k.cell (p := ⟨wa.heap.size, 0, none⟩) (World.block_lt_of_cell? _ _ u3)).trans u3; have k4 := (hb_k.cell (p := ⟨wa.heap.size, 1, none⟩) (World.block_lt_of_cell? _ _ u4)).trans u4; have k5 := (hb_k.cell (p := ⟨wa.heap.size, 2, none⟩) (World.block_lt_of_cell? _ _ u5)).trans u5; have SQ := hide sq; have hlq := sq.len; have SDk := hide ((unhide SD).below hb_k); clear sq nq hq; have HB_k := hide hb_k; clear hb_k bl_k)
          | (go_at_call 24; have KL := wlower_any g2 aq aD mq cq mD cD (limbs (YY - XX)) (limbs DD) wk (unhide SQ) (unhide SDk) (limbs_ok _) (limbs_ok _) (limbs_norm _) (limbs_norm _) (fun e => by have := limbs_eq_nil.1 e; have := unhide HYP; omega) (by have := unhide HSL; omega) (by have := unhide HBD; omega); rw [limbs_v, limbs_v, unhide HR] at KL; unfold ResF at KL; dsimp only at KL; refine KL.mono ?_; clear KL; rintro _ wi ⟨vv, rfl, aN, mN, cN, aE, mE, cE, rfl, sN, sD, nN, nD, bl_i⟩; unfold ratV; have i0 := (bl_i.cell (p := ⟨w.heap.size, 0, none⟩) (World.block_lt_of_cell? _ _ k0)).trans k0; have i1 := (bl_i.cell (p := ⟨w.heap.size, 1, none⟩) (World.block_lt_of_cell? _ _ k1)).trans k1; have i2 := (bl_i.cell (p := ⟨w.heap.size, 2, none⟩) (World.block_lt_of_cell? _ _ k2)).trans k2; have i3 := (bl_i.cell (p := ⟨wa.heap.size, 0, none⟩) (World.block_lt_of_cell? _ _ k3)).trans k3; have i4 := (bl_i.cell (p := ⟨wa.heap.size, 1, none⟩) (World.block_lt_of_cell? _ _ k4)).trans k4; have i5 := (bl_i.cell (p := ⟨wa.heap.size, 2, none⟩) (World.block_lt_of_cell? _ _ k5)).trans k5; have hzz : wb.heap.size + 1 ≤ wk.heap.size := Nat.le_trans (unhide HO).lt (Nat.le_trans (unhide HBL3).size (unhide HB_k).size); have HS3 := hide (And.intro sN (And.intro (show NewAt (wb.heap.size + 1) aN from fun x hx => Nat.le_trans hzz (nN x hx)) (And.intro sD (show NewAt (wb.heap.size + 1) aE from fun x hx => Nat.le_trans hzz (nD x hx))))); have hb_i := (unhide HB_k).trans (bl_i.mono (unhide HB_k).size); have HB_i := hide hb_i; have hO3 := (unhide HO).keep ((unhide HBL3).trans (hb_i.mono (unhide HBL3).size)); obtain ⟨x0, q0⟩ := hO3.cells 0 (by decide); obtain ⟨x1', q1⟩ := hO3.cells 1 (by decide); obtain ⟨x2', q2⟩ := hO3.cells 2 (by decide); have r0 := hO3.fz 0 (by decide); have r1 := hO3.fz 1 (by decide); have r2 := hO3.fz 2 (by decide); have HO3 := hide hO3; clear sN sD nN nD bl_i hb_i hO3))
      have H4 := hide (three_set wi wb.heap.size (.bool SG) (.slice aN mN cN) (.slice aE mE cE) (unhide HO3).cells)
      have HB3 := hide ((unhide HBo).trans (((unhide HBL3).trans ((unhide HB_i).mono (unhide HBL3).size)).mono (unhide HBo).size))
      clear q0 q1 q2 r0 r1 r2
      try go_wp2_with fail
      obtain ⟨t0, t1, t2, c4⟩ := unhide H4
      generalize ((wi.setCell ⟨wb.heap.size, 0, none⟩ (.bool SG)).setCell ⟨wb.heap.size, 1, none⟩ (.slice aN mN cN)).setCell ⟨wb.heap.size, 2, none⟩ (.slice aE mE cE) = wf at *
      refine bodyPost_ret (by simp [results, Tryz.results93, go_sem, t0, t1, t2]; try rfl) rfl ?_
      obtain ⟨sN, nN, sD, nD⟩ := unhide HS3
      exact ⟨_, rfl, newR_of (unhide HRw) (unhide HO3).lt (unhide HB3) sN nN sD nD c4 SG⟩
    · have HR := hide (unhide HDif hg (by omega))
      have hcg : (0:Int) ≤ cmpN XX YY := by unfold cmpN; rw [if_neg hc]; split <;> omega
      have hle : YY ≤ XX := by omega
      clear hg HDif HDif2
      go_enter Tryz.func93, Tryz.ntmps93
      go_wp2_with fail
      refine (unhide HM1 _ (unhide HB_0)).mono ?_
      rintro _ w1 ⟨aX, mX, cX, rfl, s_, n_, h_, b_⟩
      have e0 := (b_.cell (p := ⟨w.heap.size, 0, none⟩) (World.block_lt_of_cell? _ _ p0)).trans p0
      have e1 := (b_.cell (p := ⟨w.heap.size, 1, none⟩) (World.block_lt_of_cell? _ _ p1)).trans p1
      have e2 := (b_.cell (p := ⟨w.heap.size, 2, none⟩) (World.block_lt_of_cell? _ _ p2)).trans p2
      have e3 := (b_.cell (p := ⟨wa.heap.size, 0, none⟩) (World.block_lt_of_cell? _ _ p3)).trans p3
      have e4 := (b_.cell (p := ⟨wa.heap.size, 1, none⟩) (World.block_lt_of_cell? _ _ p4)).trans p4
      have e5 := (b_.cell (p := ⟨wa.heap.size, 2, none⟩) (World.block_lt_of_cell? _ _ p5)).trans p5
      have HB_1 := hide ((unhide HB_0).trans (b_.mono (unhide HB_0).size))
      have hlX := s_.len
      have SX := hide s_
      have NX := hide h_
      clear s_ n_ h_ b_ HM1 p0 p1 p2 p3 p4 p5
      go_wp2_with fail
      refine (unhide HM2 _ (unhide HB_1)).mono ?_
      rintro _ w2 ⟨aY, mY, cY, rfl, s_, n_, h_, b_⟩
      have h0 := (b_.cell (p := ⟨w.heap.size, 0, none⟩) (World.block_lt_of_cell? _ _ e0)).trans e0
      have h1 := (b_.cell (p := ⟨w.heap.size, 1, none⟩) (World.block_lt_of_cell? _ _ e1)).trans e1
      have h2 := (b_.cell (p := ⟨w.heap.size, 2, none⟩) (World.block_lt_of_cell? _ _ e2)).trans e2
      have h3 := (b_.cell (p := ⟨wa.heap.size, 0, none⟩) (World.block_lt_of_cell? _ _ e3)).trans e3
      have h4 := (b_.cell (p := ⟨wa.heap.size, 1, none⟩) (World.block_lt_of_cell? _ _ e4)).trans e4
      have h5 := (b_.cell (p := ⟨wa.heap.size, 2, none⟩) (World.block_lt_of_cell? _ _ e5)).trans e5
      have HB_2 := hide ((unhide HB_1).trans (b_.mono (unhide HB_1).size))
      have hlY := s_.len
      have SX := hide ((unhide SX).below b_)
      have SY := hide s_
      have NY := hide h_
      clear s_ n_ h_ b_ HM2 e0 e1 e2 e3 e4 e5
      go_wp2_with fail
      refine (unhide HM3 _ (unhide HB_2)).mono ?_
      rintro _ w3 ⟨aD, mD, cD, rfl, s_, n_, h_, b_⟩
      have f0 := (b_.cell (p := ⟨w.heap.size, 0, none⟩) (World.block_lt_of_cell? _ _ h0)).trans h0
      have f1 := (b_.cell (p := ⟨w.heap.size, 1, none⟩) (World.block_lt_of_cell? _ _ h1)).trans h1
      have f2 := (b_.cell (p := ⟨w.heap.size, 2, none⟩) (World.block_lt_of_cell? _ _ h2)).trans h2
      have f3 := (b_.cell (p := ⟨wa.heap.size, 0, none⟩) (World.block_lt_of_cell? _ _ h3)).trans h3
      have f4 := (b_.cell (p := ⟨wa.heap.size, 1, none⟩) (World.block_lt_of_cell? _ _ h4)).trans h4
      have f5 := (b_.cell (p := ⟨wa.heap.size, 2, none⟩) (World.block_lt_of_cell? _ _ h5)).trans h5
      have HB_3 := hide ((unhide HB_2).trans (b_.mono (unhide HB_2).size))
      have hlD := s_.len
      have SX := hide ((unhide SX).below b_)
      have SY := hide ((unhide SY).below b_)
      have SD := hide s_
      have ND := hide h_
      clear s_ n_ h_ b_ HM3 h0 h1 h2 h3 h4 h5
      have KC := wcmp_any aX aY mX cX mY cY (limbs XX) (limbs YY) w3 (unhide SX) (unhide SY) (limbs_ok _) (limbs_ok _) (limbs_norm _) (limbs_norm _) (by have := unhide HBX; omega) (by have := unhide HBY; omega)
      rw [limbs_v, limbs_v] at KC
      have HKC := hide KC
      clear KC hc
      generalize cmpN XX YY = cc at *
      go_wp2_with fail
      refine (unhide HKC).mono ?_
      rintro _ w4 ⟨rfl, jj, hw4⟩
      have b_ : Below w3.heap.size w3 w4 := by rw [hw4]; exact bel_drewN (Below.refl _ _) jj
      have u0 := (b_.cell (p := ⟨w.heap.size, 0, none⟩) (World.block_lt_of_cell? _ _ f0)).trans f0
      have u1 := (b_.cell (p := ⟨w.heap.size, 1, none⟩) (World.block_lt_of_cell? _ _ f1)).trans f1
      have u2 := (b_.cell (p := ⟨w.heap.size, 2, none⟩) (World.block_lt_of_cell? _ _ f2)).trans f2
      have u3 := (b_.cell (p := ⟨wa.heap.size, 0, none⟩) (World.block_lt_of_cell? _ _ f3)).trans f3
      have u4 := (b_.cell (p := ⟨wa.heap.size, 1, none⟩) (World.block_lt_of_cell? _ _ f4)).trans f4
      have u5 := (b_.cell (p := ⟨wa.heap.size, 2, none⟩) (World.block_lt_of_cell? _ _ f5)).trans f5
      have HB_4 := hide ((unhide HB_3).trans (b_.mono (unhide HB_3).size))
      have SX := hide ((unhide SX).below b_)
      have SY := hide ((unhide SY).below b_)
      have SD := hide ((unhide SD).below b_)
      clear b_ hw4 HKC f0 f1 f2 f3 f4 f5
      have KA := wsubw_any aX aY mX cX mY cY (limbs XX) (limbs YY)
      have HKA := hide (fun (W : World) (hb : Below w4.heap.size w4 W) => KA W ((unhide SX).below hb) (unhide NX) ((unhide SY).below hb) (limbs_ok _) (limbs_ok _) (by have := unhide HBX; omega) (by have := limbs_mono hle; omega) (by rw [limbs_v, limbs_v]; exact hle))
      have HBL3 := HB_4
      have HSL := hide (show (limbs (XX - YY)).length ≤ 4000001 by have h1 := limbs_mono (show XX - YY ≤ XX by omega); have := unhide HBX; omega)
      clear KA
      rw [limbs_v, limbs_v] at HKA
      go_wp2_with fail
      go_region_held3 (fun w' => w'.cell? ⟨w.heap.size, 0, none⟩ = some (.bool g1) ∧ w'.cell? ⟨w.heap.size, 1, none⟩ = some (.slice a1 n1 c1) ∧ w'.cell? ⟨w.heap.size, 2, none⟩ = some (.slice b1 m1 d1) ∧ w'.cell? ⟨wa.heap.size, 0, none⟩ = some (.bool g2) ∧ w'.cell? ⟨wa.heap.size, 1, none⟩ = some (.slice a2 n2 c2) ∧ w'.cell? ⟨wa.heap.size, 2, none⟩ = some (.slice b2 m2 d2)) (first | go_keep | (exact ⟨k0, k1, k2, k3, k4, k5⟩) | (exact ⟨i0, i1, i2, i3, i4, i5⟩))
        (first
          | (go_at_call_of 124 (Value.slice aX mX cX); refine (unhide HKA _ (Below.refl _ _).drew).mono ?_; rintro _ wk ⟨aq, mq, cq, rfl, sq, nq, hq, bl_k⟩; have hb_k : Below w4.heap.size w4 wk := (Below.refl _ _).drew.trans bl_k; have k0 := (hb_k.cell (p := ⟨w.heap.size, 0, none⟩) (World.block_lt_of_cell? _ _ u0)).trans u0; have k1 := (hb_k.cell (p := ⟨w.heap.size, 1, none⟩) (World.block_lt_of_cell? _ _ u1)).trans u1; have k2 := (hb_k.cell (p := ⟨w.heap.size, 2, none⟩) (World.block_lt_of_cell? _ _ u2)).trans u2; have k3 := (hb_k.cell (p := ⟨wa.heap.size, 0, none⟩) (World.block_lt_of_cell? _ _ u3)).trans u3; have k4 := (hb_k.cell (p := ⟨wa.heap.size, 1, none⟩) (World.block_lt_of_cell? _ _ u4)).trans u4; have k5 := (hb_k.cell (p := ⟨wa.heap.size, 2, none⟩) (World.block_lt_of_cell? _ _ u5)).trans u5; have SQ := hide sq; have hlq := sq.len; have SDk := hide ((unhide SD).below hb_k); clear sq nq hq; have HB_k := hide hb_k; clear hb_k bl_k)
          | (go_at_call 24; have KL := wlower_any g1 aq aD mq cq mD cD (limbs (XX - YY)) (limbs DD) wk (unhide SQ) (unhide SDk) (limbs_ok _) (limbs_ok _) (limbs_norm _) (limbs_norm _) (fun e => by have := limbs_eq_nil.1 e; have := unhide HYP; omega) (by have := unhide HSL; omega) (by have := unhide HBD; omega); rw [limbs_v, limbs_v, unhide HR] at KL; unfold ResF at KL; dsimp only at KL; refine KL.mono ?_; clear KL; rintro _ wi ⟨vv, rfl, aN, mN, cN, aE, mE, cE, rfl, sN, sD, nN, nD, bl_i⟩; unfold ratV; have i0 := (bl_i.cell (p := ⟨w.heap.size, 0, none⟩) (World.block_lt_of_cell? _ _ k0)).trans k0; have i1 := (bl_i.cell (p := ⟨w.heap.size, 1, none⟩) (World.block_lt_of_cell? _ _ k1)).trans k1; have i2 := (bl_i.cell (p := ⟨w.heap.size, 2, none⟩) (World.block_lt_of_cell? _ _ k2)).trans k2; have i3 := (bl_i.cell (p := ⟨wa.heap.size, 0, none⟩) (World.block_lt_of_cell? _ _ k3)).trans k3; have i4 := (bl_i.cell (p := ⟨wa.heap.size, 1, none⟩) (World.block_lt_of_cell? _ _ k4)).trans k4; have i5 := (bl_i.cell (p := ⟨wa.heap.size, 2, none⟩) (World.block_lt_of_cell? _ _ k5)).trans k5; have hzz : wb.heap.size + 1 ≤ wk.heap.size := Nat.le_trans (unhide HO).lt (Nat.le_trans (unhide HBL3).size (unhide HB_k).size); have HS3 := hide (And.intro sN (And.intro (show NewAt (wb.heap.size + 1) aN from fun x hx => Nat.le_trans hzz (nN x hx)) (And.intro sD (show NewAt (wb.heap.size + 1) aE from fun x hx => Nat.le_trans hzz (nD x hx))))); have hb_i := (unhide HB_k).trans (bl_i.mono (unhide HB_k).size); have HB_i := hide hb_i; have hO3 := (unhide HO).keep ((unhide HBL3).trans (hb_i.mono (unhide HBL3).size)); obtain ⟨x0, q0⟩ := hO3.cells 0 (by decide); obtain ⟨x1', q1⟩ := hO3.cells 1 (by decide); obtain ⟨x2', q2⟩ := hO3.cells 2 (by decide); have r0 := hO3.fz 0 (by decide); have r1 := hO3.fz 1 (by decide); have r2 := hO3.fz 2 (by decide); have HO3 := hide hO3; clear sN sD nN nD bl_i hb_i hO3))
      have H4 := hide (three_set wi wb.heap.size (.bool SG) (.slice aN mN cN) (.slice aE mE cE) (unhide HO3).cells)
      have HB3 := hide ((unhide HBo).trans (((unhide HBL3).trans ((unhide HB_i).mono (unhide HBL3).size)).mono (unhide HBo).size))
      clear q0 q1 q2 r0 r1 r2
      try go_wp2_with fail
      obtain ⟨t0, t1, t2, c4⟩ := unhide H4
      generalize ((wi.setCell ⟨wb.heap.size, 0, none⟩ (.bool SG)).setCell ⟨wb.heap.size, 1, none⟩ (.slice aN mN cN)).setCell ⟨wb.heap.size, 2, none⟩ (.slice aE mE cE) = wf at *
      refine bodyPost_ret (by simp [results, Tryz.results93, go_sem, t0, t1, t2]; try rfl) rfl ?_
      obtain ⟨sN, nN, sD, nD⟩ := unhide HS3
      exact ⟨_, rfl, newR_of (unhide HRw) (unhide HO3).lt (unhide HB3) sN nN sD nD c4 SG⟩
end Go.Proofs.YtcokaopfaodmkaaGreatDoor
