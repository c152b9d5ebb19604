/- Va7 -/
import Derived.Test.YtiadccaaoenccaaDoorVa6
import Derived.Test.YtiadccaaoenccaaDoorTe0
import Derived.Test.YtiadccaaoenccaaDoorTc1
import Derived.Test.YtiadccaaoenccaaDoorUe0
namespace Go.Proofs.YtiadccaaoenccaaDoor
open Go.RowKit Go.Deep
set_option linter.unusedVariables false
set_option linter.unusedSimpArgs false
theorem cmF_con {oso qo osi qi : List On} (h1 : qo.map conO = oso.map conO) (h2 : qi.map conO = osi.map conO) (io : Int) (yso : List Int) (ii : Int) (ysi : List Int) : cmF io qo yso ii qi ysi = cmF io oso yso ii osi ysi := by
  have l1 : qo.length = oso.length := by simpa using congrArg List.length h1
  have l2 : qi.length = osi.length := by simpa using congrArg List.length h2
  unfold cmF
  rw [chF_con h1, chF_con h2, l1, l2]
theorem cmT_con {oso qo osi qi : List On} (h1 : qo.map conO = oso.map conO) (h2 : qi.map conO = osi.map conO) (io : Int) (yso : List Int) (ii : Int) (ysi : List Int) : (cmT io qo yso ii qi ysi).1 = (cmT io oso yso ii osi ysi).1 ∧ (cmT io qo yso ii qi ysi).2.1.map conO = (cmT io oso yso ii osi ysi).2.1.map conO ∧ (cmT io qo yso ii qi ysi).2.2 = (cmT io oso yso ii osi ysi).2.2 := by
  have l2 : qi.length = osi.length := by simpa using congrArg List.length h2
  unfold cmT
  rw [cmF_con h1 h2]
  split
  · exact ⟨rfl, cpO_con h1 h2 ysi, by rw [l2]⟩
  · exact ⟨rfl, rfl, rfl⟩
theorem cmT_len (io : Int) (oso : List On) (yso : List Int) (ii : Int) (osi : List On) (ysi : List Int) : (cmT io oso yso ii osi ysi).2.1.length ≤ osi.length + oso.length ∧ (cmT io oso yso ii osi ysi).2.2.length ≤ yso.length := by
  unfold cmT
  split
  · unfold cpO cpY
    simp
  · simp
theorem GrO.sl {S : Nat → Prop} {w wr : World} {a : Option Addr} {n c : Nat} {qs : List On} (h : GrO S w wr (.slice a n c) qs) : SlO wr a n c qs := by
  obtain ⟨x1, x2, e, hs⟩ := h.slo
  injection e with e1 e2 e3
  subst e1 e3
  rw [← e2] at hs
  exact hs
theorem own_slz {w : World} {base : Nat} {a : Option Addr} {n c : Nat} {xs : List Int} (h : w.ownsRow base 3 1 (.slice a n c) n (valsI xs)) (hl : xs.length = n) : SlI w a n c xs := by
  obtain ⟨x1, x2, e, hs⟩ := sli_own h hl
  injection e with e1 e2 e3
  subst e1 e3
  exact hs
theorem CoA.con {w w' : World} {R R' : Int × Int} {T T' : Int × List On × List Int} {e : Ending} (h : CoA w R T e w') (hR : R = R') (h1 : T.1 = T'.1) (h2 : T.2.1.map conO = T'.2.1.map conO) (h3 : T.2.2 = T'.2.2) : CoA w R' T' e w' := by
  subst hR
  obtain ⟨a, c, b, d, qs, rfl, hs, hc, hy, hb⟩ := h
  rw [h3] at hy
  exact ⟨a, c, b, d, qs, by rw [h1, h3], hs, hc.trans h2, hy, hb⟩
set_option maxRecDepth 100000 in
set_option maxHeartbeats 32000000 in
theorem composes_any (io : Int) (xa : Option Addr) (on xc : Nat) (qo : List On) (xb : Option Addr) (om xd : Nat) (yso : List Int) (ii : Int) (ya : Option Addr) (n yc : Nat) (qi : List On) (yb : Option Addr) (m yd : Nat) (ysi : List Int)
    (oa : Option Addr) (oc : Nat) (oso : List On) (ob : Option Addr) (od : Nat) (ia : Option Addr) (ic : Nat) (osi : List On) (ib : Option Addr) (id : Nat) (w : World)
    (h1 : SlO w xa on xc qo) (h2 : SlI w xb om xd yso) (h3 : SlO w ya n yc qi) (h4 : SlI w yb m yd ysi) (h5 : SlO w oa on oc oso) (h6 : SlI w ob om od yso) (h7 : SlO w ia n ic osi) (h8 : SlI w ib m id ysi)
    (hq1 : qo.map conO = oso.map conO) (hq2 : qi.map conO = osi.map conO) (hT : Tab64 w) (hS : TabSh w) (hn : n ≤ 1000000000) (hon : on ≤ 1000000000) (hm : m ≤ 17592186044000) (hom : om ≤ 17592186044000) :
    Calls Tryd.prog 4 #[tapV io xa on xc xb om xd, tapV ii ya n yc yb m yd, tapV io oa on oc ob om od, tapV ii ia n ic ib m id] w fun e w' => e = .returned (.bool true) ∧ Below w.heap.size w w' := by
  obtain ⟨z0, hz0⟩ : ∃ x, w.alloc (.cells #[.int .i64 io, .slice xa on xc, .slice xb om xd] 25) = x := ⟨_, rfl⟩
  have bz0 : BoxP z0 w.heap.size [.int .i64 io, .slice xa on xc, .slice xb om xd] := by rw [← hz0]; exact BoxP.made _ _ _
  have bb0 : Below w.heap.size w z0 := by rw [← hz0]; exact (Below.refl _ _).alloc (Nat.le_refl _) _
  obtain ⟨z1, hz1⟩ : ∃ x, z0.alloc (.cells #[.int .i64 ii, .slice ya n yc, .slice yb m yd] 25) = x := ⟨_, rfl⟩
  have bz1 : BoxP z1 z0.heap.size [.int .i64 ii, .slice ya n yc, .slice yb m yd] := by rw [← hz1]; exact BoxP.made _ _ _
  have bb1 : Below z0.heap.size z0 z1 := by rw [← hz1]; exact (Below.refl _ _).alloc (Nat.le_refl _) _
  obtain ⟨z2, hz2⟩ : ∃ x, z1.alloc (.cells #[.int .i64 io, .slice oa on oc, .slice ob om od] 25) = x := ⟨_, rfl⟩
  have bz2 : BoxP z2 z1.heap.size [.int .i64 io, .slice oa on oc, .slice ob om od] := by rw [← hz2]; exact BoxP.made _ _ _
  have bb2 : Below z1.heap.size z1 z2 := by rw [← hz2]; exact (Below.refl _ _).alloc (Nat.le_refl _) _
  obtain ⟨z3, hz3⟩ : ∃ x, z2.alloc (.cells #[.int .i64 ii, .slice ia n ic, .slice ib m id] 25) = x := ⟨_, rfl⟩
  have bz3 : BoxP z3 z2.heap.size [.int .i64 ii, .slice ia n ic, .slice ib m id] := by rw [← hz3]; exact BoxP.made _ _ _
  have bb3 : Below z2.heap.size z2 z3 := by rw [← hz3]; exact (Below.refl _ _).alloc (Nat.le_refl _) _
  have hw0 : Below w.heap.size w z3 := ((bb0.trans (bb1.mono bb0.size)).trans (bb2.mono (by have := bb0.size; have := bb1.size; omega))).trans (bb3.mono (by have := bb0.size; have := bb1.size; have := bb2.size; omega))
  have bz0 := ((bz0.below bb1).below bb2).below bb3
  have bz1 := (bz1.below bb2).below bb3
  have bz2 := bz2.below bb3
  have p0_0 := (bz0.all 0 _ rfl).1
  have p0_1 := (bz0.all 1 _ rfl).1
  have p0_2 := (bz0.all 2 _ rfl).1
  have p1_0 := (bz1.all 0 _ rfl).1
  have p1_1 := (bz1.all 1 _ rfl).1
  have p1_2 := (bz1.all 2 _ rfl).1
  have p2_0 := (bz2.all 0 _ rfl).1
  have p2_1 := (bz2.all 1 _ rfl).1
  have p2_2 := (bz2.all 2 _ rfl).1
  have p3_0 := (bz3.all 0 _ rfl).1
  have p3_1 := (bz3.all 1 _ rfl).1
  have p3_2 := (bz3.all 2 _ rfl).1
  have P0_0 := p0_0
  have P0_1 := p0_1
  have P0_2 := p0_2
  have P1_0 := p1_0
  have P1_1 := p1_1
  have P1_2 := p1_2
  have P2_0 := p2_0
  have P2_1 := p2_1
  have P2_2 := p2_2
  have P3_0 := p3_0
  have P3_1 := p3_1
  have P3_2 := p3_2
  have HW := hide hw0
  have h1 := h1.below hw0
  have h2 := h2.below hw0
  have h3 := h3.below hw0
  have h4 := h4.below hw0
  have h5 := h5.below hw0
  have h6 := h6.below hw0
  have h7 := h7.below hw0
  have h8 := h8.below hw0
  have hT := hT.below hw0
  have hS := hS.below hw0
  clear bz0 bz1 bz2 bz3 bb0 bb1 bb2 bb3 hw0
  have HE1 := hide (fun (W : World) (hb : Below z3.heap.size z3 W) => (ecompose_any io xa on xc qo xb om xd yso ii ya n yc qi yb m yd ysi W (h1.below hb) (h2.below hb) (h3.below hb) (h4.below hb) (hT.below hb) (hS.below hb) hn hon hm hom).mono (fun e w' h => CoA.con h (cmF_con hq1 hq2 io yso ii ysi) (cmT_con hq1 hq2 io yso ii ysi).1 (cmT_con hq1 hq2 io yso ii ysi).2.1 (cmT_con hq1 hq2 io yso ii ysi).2.2))
  have HE2 := hide (fun (W : World) (hb : Below z3.heap.size z3 W) => scompose_any io oa on oc oso ob om od yso ii ia n ic osi ib m id ysi W (h5.below hb) (h6.below hb) (h7.below hb) (h8.below hb) (hT.below hb) hn hon hm hom)
  have HE3 := hide (fun (W : World) (hb : Below z3.heap.size z3 W) => (ecompose_any io xa on xc qo xb om xd yso io xa on xc qo xb om xd yso W (h1.below hb) (h2.below hb) (h1.below hb) (h2.below hb) (hT.below hb) (hS.below hb) hon hon hom hom).mono (fun e w' h => CoA.con h (cmF_con hq1 hq1 io yso io yso) (cmT_con hq1 hq1 io yso io yso).1 (cmT_con hq1 hq1 io yso io yso).2.1 (cmT_con hq1 hq1 io yso io yso).2.2))
  have HE4 := hide (fun (W : World) (hb : Below z3.heap.size z3 W) => scompose_any io oa on oc oso ob om od yso io oa on oc oso ob om od yso W (h5.below hb) (h6.below hb) (h5.below hb) (h6.below hb) (hT.below hb) hon hon hom hom)
  have hl1 := cmT_len io oso yso ii osi ysi
  have hl2 := cmT_len io oso yso io oso yso
  rw [h5.len, h7.len, h6.len] at hl1
  rw [h5.len, h6.len] at hl2
  obtain ⟨⟨P1, E1⟩, hR1⟩ : ∃ x, cmF io oso yso ii osi ysi = x := ⟨_, rfl⟩
  obtain ⟨⟨I1, O1, Y1⟩, hT1⟩ : ∃ x, cmT io oso yso ii osi ysi = x := ⟨_, rfl⟩
  obtain ⟨⟨P2, E2⟩, hR2⟩ : ∃ x, cmF io oso yso io oso yso = x := ⟨_, rfl⟩
  obtain ⟨⟨I2, O2, Y2⟩, hT2⟩ : ∃ x, cmT io oso yso io oso yso = x := ⟨_, rfl⟩
  rw [hT1] at hl1
  rw [hT2] at hl2
  rw [hR1, hT1] at HE1 HE2
  rw [hR2, hT2] at HE3 HE4
  have HL := hide (And.intro hl1 hl2)
  clear h1 h2 h3 h4 h5 h6 h7 h8 hq1 hq2 hT hS hl1 hl2 hR1 hR2 hT1 hT2
  unfold tapV at HE1 HE2 HE3 HE4
  unfold tapV
  go_enter Tryd.func4, Tryd.ntmps4
  go_wp2_with fail
  refine (unhide HE1 _ (Below.refl _ _)).mono ?_
  rintro _ w1 ⟨a1, c1, b1, d1, q1, rfl, hs1, hc1, hy1, bl1⟩
  obtain ⟨M1, hM1⟩ : ∃ x, Y1.length = x := ⟨_, rfl⟩
  obtain ⟨N1, hN1⟩ : ∃ x, q1.length = x := ⟨_, rfl⟩
  rw [hM1] at hy1 ⊢
  rw [hN1] at hs1 ⊢
  obtain ⟨wt, hwt⟩ : ∃ x, w1.alloc (.cells #[.int .i64 I1, .slice a1 N1 c1, .slice b1 M1 d1] 25) = x := ⟨_, rfl⟩
  have bt : BoxP wt w1.heap.size [.int .i64 I1, .slice a1 N1 c1, .slice b1 M1 d1] := by rw [← hwt]; exact BoxP.made _ _ _
  have bbt : Below w1.heap.size w1 wt := by rw [← hwt]; exact (Below.refl _ _).alloc (Nat.le_refl _) _
  have HBt := hide (bl1.trans (bbt.mono bl1.size))
  have HBOX := hide bt
  have HZT := hide (show z3.heap.size ≤ w1.heap.size from bl1.size)
  have hQ : N1 ≤ 140737488355328 := by
    have e3 := congrArg List.length hc1
    rw [List.length_map, List.length_map] at e3
    replace e3 : q1.length = O1.length := e3
    have := unhide HL
    omega
  have hY : M1 ≤ 140737488355328 := by
    have := unhide HL
    omega
  have HQY := hide (And.intro hQ hY)
  have HS1 := hide (And.intro (hs1.below bbt).sl (And.intro hc1 (own_slz (ownsRow_chg (S := fun _ => False) hy1 (Chg.of_below bbt) (fun _ _ x => x)) hM1)))
  have HNM := hide (And.intro hN1 hM1)
  have p0_0 := ((unhide HBt).cell (World.block_lt_of_cell? _ _ P0_0)).trans P0_0
  have p0_1 := ((unhide HBt).cell (World.block_lt_of_cell? _ _ P0_1)).trans P0_1
  have p0_2 := ((unhide HBt).cell (World.block_lt_of_cell? _ _ P0_2)).trans P0_2
  have p1_0 := ((unhide HBt).cell (World.block_lt_of_cell? _ _ P1_0)).trans P1_0
  have p1_1 := ((unhide HBt).cell (World.block_lt_of_cell? _ _ P1_1)).trans P1_1
  have p1_2 := ((unhide HBt).cell (World.block_lt_of_cell? _ _ P1_2)).trans P1_2
  have p2_0 := ((unhide HBt).cell (World.block_lt_of_cell? _ _ P2_0)).trans P2_0
  have p2_1 := ((unhide HBt).cell (World.block_lt_of_cell? _ _ P2_1)).trans P2_1
  have p2_2 := ((unhide HBt).cell (World.block_lt_of_cell? _ _ P2_2)).trans P2_2
  have p3_0 := ((unhide HBt).cell (World.block_lt_of_cell? _ _ P3_0)).trans P3_0
  have p3_1 := ((unhide HBt).cell (World.block_lt_of_cell? _ _ P3_1)).trans P3_1
  have p3_2 := ((unhide HBt).cell (World.block_lt_of_cell? _ _ P3_2)).trans P3_2
  have t0 := (bt.all 0 _ rfl).1
  have t1 := (bt.all 1 _ rfl).1
  have t2 := (bt.all 2 _ rfl).1
  clear bt bbt hs1 hc1 hy1 bl1 hN1 hM1 hQ hY
  try unfold tapV
  go_wp2_with fail
  refine (unhide HE2 _ (unhide HBt)).mono ?_
  rintro _ w2 ⟨a2, c2, b2, d2, q2, rfl, hs2, hc2, hy2, bl2⟩
  have hN2 : q2.length = N1 := by
    have e3 := congrArg List.length ((unhide HS1).2.1.trans hc2.symm)
    rw [List.length_map, List.length_map, (unhide HNM).1] at e3
    exact e3.symm
  rw [(unhide HNM).2] at hy2 ⊢
  rw [hN2] at hs2 ⊢
  obtain ⟨wu, hwu⟩ : ∃ x, w2.alloc (.cells #[.int .i64 I1, .slice a2 N1 c2, .slice b2 M1 d2] 25) = x := ⟨_, rfl⟩
  have bu : BoxP wu w2.heap.size [.int .i64 I1, .slice a2 N1 c2, .slice b2 M1 d2] := by rw [← hwu]; exact BoxP.made _ _ _
  have bbu : Below w2.heap.size w2 wu := by rw [← hwu]; exact (Below.refl _ _).alloc (Nat.le_refl _) _
  have bb2 := bl2.trans (bbu.mono bl2.size)
  have HTU := hide (show w1.heap.size < w2.heap.size from Nat.lt_of_lt_of_le (unhide HBOX).lt bl2.size)
  have HBu := hide ((unhide HBt).trans (bb2.mono (unhide HBt).size))
  have HBOX := hide ((unhide HBOX).below bb2)
  have HBOU := hide bu
  have hso2 := (hs2.below bbu).sl
  have hsi2 := own_slz (ownsRow_chg (S := fun _ => False) hy2 (Chg.of_below bbu) (fun _ _ x => x)) (unhide HNM).2
  have KS := fun (W : World) (hb : Below wu.heap.size wu W) => sameTape_con I1 a1 N1 c1 q1 b1 M1 d1 a2 c2 q2 b2 d2 Y1 W (((unhide HS1).1.below bb2).below hb) (((unhide HS1).2.2.below bb2).below hb) (hso2.below hb) (hsi2.below hb) (unhide HQY).1 (unhide HQY).2 ((unhide HS1).2.1.trans hc2.symm)
  unfold tapV at KS
  have HKS := hide KS
  have p0_0 := ((unhide HBu).cell (World.block_lt_of_cell? _ _ P0_0)).trans P0_0
  have p0_1 := ((unhide HBu).cell (World.block_lt_of_cell? _ _ P0_1)).trans P0_1
  have p0_2 := ((unhide HBu).cell (World.block_lt_of_cell? _ _ P0_2)).trans P0_2
  have p1_0 := ((unhide HBu).cell (World.block_lt_of_cell? _ _ P1_0)).trans P1_0
  have p1_1 := ((unhide HBu).cell (World.block_lt_of_cell? _ _ P1_1)).trans P1_1
  have p1_2 := ((unhide HBu).cell (World.block_lt_of_cell? _ _ P1_2)).trans P1_2
  have p2_0 := ((unhide HBu).cell (World.block_lt_of_cell? _ _ P2_0)).trans P2_0
  have p2_1 := ((unhide HBu).cell (World.block_lt_of_cell? _ _ P2_1)).trans P2_1
  have p2_2 := ((unhide HBu).cell (World.block_lt_of_cell? _ _ P2_2)).trans P2_2
  have p3_0 := ((unhide HBu).cell (World.block_lt_of_cell? _ _ P3_0)).trans P3_0
  have p3_1 := ((unhide HBu).cell (World.block_lt_of_cell? _ _ P3_1)).trans P3_1
  have p3_2 := ((unhide HBu).cell (World.block_lt_of_cell? _ _ P3_2)).trans P3_2
  have t0 := ((unhide HBOX).all 0 _ rfl).1
  have t1 := ((unhide HBOX).all 1 _ rfl).1
  have t2 := ((unhide HBOX).all 2 _ rfl).1
  have v0 := (bu.all 0 _ rfl).1
  have v1 := (bu.all 1 _ rfl).1
  have v2 := (bu.all 2 _ rfl).1
  clear bu bbu bb2 hs2 hc2 hy2 bl2 hso2 hsi2 KS hN2
  try unfold tapV
  go_wp2_with fail
  refine (unhide HKS _ (Below.refl _ _)).mono ?_
  rintro _ w3 ⟨rfl, b3⟩
  have HB3 := hide ((unhide HBu).trans (b3.mono (unhide HBu).size))
  have HBOX := hide ((unhide HBOX).below b3)
  have HBOU := hide ((unhide HBOU).below b3)
  have HU3 := hide (show w2.heap.size < w3.heap.size from Nat.lt_of_lt_of_le (unhide HBOU).lt (Nat.le_refl _))
  have p0_0 := ((unhide HB3).cell (World.block_lt_of_cell? _ _ P0_0)).trans P0_0
  have p0_1 := ((unhide HB3).cell (World.block_lt_of_cell? _ _ P0_1)).trans P0_1
  have p0_2 := ((unhide HB3).cell (World.block_lt_of_cell? _ _ P0_2)).trans P0_2
  have p1_0 := ((unhide HB3).cell (World.block_lt_of_cell? _ _ P1_0)).trans P1_0
  have p1_1 := ((unhide HB3).cell (World.block_lt_of_cell? _ _ P1_1)).trans P1_1
  have p1_2 := ((unhide HB3).cell (World.block_lt_of_cell? _ _ P1_2)).trans P1_2
  have p2_0 := ((unhide HB3).cell (World.block_lt_of_cell? _ _ P2_0)).trans P2_0
  have p2_1 := ((unhide HB3).cell (World.block_lt_of_cell? _ _ P2_1)).trans P2_1
  have p2_2 := ((unhide HB3).cell (World.block_lt_of_cell? _ _ P2_2)).trans P2_2
  have p3_0 := ((unhide HB3).cell (World.block_lt_of_cell? _ _ P3_0)).trans P3_0
  have p3_1 := ((unhide HB3).cell (World.block_lt_of_cell? _ _ P3_1)).trans P3_1
  have p3_2 := ((unhide HB3).cell (World.block_lt_of_cell? _ _ P3_2)).trans P3_2
  clear b3 HKS t0 t1 t2 v0 v1 v2
  go_wp2_with fail
  refine (unhide HE3 _ (unhide HB3)).mono ?_
  rintro _ w4 ⟨a4, c4, b4, d4, q4, rfl, hs4, hc4, hy4, bl4⟩
  obtain ⟨M2, hM2⟩ : ∃ x, Y2.length = x := ⟨_, rfl⟩
  obtain ⟨N2, hN2⟩ : ∃ x, q4.length = x := ⟨_, rfl⟩
  rw [hM2] at hy4 ⊢
  rw [hN2] at hs4 ⊢
  have hQ : N2 ≤ 140737488355328 := by
    have e3 := congrArg List.length hc4
    rw [List.length_map, List.length_map] at e3
    replace e3 : q4.length = O2.length := e3
    have := unhide HL
    omega
  have hY : M2 ≤ 140737488355328 := by
    have := unhide HL
    omega
  have HQY := hide (And.intro hQ hY)
  have HNM := hide (And.intro hN2 hM2)
  have bt4 := (unhide HBOX).below bl4
  have r0 := (bt4.all 0 _ rfl).1
  have u0 := (bt4.all 0 _ rfl).2
  have r1 := (bt4.all 1 _ rfl).1
  have u1 := (bt4.all 1 _ rfl).2
  have r2 := (bt4.all 2 _ rfl).1
  have u2 := (bt4.all 2 _ rfl).2
  obtain ⟨bt5, ct5⟩ := tape_set3 bt4 (.int .i64 I2) (.slice a4 N2 c4) (.slice b4 M2 d4)
  have hb4 := (unhide HB3).trans (bl4.mono (unhide HB3).size)
  have hzt := unhide HZT
  have htu := unhide HTU
  have hu3 := unhide HU3
  have hb5 := hb4.trans (ct5.below (B := z3.heap.size) hb4.size (fun k hk e => by omega))
  have hg5 := hs4.chg (ct5.mono (fun k _ e => by rw [e]; omega)) (fun k e => e)
  have hi5 := ownsRow_chg hy4 ct5 (fun j e e2 => by have := (own_ge hy4 j e).1; omega)
  have bu5 := ((unhide HBOU).below bl4).chg ct5 (by omega)
  have HB5 := hide hb5
  have HG5 := hide hg5
  have HI5 := hide hi5
  have HC5 := hide hc4
  have HBT5 := hide bt5
  have HBU5 := hide bu5
  have HS35 := hide (Nat.le_trans bl4.size ct5.size)
  clear hs4 hc4 hy4 bl4 hN2 hM2 hQ hY bt4 bt5 ct5 hb4 hb5 hg5 hi5 bu5 hzt htu hu3
  try unfold tapV
  try dsimp only
  repeat ((fail_if_success (with_reducible (show Code.wp _ _ _ _ (World.setCell _ _ _)))); (first | go_values | go_skip | go_guarded | go_step | go_upon | go_back))
  generalize (((w4.setCell ⟨w1.heap.size, 0, none⟩ (.int .i64 I2)).setCell ⟨w1.heap.size, 1, none⟩ (.slice a4 N2 c4)).setCell ⟨w1.heap.size, 2, none⟩ (.slice b4 M2 d4)) = w5 at *
  have p0_0 := ((unhide HB5).cell (World.block_lt_of_cell? _ _ P0_0)).trans P0_0
  have p0_1 := ((unhide HB5).cell (World.block_lt_of_cell? _ _ P0_1)).trans P0_1
  have p0_2 := ((unhide HB5).cell (World.block_lt_of_cell? _ _ P0_2)).trans P0_2
  have p1_0 := ((unhide HB5).cell (World.block_lt_of_cell? _ _ P1_0)).trans P1_0
  have p1_1 := ((unhide HB5).cell (World.block_lt_of_cell? _ _ P1_1)).trans P1_1
  have p1_2 := ((unhide HB5).cell (World.block_lt_of_cell? _ _ P1_2)).trans P1_2
  have p2_0 := ((unhide HB5).cell (World.block_lt_of_cell? _ _ P2_0)).trans P2_0
  have p2_1 := ((unhide HB5).cell (World.block_lt_of_cell? _ _ P2_1)).trans P2_1
  have p2_2 := ((unhide HB5).cell (World.block_lt_of_cell? _ _ P2_2)).trans P2_2
  have p3_0 := ((unhide HB5).cell (World.block_lt_of_cell? _ _ P3_0)).trans P3_0
  have p3_1 := ((unhide HB5).cell (World.block_lt_of_cell? _ _ P3_1)).trans P3_1
  have p3_2 := ((unhide HB5).cell (World.block_lt_of_cell? _ _ P3_2)).trans P3_2
  clear r0 r1 r2 u0 u1 u2
  go_wp2_with fail
  refine (unhide HE4 _ (unhide HB5)).mono ?_
  rintro _ w6 ⟨a6, c6, b6, d6, q6, rfl, hs6, hc6, hy6, bl6⟩
  have hN6 : q6.length = N2 := by
    have e3 := congrArg List.length ((unhide HC5).trans hc6.symm)
    rw [List.length_map, List.length_map, (unhide HNM).1] at e3
    exact e3.symm
  rw [(unhide HNM).2] at hy6 ⊢
  rw [hN6] at hs6 ⊢
  have bu6 := (unhide HBU5).below bl6
  have r0 := (bu6.all 0 _ rfl).1
  have u0 := (bu6.all 0 _ rfl).2
  have r1 := (bu6.all 1 _ rfl).1
  have u1 := (bu6.all 1 _ rfl).2
  have r2 := (bu6.all 2 _ rfl).1
  have u2 := (bu6.all 2 _ rfl).2
  obtain ⟨bu7, cu7⟩ := tape_set3 bu6 (.int .i64 I2) (.slice a6 N2 c6) (.slice b6 M2 d6)
  have hb6 := (unhide HB5).trans (bl6.mono (unhide HB5).size)
  have hzt := unhide HZT
  have htu := unhide HTU
  have hu3 := unhide HU3
  have hs35 := unhide HS35
  have hb7 := hb6.trans (cu7.below (B := z3.heap.size) hb6.size (fun k hk e => by omega))
  have hg7 := (((unhide HG5).below bl6).chg (cu7.mono (fun k _ e => by rw [e]; omega)) (fun k e => e)).sl
  have hi6 := ownsRow_chg (S := fun _ => False) (unhide HI5) (Chg.of_below bl6) (fun _ _ x => x)
  have hi7 := own_slz (ownsRow_chg hi6 cu7 (fun j e e2 => by have := (own_ge hi6 j e).1; omega)) (unhide HNM).2
  have hg8 := (hs6.chg (cu7.mono (fun k _ e => by rw [e]; omega)) (fun k e => e)).sl
  have hi8 := own_slz (ownsRow_chg hy6 cu7 (fun j e e2 => by have := (own_ge hy6 j e).1; omega)) (unhide HNM).2
  have bt7 := ((unhide HBT5).below bl6).chg cu7 (by omega)
  have HB7 := hide hb7
  have HBT7 := hide bt7
  have HBU7 := hide bu7
  have HS7 := hide (And.intro hg7 (And.intro hi7 (And.intro hg8 hi8)))
  have HC7 := hide ((unhide HC5).trans hc6.symm)
  clear hs6 hc6 hy6 bl6 hN6 bu6 bu7 cu7 hb6 hb7 hg7 hi6 hi7 hg8 hi8 bt7 hzt htu hu3 hs35
  try unfold tapV
  try dsimp only
  repeat ((fail_if_success (with_reducible (show Code.wp _ _ _ _ (World.setCell _ _ _)))); (first | go_values | go_skip | go_guarded | go_step | go_upon | go_back))
  generalize (((w6.setCell ⟨w2.heap.size, 0, none⟩ (.int .i64 I2)).setCell ⟨w2.heap.size, 1, none⟩ (.slice a6 N2 c6)).setCell ⟨w2.heap.size, 2, none⟩ (.slice b6 M2 d6)) = w7 at *
  have p0_0 := ((unhide HB7).cell (World.block_lt_of_cell? _ _ P0_0)).trans P0_0
  have p0_1 := ((unhide HB7).cell (World.block_lt_of_cell? _ _ P0_1)).trans P0_1
  have p0_2 := ((unhide HB7).cell (World.block_lt_of_cell? _ _ P0_2)).trans P0_2
  have p1_0 := ((unhide HB7).cell (World.block_lt_of_cell? _ _ P1_0)).trans P1_0
  have p1_1 := ((unhide HB7).cell (World.block_lt_of_cell? _ _ P1_1)).trans P1_1
  have p1_2 := ((unhide HB7).cell (World.block_lt_of_cell? _ _ P1_2)).trans P1_2
  have p2_0 := ((unhide HB7).cell (World.block_lt_of_cell? _ _ P2_0)).trans P2_0
  have p2_1 := ((unhide HB7).cell (World.block_lt_of_cell? _ _ P2_1)).trans P2_1
  have p2_2 := ((unhide HB7).cell (World.block_lt_of_cell? _ _ P2_2)).trans P2_2
  have p3_0 := ((unhide HB7).cell (World.block_lt_of_cell? _ _ P3_0)).trans P3_0
  have p3_1 := ((unhide HB7).cell (World.block_lt_of_cell? _ _ P3_1)).trans P3_1
  have p3_2 := ((unhide HB7).cell (World.block_lt_of_cell? _ _ P3_2)).trans P3_2
  clear r0 r1 r2 u0 u1 u2
  have t0 := ((unhide HBT7).all 0 _ rfl).1
  have t1 := ((unhide HBT7).all 1 _ rfl).1
  have t2 := ((unhide HBT7).all 2 _ rfl).1
  have v0 := ((unhide HBU7).all 0 _ rfl).1
  have v1 := ((unhide HBU7).all 1 _ rfl).1
  have v2 := ((unhide HBU7).all 2 _ rfl).1
  have KS := fun (W : World) (hb : Below w7.heap.size w7 W) => sameTape_con I2 a4 N2 c4 q4 b4 M2 d4 a6 c6 q6 b6 d6 Y2 W ((unhide HS7).1.below hb) ((unhide HS7).2.1.below hb) ((unhide HS7).2.2.1.below hb) ((unhide HS7).2.2.2.below hb) (unhide HQY).1 (unhide HQY).2 (unhide HC7)
  unfold tapV at KS
  have HKS := hide KS
  clear KS
  go_wp2_with fail
  refine (unhide HKS _ (Below.refl _ _)).mono ?_
  rintro _ w8 ⟨rfl, b8⟩
  have HB8 := hide ((unhide HB7).trans (b8.mono (unhide HB7).size))
  clear b8 HKS t0 t1 t2 v0 v1 v2
  go_wp2_with fail
  try go_ret
  exact ⟨rfl, (unhide HW).trans ((unhide HB8).mono (unhide HW).size)⟩
theorem gv_tape {w : World} {B : Nat} {f : Nat → Value} {P : Nat → Prop} {es : List Ent} {is : List EntI} {ts : List Tn} (hg : GvT w B f P es is ts) {T : Tn} {E : EntI} (hT : T ∈ ts) (hE : E ∈ is) {n m : Nat} {ys : List Int} (hl : T.os.length = n + 3) (hx : E.xs = ys) (hm : ys.length = m) :
    SlO w (some ⟨Tn.b T, 0, none⟩) n T.c (T.os.take n) ∧ SlI w (some ⟨EntI.b E, 0, none⟩) m E.c ys := by
  have ht := (hg.t T hT).1
  have hso := ht.1.1.fil.slo rfl ht.1.1.le ht.1.1.each
  rw [hl] at hso
  have hi := (hg.i E hE).1
  exact ⟨hso.front (by omega), hi.1.1.front hx hm⟩
end Go.Proofs.YtiadccaaoenccaaDoor
