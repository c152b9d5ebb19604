/- Th7 -/
import Derived.Test.YtpicknbdfjjflaaGreatDoorTh6
namespace Go.Proofs.YtpicknbdfjjflaaGreatDoor
open Go.RowKit Go.Deep
set_option linter.unusedVariables false
set_option maxRecDepth 100000 in
set_option maxHeartbeats 32000000 in
theorem lives_no (i : Int) (a : Option Addr) (n c : Nat) (qs : List On) (b : Option Addr) (m d : Nat) (a' : Option Addr) (c' : Nat) (os : List On) (b' : Option Addr) (d' : Nat) (ys : List Int) (w : World)
    (hq : SlO w a n c qs) (hy : SlI w b m d ys) (ho : SlO w a' n c' os) (hy' : SlI w b' m d' ys) (hc : qs.map conO = os.map conO) (hT : Tab64 w) (hS : TabSh w) (he : (chF i os ys).2 ≠ 0) :
    Calls Tryz.prog 11 #[tapV i a n c b m d, tapV i a' n c' b' m d'] w fun e w' => e = .returned (.bool true) ∧ Below w.heap.size w w' := by
  obtain ⟨wa, hwa⟩ : ∃ x, w.alloc (.cells #[.int .i64 i, .slice a n c, .slice b m d] 25) = x := ⟨_, rfl⟩
  have bx : BoxP wa w.heap.size [.int .i64 i, .slice a n c, .slice b m d] := by rw [← hwa]; exact BoxP.made _ _ _
  have hba : Below w.heap.size w wa := by rw [← hwa]; exact (Below.refl _ _).alloc (Nat.le_refl _) _
  obtain ⟨wp, hwp⟩ : ∃ x, wa.alloc (.cells #[.int .i64 i, .slice a' n c', .slice b' m d'] 25) = x := ⟨_, rfl⟩
  have br : BoxP wp wa.heap.size [.int .i64 i, .slice a' n c', .slice b' m d'] := by rw [← hwp]; exact BoxP.made _ _ _
  have hbo : Below wa.heap.size wa wp := by rw [← hwp]; exact (Below.refl _ _).alloc (Nat.le_refl _) _
  have bx2 := bx.below hbo
  have hB := hba.trans (hbo.mono hba.size)
  have g0 := (bx2.all 0 _ rfl).1
  have g1 := (bx2.all 1 _ rfl).1
  have g2 := (bx2.all 2 _ rfl).1
  have x0 := (br.all 0 _ rfl).1
  have x1 := (br.all 1 _ rfl).1
  have x2 := (br.all 2 _ rfl).1
  have hcq : chF i qs ys = chF i os ys := chF_con hc i ys
  have he1 : (chF i qs ys).2 ≠ 0 := by rw [hcq]; exact he
  have K1 := fun (W : World) (hb : Below wp.heap.size wp W) => tLive_no i a n c qs b m d ys W ((hq.below hB).below hb) ((hy.below hB).below hb) ((hT.below hB).below hb) ((hS.below hB).below hb) he1
  have K2 := fun (W : World) (hb : Below wp.heap.size wp W) => wLive_no i a' n c' os b' m d' ys W ((ho.below hB).below hb) ((hy'.below hB).below hb) ((hT.below hB).below hb) he
  have K3 := fun (W : World) (hb : Below wp.heap.size wp W) => tUses_no i a n c qs b m d ys W ((hq.below hB).below hb) ((hy.below hB).below hb) ((hT.below hB).below hb) ((hS.below hB).below hb) he1
  have K4 := fun (W : World) (hb : Below wp.heap.size wp W) => wUses_no i a' n c' os b' m d' ys W ((ho.below hB).below hb) ((hy'.below hB).below hb) ((hT.below hB).below hb) he
  have K5 := fun (W : World) (hb : Below wp.heap.size wp W) => tDepth_no i a n c qs b m d ys W ((hq.below hB).below hb) ((hy.below hB).below hb) ((hT.below hB).below hb) ((hS.below hB).below hb) he1
  have K6 := fun (W : World) (hb : Below wp.heap.size wp W) => wDepth_no i a' n c' os b' m d' ys W ((ho.below hB).below hb) ((hy'.below hB).below hb) ((hT.below hB).below hb) he
  rw [hcq] at K1 K3 K5
  obtain ⟨z, hz⟩ : ∃ z, (chF i os ys).2 = z := ⟨_, rfl⟩
  simp only [hz] at K1 K2 K3 K4 K5 K6
  have tz : (z != z) = false := by simp
  have tz2 : (z == z) = true := by simp
  have H1 := hide K1
  have H2 := hide K2
  have H3 := hide K3
  have H4 := hide K4
  have H5 := hide K5
  have H6 := hide K6
  have HN := hide l5num_any
  have HB := hide hB
  have HBwp := hide (Below.refl wp.heap.size wp)
  have HSB := hide sameBools_nil
  have HSI := hide (fun W => sameInts_eq none none 0 0 0 [] W (SlI.nil _) (SlI.nil _) (by decide))
  unfold tapV at H1 H2 H3 H4 H5 H6 ⊢
  clear hq hy ho hy' hc hT hS K1 K2 K3 K4 K5 K6 hz hcq he he1 hB bx br bx2 hba hbo
  go_enter Tryz.func11, Tryz.ntmps11
  go_wp2_with fail
  refine (unhide H1 wp (unhide HBwp)).mono ?_
  rintro _ w1 ⟨rfl, b1⟩
  have g0 := (b1.cell (World.block_lt_of_cell? _ _ g0)).trans g0
  have g1 := (b1.cell (World.block_lt_of_cell? _ _ g1)).trans g1
  have g2 := (b1.cell (World.block_lt_of_cell? _ _ g2)).trans g2
  have x0 := (b1.cell (World.block_lt_of_cell? _ _ x0)).trans x0
  have x1 := (b1.cell (World.block_lt_of_cell? _ _ x1)).trans x1
  have x2 := (b1.cell (World.block_lt_of_cell? _ _ x2)).trans x2
  have HBw1 := hide ((unhide HBwp).trans (b1.mono (unhide HBwp).size))
  clear b1
  go_wp2_with fail
  refine (unhide H2 w1 (unhide HBw1)).mono ?_
  rintro _ w2 ⟨rfl, b2⟩
  have g0 := (b2.cell (World.block_lt_of_cell? _ _ g0)).trans g0
  have g1 := (b2.cell (World.block_lt_of_cell? _ _ g1)).trans g1
  have g2 := (b2.cell (World.block_lt_of_cell? _ _ g2)).trans g2
  have x0 := (b2.cell (World.block_lt_of_cell? _ _ x0)).trans x0
  have x1 := (b2.cell (World.block_lt_of_cell? _ _ x1)).trans x1
  have x2 := (b2.cell (World.block_lt_of_cell? _ _ x2)).trans x2
  have HBw2 := hide ((unhide HBw1).trans (b2.mono (unhide HBw1).size))
  clear b2
  go_wp2_with fail
  refine (unhide HN z _).mono ?_
  rintro _ wz ⟨rfl, hw⟩
  obtain rfl := hw.symm
  clear hw
  go_wp2_with fail
  refine (unhide HSB w2).mono ?_
  rintro _ w3 ⟨rfl, b9⟩
  have g0 := (b9.cell (World.block_lt_of_cell? _ _ g0)).trans g0
  have g1 := (b9.cell (World.block_lt_of_cell? _ _ g1)).trans g1
  have g2 := (b9.cell (World.block_lt_of_cell? _ _ g2)).trans g2
  have x0 := (b9.cell (World.block_lt_of_cell? _ _ x0)).trans x0
  have x1 := (b9.cell (World.block_lt_of_cell? _ _ x1)).trans x1
  have x2 := (b9.cell (World.block_lt_of_cell? _ _ x2)).trans x2
  have HBw3 := hide ((unhide HBw2).trans (b9.mono (unhide HBw2).size))
  clear b9
  go_wp2_with fail
  refine (unhide H3 w3 (unhide HBw3)).mono ?_
  rintro _ w4 ⟨rfl, b1⟩
  have g0 := (b1.cell (World.block_lt_of_cell? _ _ g0)).trans g0
  have g1 := (b1.cell (World.block_lt_of_cell? _ _ g1)).trans g1
  have g2 := (b1.cell (World.block_lt_of_cell? _ _ g2)).trans g2
  have x0 := (b1.cell (World.block_lt_of_cell? _ _ x0)).trans x0
  have x1 := (b1.cell (World.block_lt_of_cell? _ _ x1)).trans x1
  have x2 := (b1.cell (World.block_lt_of_cell? _ _ x2)).trans x2
  have HBw4 := hide ((unhide HBw3).trans (b1.mono (unhide HBw3).size))
  clear b1
  go_wp2_with fail
  refine (unhide H4 w4 (unhide HBw4)).mono ?_
  rintro _ w5 ⟨rfl, b2⟩
  have g0 := (b2.cell (World.block_lt_of_cell? _ _ g0)).trans g0
  have g1 := (b2.cell (World.block_lt_of_cell? _ _ g1)).trans g1
  have g2 := (b2.cell (World.block_lt_of_cell? _ _ g2)).trans g2
  have x0 := (b2.cell (World.block_lt_of_cell? _ _ x0)).trans x0
  have x1 := (b2.cell (World.block_lt_of_cell? _ _ x1)).trans x1
  have x2 := (b2.cell (World.block_lt_of_cell? _ _ x2)).trans x2
  have HBw5 := hide ((unhide HBw4).trans (b2.mono (unhide HBw4).size))
  clear b2
  go_wp2_with fail
  refine (unhide HN z _).mono ?_
  rintro _ wz ⟨rfl, hw⟩
  obtain rfl := hw.symm
  clear hw
  go_wp2_with fail
  refine (unhide HSI w5).mono ?_
  rintro _ w6 ⟨rfl, mm, hmm⟩
  have b9 : Below w5.heap.size w5 w6 := by rw [hmm]; exact bel_drewN (Below.refl _ _) mm
  clear hmm
  have g0 := (b9.cell (World.block_lt_of_cell? _ _ g0)).trans g0
  have g1 := (b9.cell (World.block_lt_of_cell? _ _ g1)).trans g1
  have g2 := (b9.cell (World.block_lt_of_cell? _ _ g2)).trans g2
  have x0 := (b9.cell (World.block_lt_of_cell? _ _ x0)).trans x0
  have x1 := (b9.cell (World.block_lt_of_cell? _ _ x1)).trans x1
  have x2 := (b9.cell (World.block_lt_of_cell? _ _ x2)).trans x2
  have HBw6 := hide ((unhide HBw5).trans (b9.mono (unhide HBw5).size))
  clear b9
  go_wp2_with fail
  refine (unhide H5 w6 (unhide HBw6)).mono ?_
  rintro _ w7 ⟨rfl, b1⟩
  have g0 := (b1.cell (World.block_lt_of_cell? _ _ g0)).trans g0
  have g1 := (b1.cell (World.block_lt_of_cell? _ _ g1)).trans g1
  have g2 := (b1.cell (World.block_lt_of_cell? _ _ g2)).trans g2
  have x0 := (b1.cell (World.block_lt_of_cell? _ _ x0)).trans x0
  have x1 := (b1.cell (World.block_lt_of_cell? _ _ x1)).trans x1
  have x2 := (b1.cell (World.block_lt_of_cell? _ _ x2)).trans x2
  have HBw7 := hide ((unhide HBw6).trans (b1.mono (unhide HBw6).size))
  clear b1
  go_wp2_with fail
  refine (unhide H6 w7 (unhide HBw7)).mono ?_
  rintro _ w8 ⟨rfl, b2⟩
  have g0 := (b2.cell (World.block_lt_of_cell? _ _ g0)).trans g0
  have g1 := (b2.cell (World.block_lt_of_cell? _ _ g1)).trans g1
  have g2 := (b2.cell (World.block_lt_of_cell? _ _ g2)).trans g2
  have x0 := (b2.cell (World.block_lt_of_cell? _ _ x0)).trans x0
  have x1 := (b2.cell (World.block_lt_of_cell? _ _ x1)).trans x1
  have x2 := (b2.cell (World.block_lt_of_cell? _ _ x2)).trans x2
  have HBw8 := hide ((unhide HBw7).trans (b2.mono (unhide HBw7).size))
  clear b2
  go_wp2_with fail
  refine (unhide HN z _).mono ?_
  rintro _ wz ⟨rfl, hw⟩
  obtain rfl := hw.symm
  clear hw
  go_wp2_with fail
  refine (unhide HSI w8).mono ?_
  rintro _ w9 ⟨rfl, mm, hmm⟩
  have b9 : Below w8.heap.size w8 w9 := by rw [hmm]; exact bel_drewN (Below.refl _ _) mm
  clear hmm
  have g0 := (b9.cell (World.block_lt_of_cell? _ _ g0)).trans g0
  have g1 := (b9.cell (World.block_lt_of_cell? _ _ g1)).trans g1
  have g2 := (b9.cell (World.block_lt_of_cell? _ _ g2)).trans g2
  have x0 := (b9.cell (World.block_lt_of_cell? _ _ x0)).trans x0
  have x1 := (b9.cell (World.block_lt_of_cell? _ _ x1)).trans x1
  have x2 := (b9.cell (World.block_lt_of_cell? _ _ x2)).trans x2
  have HBw9 := hide ((unhide HBw8).trans (b9.mono (unhide HBw8).size))
  clear b9
  go_wp2_with fail
  go_ret
  exact ⟨rfl, (unhide HB).trans ((unhide HBw9).mono (unhide HB).size)⟩
set_option maxRecDepth 100000 in
set_option maxHeartbeats 32000000 in
theorem lives_yes (i : Int) (a : Option Addr) (n c : Nat) (qs : List On) (b : Option Addr) (m d : Nat) (a' : Option Addr) (c' : Nat) (os : List On) (b' : Option Addr) (d' : Nat) (ys : List Int) (w : World)
    (hq : SlO w a n c qs) (hy : SlI w b m d ys) (ho : SlO w a' n c' os) (hy' : SlI w b' m d' ys) (hc : qs.map conO = os.map conO) (hT : Tab64 w) (hS : TabSh w) (he : (chF i os ys).2 = 0) :
    Calls Tryz.prog 11 #[tapV i a n c b m d, tapV i a' n c' b' m d'] w fun e w' => e = .returned (.bool true) ∧ Below w.heap.size w w' := by
  obtain ⟨wa, hwa⟩ : ∃ x, w.alloc (.cells #[.int .i64 i, .slice a n c, .slice b m d] 25) = x := ⟨_, rfl⟩
  have bx : BoxP wa w.heap.size [.int .i64 i, .slice a n c, .slice b m d] := by rw [← hwa]; exact BoxP.made _ _ _
  have hba : Below w.heap.size w wa := by rw [← hwa]; exact (Below.refl _ _).alloc (Nat.le_refl _) _
  obtain ⟨wp, hwp⟩ : ∃ x, wa.alloc (.cells #[.int .i64 i, .slice a' n c', .slice b' m d'] 25) = x := ⟨_, rfl⟩
  have br : BoxP wp wa.heap.size [.int .i64 i, .slice a' n c', .slice b' m d'] := by rw [← hwp]; exact BoxP.made _ _ _
  have hbo : Below wa.heap.size wa wp := by rw [← hwp]; exact (Below.refl _ _).alloc (Nat.le_refl _) _
  have bx2 := bx.below hbo
  have hB := hba.trans (hbo.mono hba.size)
  have g0 := (bx2.all 0 _ rfl).1
  have g1 := (bx2.all 1 _ rfl).1
  have g2 := (bx2.all 2 _ rfl).1
  have x0 := (br.all 0 _ rfl).1
  have x1 := (br.all 1 _ rfl).1
  have x2 := (br.all 2 _ rfl).1
  have hcq : chF i qs ys = chF i os ys := chF_con hc i ys
  have he1 : (chF i qs ys).2 = 0 := by rw [hcq]; exact he
  have K1 := fun (W : World) (hb : Below wp.heap.size wp W) => tLive_yes i a n c qs b m d ys W ((hq.below hB).below hb) ((hy.below hB).below hb) ((hT.below hB).below hb) ((hS.below hB).below hb) he1
  have K2 := fun (W : World) (hb : Below wp.heap.size wp W) => wLive_yes i a' n c' os b' m d' ys W ((ho.below hB).below hb) ((hy'.below hB).below hb) ((hT.below hB).below hb) he
  have K3 := fun (W : World) (hb : Below wp.heap.size wp W) => tUses_yes i a n c qs b m d ys W ((hq.below hB).below hb) ((hy.below hB).below hb) ((hT.below hB).below hb) ((hS.below hB).below hb) he1
  have K4 := fun (W : World) (hb : Below wp.heap.size wp W) => wUses_yes i a' n c' os b' m d' ys W ((ho.below hB).below hb) ((hy'.below hB).below hb) ((hT.below hB).below hb) he
  have K5 := fun (W : World) (hb : Below wp.heap.size wp W) => tDepth_yes i a n c qs b m d ys W ((hq.below hB).below hb) ((hy.below hB).below hb) ((hT.below hB).below hb) ((hS.below hB).below hb) he1
  have K6 := fun (W : World) (hb : Below wp.heap.size wp W) => wDepth_yes i a' n c' os b' m d' ys W ((ho.below hB).below hb) ((hy'.below hB).below hb) ((hT.below hB).below hb) he
  simp only [lvL_con hc, opsT_con hc, dpF_con hc] at K1 K3 K5
  have hn2 : n ≤ 2048 := by have h1 := (TpOk.of he).lo; have h2 := ho.len; omega
  have H1 := hide K1
  have H2 := hide K2
  have H3 := hide K3
  have H4 := hide K4
  have H5 := hide K5
  have H6 := hide K6
  have HN := hide l5num_any
  have HB := hide hB
  have HBwp := hide (Below.refl wp.heap.size wp)
  unfold tapV at H1 H2 H3 H4 H5 H6 ⊢
  clear hq hy ho hy' hc hT hS K1 K2 K3 K4 K5 K6 hcq he he1 hB bx br bx2 hba hbo
  go_enter Tryz.func11, Tryz.ntmps11
  go_wp2_with fail
  refine (unhide H1 wp (unhide HBwp)).mono ?_
  rintro _ w1 ⟨p1, rfl, hg9, hR9, b1⟩
  have HR1 := hide hR9
  have g0 := (b1.cell (World.block_lt_of_cell? _ _ g0)).trans g0
  have g1 := (b1.cell (World.block_lt_of_cell? _ _ g1)).trans g1
  have g2 := (b1.cell (World.block_lt_of_cell? _ _ g2)).trans g2
  have x0 := (b1.cell (World.block_lt_of_cell? _ _ x0)).trans x0
  have x1 := (b1.cell (World.block_lt_of_cell? _ _ x1)).trans x1
  have x2 := (b1.cell (World.block_lt_of_cell? _ _ x2)).trans x2
  have HBw1 := hide ((unhide HBwp).trans (b1.mono (unhide HBwp).size))
  clear b1 hg9 hR9
  go_wp2_with fail
  refine (unhide H2 w1 (unhide HBw1)).mono ?_
  rintro _ w2 ⟨p2, rfl, hg9, hR9, b2⟩
  have HR2 := hide hR9
  have g0 := (b2.cell (World.block_lt_of_cell? _ _ g0)).trans g0
  have g1 := (b2.cell (World.block_lt_of_cell? _ _ g1)).trans g1
  have g2 := (b2.cell (World.block_lt_of_cell? _ _ g2)).trans g2
  have x0 := (b2.cell (World.block_lt_of_cell? _ _ x0)).trans x0
  have x1 := (b2.cell (World.block_lt_of_cell? _ _ x1)).trans x1
  have x2 := (b2.cell (World.block_lt_of_cell? _ _ x2)).trans x2
  have HBw2 := hide ((unhide HBw1).trans (b2.mono (unhide HBw1).size))
  have HR1 := hide ((unhide HR1).below b2)
  clear b2 hg9 hR9
  go_wp2_with fail
  refine (unhide HN 0 _).mono ?_
  rintro _ wz ⟨rfl, hw⟩
  obtain rfl := hw.symm
  clear hw
  go_wp2_with fail
  refine (sameBools_rov p1 p2 n _ w2 (unhide HR1) (unhide HR2) hn2).mono ?_
  rintro _ w3 ⟨rfl, b9⟩
  have g0 := (b9.cell (World.block_lt_of_cell? _ _ g0)).trans g0
  have g1 := (b9.cell (World.block_lt_of_cell? _ _ g1)).trans g1
  have g2 := (b9.cell (World.block_lt_of_cell? _ _ g2)).trans g2
  have x0 := (b9.cell (World.block_lt_of_cell? _ _ x0)).trans x0
  have x1 := (b9.cell (World.block_lt_of_cell? _ _ x1)).trans x1
  have x2 := (b9.cell (World.block_lt_of_cell? _ _ x2)).trans x2
  have HBw3 := hide ((unhide HBw2).trans (b9.mono (unhide HBw2).size))
  clear b9
  go_wp2_with fail
  refine (unhide H3 w3 (unhide HBw3)).mono ?_
  rintro _ w4 ⟨p3, rfl, hg9, hR9, b1⟩
  have HR1 := hide hR9
  have g0 := (b1.cell (World.block_lt_of_cell? _ _ g0)).trans g0
  have g1 := (b1.cell (World.block_lt_of_cell? _ _ g1)).trans g1
  have g2 := (b1.cell (World.block_lt_of_cell? _ _ g2)).trans g2
  have x0 := (b1.cell (World.block_lt_of_cell? _ _ x0)).trans x0
  have x1 := (b1.cell (World.block_lt_of_cell? _ _ x1)).trans x1
  have x2 := (b1.cell (World.block_lt_of_cell? _ _ x2)).trans x2
  have HBw4 := hide ((unhide HBw3).trans (b1.mono (unhide HBw3).size))
  clear b1 hg9 hR9
  go_wp2_with fail
  refine (unhide H4 w4 (unhide HBw4)).mono ?_
  rintro _ w5 ⟨p4, rfl, hg9, hR9, b2⟩
  have HR2 := hide hR9
  have g0 := (b2.cell (World.block_lt_of_cell? _ _ g0)).trans g0
  have g1 := (b2.cell (World.block_lt_of_cell? _ _ g1)).trans g1
  have g2 := (b2.cell (World.block_lt_of_cell? _ _ g2)).trans g2
  have x0 := (b2.cell (World.block_lt_of_cell? _ _ x0)).trans x0
  have x1 := (b2.cell (World.block_lt_of_cell? _ _ x1)).trans x1
  have x2 := (b2.cell (World.block_lt_of_cell? _ _ x2)).trans x2
  have HBw5 := hide ((unhide HBw4).trans (b2.mono (unhide HBw4).size))
  have HR1 := hide ((unhide HR1).below b2)
  clear b2 hg9 hR9
  go_wp2_with fail
  refine (unhide HN 0 _).mono ?_
  rintro _ wz ⟨rfl, hw⟩
  obtain rfl := hw.symm
  clear hw
  go_wp2_with fail
  refine (sameInts_eq (some ⟨p3, 0, none⟩) (some ⟨p4, 0, none⟩) n n n _ w5 (rov_sli (unhide HR1) hn2) (rov_sli (unhide HR2) hn2) (by omega)).mono ?_
  rintro _ w6 ⟨rfl, mm, hmm⟩
  have b9 : Below w5.heap.size w5 w6 := by rw [hmm]; exact bel_drewN (Below.refl _ _) mm
  clear hmm
  have g0 := (b9.cell (World.block_lt_of_cell? _ _ g0)).trans g0
  have g1 := (b9.cell (World.block_lt_of_cell? _ _ g1)).trans g1
  have g2 := (b9.cell (World.block_lt_of_cell? _ _ g2)).trans g2
  have x0 := (b9.cell (World.block_lt_of_cell? _ _ x0)).trans x0
  have x1 := (b9.cell (World.block_lt_of_cell? _ _ x1)).trans x1
  have x2 := (b9.cell (World.block_lt_of_cell? _ _ x2)).trans x2
  have HBw6 := hide ((unhide HBw5).trans (b9.mono (unhide HBw5).size))
  clear b9
  go_wp2_with fail
  refine (unhide H5 w6 (unhide HBw6)).mono ?_
  rintro _ w7 ⟨p5, rfl, hg9, hR9, b1⟩
  have HR1 := hide hR9
  have g0 := (b1.cell (World.block_lt_of_cell? _ _ g0)).trans g0
  have g1 := (b1.cell (World.block_lt_of_cell? _ _ g1)).trans g1
  have g2 := (b1.cell (World.block_lt_of_cell? _ _ g2)).trans g2
  have x0 := (b1.cell (World.block_lt_of_cell? _ _ x0)).trans x0
  have x1 := (b1.cell (World.block_lt_of_cell? _ _ x1)).trans x1
  have x2 := (b1.cell (World.block_lt_of_cell? _ _ x2)).trans x2
  have HBw7 := hide ((unhide HBw6).trans (b1.mono (unhide HBw6).size))
  clear b1 hg9 hR9
  go_wp2_with fail
  refine (unhide H6 w7 (unhide HBw7)).mono ?_
  rintro _ w8 ⟨p6, rfl, hg9, hR9, b2⟩
  have HR2 := hide hR9
  have g0 := (b2.cell (World.block_lt_of_cell? _ _ g0)).trans g0
  have g1 := (b2.cell (World.block_lt_of_cell? _ _ g1)).trans g1
  have g2 := (b2.cell (World.block_lt_of_cell? _ _ g2)).trans g2
  have x0 := (b2.cell (World.block_lt_of_cell? _ _ x0)).trans x0
  have x1 := (b2.cell (World.block_lt_of_cell? _ _ x1)).trans x1
  have x2 := (b2.cell (World.block_lt_of_cell? _ _ x2)).trans x2
  have HBw8 := hide ((unhide HBw7).trans (b2.mono (unhide HBw7).size))
  have HR1 := hide ((unhide HR1).below b2)
  clear b2 hg9 hR9
  go_wp2_with fail
  refine (unhide HN 0 _).mono ?_
  rintro _ wz ⟨rfl, hw⟩
  obtain rfl := hw.symm
  clear hw
  go_wp2_with fail
  refine (sameInts_eq (some ⟨p5, 0, none⟩) (some ⟨p6, 0, none⟩) n n n _ w8 (rov_sli (unhide HR1) hn2) (rov_sli (unhide HR2) hn2) (by omega)).mono ?_
  rintro _ w9 ⟨rfl, mm, hmm⟩
  have b9 : Below w8.heap.size w8 w9 := by rw [hmm]; exact bel_drewN (Below.refl _ _) mm
  clear hmm
  have g0 := (b9.cell (World.block_lt_of_cell? _ _ g0)).trans g0
  have g1 := (b9.cell (World.block_lt_of_cell? _ _ g1)).trans g1
  have g2 := (b9.cell (World.block_lt_of_cell? _ _ g2)).trans g2
  have x0 := (b9.cell (World.block_lt_of_cell? _ _ x0)).trans x0
  have x1 := (b9.cell (World.block_lt_of_cell? _ _ x1)).trans x1
  have x2 := (b9.cell (World.block_lt_of_cell? _ _ x2)).trans x2
  have HBw9 := hide ((unhide HBw8).trans (b9.mono (unhide HBw8).size))
  clear b9
  go_wp2_with fail
  go_ret
  exact ⟨rfl, (unhide HB).trans ((unhide HBw9).mono (unhide HB).size)⟩
end Go.Proofs.YtpicknbdfjjflaaGreatDoor
