/- Ubd -/
import Derived.Test.YtbbicappjicblaaGreatDoorUe3
import Derived.Test.YtbbicappjicblaaGreatDoorUc5
import Derived.Test.YtbbicappjicblaaGreatDoorTd0
import Derived.Test.YtbbicappjicblaaGreatDoorTe4
import Derived.Test.YtbbicappjicblaaGreatDoorRows
import Derived.LaidMore
import Derived.Lib.LaidTab
import Derived.Stop.Joined
namespace Go.Proofs.YtbbicappjicblaaGreatDoor
open Go.RowKit Go.Deep
set_option linter.unusedVariables false
set_option linter.unusedSimpArgs false
set_option maxRecDepth 100000 in
set_option maxHeartbeats 64000000 in
theorem reachDegrees_yes (i : Int) (a : Option Addr) (n c : Nat) (os : List On) (b : Option Addr) (m d : Nat) (ys : List Int) (w : World) (hZ : TapZ w a n c os b m d ys) (hnb : n ≤ 1048576) (hT : Tab64 w) (hS : TabSh w) (he : (chF i os ys).2 = 0) :
  Calls Tryz.prog 4 #[tapV i a n c b m d] w fun e w' => e = .returned (.bool true) ∧ Below w.heap.size w w' := by
 obtain ⟨wa, hwa⟩ : ∃ x, w.alloc (.cells #[.int .i64 i, .slice a n c, .slice b m d] 25) = x := ⟨_, rfl⟩
 have bx : BoxP wa w.heap.size [.int .i64 i, .slice a n c, .slice b m d] := by rw [← hwa]; exact BoxP.made _ _ _
 have hba : Below w.heap.size w wa := by rw [← hwa]; exact (Below.refl _ _).alloc (Nat.le_refl _) _
 have d0 := (bx.all 0 _ rfl).1
 have d1 := (bx.all 1 _ rfl).1
 have d2 := (bx.all 2 _ rfl).1
 have hG := GtK.made (w0 := wa) (w := wa) (Below.refl _ _) n
 unfold givO at hG
 obtain ⟨wg, hwg⟩ : ∃ x, wa.alloc (.cells #[.slice none 0 0, .slice none 0 0, .slice none 0 0, .slice none 0 0, .slice none 0 0, .slice none 0 0, .slice none 0 0, .slice none 0 0, .slice none 0 0, .slice none 0 0, .slice none 0 0, .slice none 0 0, .slice none 0 0, .slice none 0 0, .slice none 0 0, .slice none 0 0, .slice none 0 0, .slice none 0 0, .slice none 0 0, .slice none 0 0] 37) = x := ⟨_, rfl⟩
 rw [hwg] at hG
 have hbg : Below wa.heap.size wa wg := by rw [← hwg]; exact (Below.refl _ _).alloc (Nat.le_refl _) _
 have hZa : TapZ wa a n c os b m d ys := ⟨hZ.o.below hba, hZ.i.below hba, hZ.ln, hZ.lm, hZ.sz, hZ.nil⟩
 have HG := hide hG
 have HZ := hide hZa
 have HB := hide hba
 have HBg := hide hbg
 have HT := hide (And.intro (hT.below hba) (hS.below hba))
 have hk := TpOk.of he
 obtain ⟨I, rfl⟩ : ∃ I : Nat, i = (I : Int) := ⟨i.toNat, by have := hk.li; omega⟩
 have hn2 : n ≤ 2048 := by have := hk.lo; have := hZ.o.len; omega
 have hm2 : m ≤ 64 := by have := hk.ly; have := hZ.i.len; omega
 have HE := hide he
 have hmz : m ≤ 17592186044000 := hZ.lm
 have p0 := (hbg.cell (World.block_lt_of_cell? _ _ d0)).trans d0
 have p1 := (hbg.cell (World.block_lt_of_cell? _ _ d1)).trans d1
 have p2 := (hbg.cell (World.block_lt_of_cell? _ _ d2)).trans d2
 clear bx hba hbg hG hZ hZa hT hS he
 try unfold tapV
 go_enter Tryz.func4, Tryz.ntmps4
 go_wp2_with fail
 have K1 := gtape_law2 (i := (I : Int)) (unhide HBg) (Nat.le_refl _) (unhide HG) (by omega) hnb (unhide HZ)
 unfold tapV at K1
 refine K1.mono ?_
 clear K1
 rintro _ w1 ⟨_, rfl, ⟨A1, c1, qs1, B1, e1, rfl, hq1, hq2, hq3⟩, hgk1, hbl1, _⟩
 try dsimp only
 have HQ1 := hide (And.intro hq1 (And.intro hq2 hq3))
 have HG1 := hide hgk1
 have HB1 := hide hbl1
 clear hq1 hq2 hq3 hgk1 hbl1
 try unfold tapV
 have K2 := rDegree_yes I (some ⟨A1, 0, none⟩) n c1 qs1 (some ⟨B1, 0, none⟩) m e1 ys w1 (unhide HQ1).1 (unhide HQ1).2.1 ((unhide HT).1.below (unhide HB1)) ((unhide HT).2.below (unhide HB1)) (by rw [chF_con (unhide HQ1).2.2]; exact unhide HE)
 unfold tapV at K2
 have HK2 := hide K2
 clear K2
 go_wp2_with fail
 refine (unhide HK2).mono ?_
 rintro _ w2 ⟨z2, zc2, rfl, hz2, hf2, b2⟩
 rw [dgF_con (unhide HQ1).2.2 I] at hz2
 have HZ2 := hide hz2
 have HF2 := hide hf2
 have HB2 := hide ((unhide HB1).trans (b2.mono (unhide HB1).size))
 have HG2 := hide ((unhide HG1).below b2)
 have HB12 := hide b2.size
 clear hz2 hf2 b2 HK2
 have p0 := ((unhide HB2).cell (World.block_lt_of_cell? _ _ d0)).trans d0
 have p1 := ((unhide HB2).cell (World.block_lt_of_cell? _ _ d1)).trans d1
 have p2 := ((unhide HB2).cell (World.block_lt_of_cell? _ _ d2)).trans d2
 have K3 := wDegree_yes I a n c os b m d ys w2 ((unhide HZ).o.below (unhide HB2)) ((unhide HZ).i.below (unhide HB2)) ((unhide HT).1.below (unhide HB2)) (unhide HE)
 unfold tapV at K3
 have HK3 := hide K3
 clear K3
 go_wp2_with fail
 refine (unhide HK3).mono ?_
 rintro _ w3 ⟨z3, zc3, rfl, hz3, hf3, b3⟩
 have HZ3 := hide (And.intro ((unhide HZ2).below b3) hz3)
 have HF3 := hide (show ∀ y, z3 = some y → w1.heap.size ≤ y.block from fun y e => by have h1 := hf3 y e; have h2 := unhide HB12; omega)
 have HB3 := hide ((unhide HB2).trans (b3.mono (unhide HB2).size))
 have HG3 := hide ((unhide HG2).below b3)
 have HB13 := hide b3
 clear b3 HK3 hz3 hf3
 have p0 := ((unhide HB3).cell (World.block_lt_of_cell? _ _ d0)).trans d0
 have p1 := ((unhide HB3).cell (World.block_lt_of_cell? _ _ d1)).trans d1
 have p2 := ((unhide HB3).cell (World.block_lt_of_cell? _ _ d2)).trans d2
 have K4 := gtape_law2 (i := (I : Int)) (unhide HB3) (Nat.le_refl _) (unhide HG3) (by omega) hnb (unhide HZ)
 unfold tapV at K4
 have HK4 := hide K4
 clear K4
 go_wp2_with fail
 refine (unhide HK4).mono ?_
 rintro _ w4 ⟨_, rfl, ⟨A4, c4, qs4, B4, e4, rfl, hq1, hq2, hq3⟩, hgk4, hbl4, hch4⟩
 try dsimp only
 have HQ4 := hide (And.intro hq1 (And.intro hq2 hq3))
 have HG4 := hide hgk4
 have HB4 := hide hbl4
 have HZ4 := hide (show SlI w4 z2 n zc2 ((List.range n).map (dgF I os n)) ∧ SlI w4 z3 n zc3 ((List.range n).map (dgF I os n)) from ⟨(unhide HZ3).1.chg hch4 (fun y e hne h => by have h1 := unhide HF2 y e; have h2 := h.2; omega), (unhide HZ3).2.chg hch4 (fun y e hne h => by have h1 := unhide HF3 y e; have h2 := h.2; omega)⟩)
 clear hq1 hq2 hq3 hgk4 hbl4 hch4 HK4
 have p0 := ((unhide HB4).cell (World.block_lt_of_cell? _ _ d0)).trans d0
 have p1 := ((unhide HB4).cell (World.block_lt_of_cell? _ _ d1)).trans d1
 have p2 := ((unhide HB4).cell (World.block_lt_of_cell? _ _ d2)).trans d2
 try unfold tapV
 have K5 := rLinear_yes I (some ⟨A4, 0, none⟩) n c4 qs4 (some ⟨B4, 0, none⟩) m e4 ys w4 (unhide HQ4).1 (unhide HQ4).2.1 ((unhide HT).1.below (unhide HB4)) ((unhide HT).2.below (unhide HB4)) (by rw [chF_con (unhide HQ4).2.2]; exact unhide HE)
 unfold tapV at K5
 have HK5 := hide K5
 clear K5
 go_wp2_with fail
 refine (unhide HK5).mono ?_
 rintro _ w5 ⟨g5, zc5, rfl, hr5, b5⟩
 rw [btF_con (unhide HQ4).2.2 I] at hr5
 have HR5 := hide hr5
 have HB5 := hide ((unhide HB4).trans (b5.mono (unhide HB4).size))
 have HG5 := hide ((unhide HG4).below b5)
 have HZ5 := hide (And.intro ((unhide HZ4).1.below b5) ((unhide HZ4).2.below b5))
 clear b5 HK5 hr5
 have p0 := ((unhide HB5).cell (World.block_lt_of_cell? _ _ d0)).trans d0
 have p1 := ((unhide HB5).cell (World.block_lt_of_cell? _ _ d1)).trans d1
 have p2 := ((unhide HB5).cell (World.block_lt_of_cell? _ _ d2)).trans d2
 have K6 := wLinear_yes I a n c os b m d ys w5 ((unhide HZ).o.below (unhide HB5)) ((unhide HZ).i.below (unhide HB5)) ((unhide HT).1.below (unhide HB5)) (unhide HE)
 unfold tapV at K6
 have HK6 := hide K6
 clear K6
 go_wp2_with fail
 refine (unhide HK6).mono ?_
 rintro _ w6 ⟨g6, zc6, rfl, hr6, b6⟩
 have HR6 := hide (And.intro ((unhide HR5).below b6) hr6)
 have HZ6 := hide (And.intro ((unhide HZ5).1.below b6) ((unhide HZ5).2.below b6))
 have HB6 := hide ((unhide HB5).trans (b6.mono (unhide HB5).size))
 have HG6 := hide ((unhide HG5).below b6)
 clear b6 HK6 hr6
 have HW6 := hide ((unhide HB).trans ((unhide HB6).mono (unhide HB).size))
 have hnum := fun x : Int => num10_any x w6
 have HSI := hide (sameInts_eq z2 z3 n zc2 zc3 _ w6 (unhide HZ6).1 (unhide HZ6).2 (by omega))
 have HNU := hide hnum
 clear hnum
 go_wp2_with fail
 refine (unhide HNU 0).mono ?_
 rintro _ w7 ⟨rfl, h7⟩
 obtain rfl := h7.symm
 clear h7
 go_wp2_with fail
 refine (unhide HSI).mono ?_
 rintro _ w7 ⟨rfl, k7, h7⟩
 have b7 : Below w6.heap.size w6 w7 := by rw [h7]; exact bel_drewN (Below.refl _ _) k7
 have HW7 := hide ((unhide HW6).trans (b7.mono (unhide HW6).size))
 have HG7 := hide ((unhide HG6).below b7)
 have HR7 := hide (And.intro ((unhide HR6).1.below b7) ((unhide HR6).2.below b7))
 clear b7 HSI h7
 go_wp2_with fail
 refine (num10_any 0 w7).mono ?_
 rintro _ w8 ⟨rfl, h8⟩
 obtain rfl := h8.symm
 clear h8
 go_wp2_with fail
 refine (sameBools_cap g5 g6 m zc5 zc6 _ w7 (unhide HR7).1 (unhide HR7).2 (by omega)).mono ?_
 rintro _ w9 ⟨rfl, b9⟩
 have HW9 := hide ((unhide HW7).trans (b9.mono (unhide HW7).size))
 have HG9 := hide ((unhide HG7).below b9)
 clear b9
 go_wp2_with fail
 refine (unhide HG9).intact.mono ?_
 rintro _ wx ⟨rfl, bx⟩
 have HWX := hide ((unhide HW9).trans (bx.mono (unhide HW9).size))
 clear bx
 go_wp2_with fail
 try go_ret
 exact ⟨rfl, unhide HWX⟩
set_option maxRecDepth 100000 in
set_option maxHeartbeats 64000000 in
theorem reachDegrees_no (i : Int) (a : Option Addr) (n c : Nat) (os : List On) (b : Option Addr) (m d : Nat) (ys : List Int) (w : World) (hZ : TapZ w a n c os b m d ys) (hnb : n ≤ 1048576) (hT : Tab64 w) (hS : TabSh w) (he : (chF i os ys).2 ≠ 0) :
  Calls Tryz.prog 4 #[tapV i a n c b m d] w fun e w' => e = .returned (.bool true) ∧ Below w.heap.size w w' := by
 obtain ⟨wa, hwa⟩ : ∃ x, w.alloc (.cells #[.int .i64 i, .slice a n c, .slice b m d] 25) = x := ⟨_, rfl⟩
 have bx : BoxP wa w.heap.size [.int .i64 i, .slice a n c, .slice b m d] := by rw [← hwa]; exact BoxP.made _ _ _
 have hba : Below w.heap.size w wa := by rw [← hwa]; exact (Below.refl _ _).alloc (Nat.le_refl _) _
 have d0 := (bx.all 0 _ rfl).1
 have d1 := (bx.all 1 _ rfl).1
 have d2 := (bx.all 2 _ rfl).1
 have hG := GtK.made (w0 := wa) (w := wa) (Below.refl _ _) n
 unfold givO at hG
 obtain ⟨wg, hwg⟩ : ∃ x, wa.alloc (.cells #[.slice none 0 0, .slice none 0 0, .slice none 0 0, .slice none 0 0, .slice none 0 0, .slice none 0 0, .slice none 0 0, .slice none 0 0, .slice none 0 0, .slice none 0 0, .slice none 0 0, .slice none 0 0, .slice none 0 0, .slice none 0 0, .slice none 0 0, .slice none 0 0, .slice none 0 0, .slice none 0 0, .slice none 0 0, .slice none 0 0] 37) = x := ⟨_, rfl⟩
 rw [hwg] at hG
 have hbg : Below wa.heap.size wa wg := by rw [← hwg]; exact (Below.refl _ _).alloc (Nat.le_refl _) _
 have hZa : TapZ wa a n c os b m d ys := ⟨hZ.o.below hba, hZ.i.below hba, hZ.ln, hZ.lm, hZ.sz, hZ.nil⟩
 have HG := hide hG
 have HZ := hide hZa
 have HB := hide hba
 have HBg := hide hbg
 have HT := hide (And.intro (hT.below hba) (hS.below hba))
 have HE := hide he
 have hmz : m ≤ 17592186044000 := hZ.lm
 have p0 := (hbg.cell (World.block_lt_of_cell? _ _ d0)).trans d0
 have p1 := (hbg.cell (World.block_lt_of_cell? _ _ d1)).trans d1
 have p2 := (hbg.cell (World.block_lt_of_cell? _ _ d2)).trans d2
 clear bx hba hbg hG hZ hZa hT hS he
 try unfold tapV
 go_enter Tryz.func4, Tryz.ntmps4
 go_wp2_with fail
 have K1 := gtape_law2 (i := i) (unhide HBg) (Nat.le_refl _) (unhide HG) (by omega) hnb (unhide HZ)
 unfold tapV at K1
 refine K1.mono ?_
 clear K1
 rintro _ w1 ⟨_, rfl, ⟨A1, c1, qs1, B1, e1, rfl, hq1, hq2, hq3⟩, hgk1, hbl1, _⟩
 try dsimp only
 have HQ1 := hide (And.intro hq1 (And.intro hq2 hq3))
 have HG1 := hide hgk1
 have HB1 := hide hbl1
 clear hq1 hq2 hq3 hgk1 hbl1
 try unfold tapV
 have K2 := rDegree_no i (some ⟨A1, 0, none⟩) n c1 qs1 (some ⟨B1, 0, none⟩) m e1 ys w1 (unhide HQ1).1 (unhide HQ1).2.1 ((unhide HT).1.below (unhide HB1)) ((unhide HT).2.below (unhide HB1)) (by rw [chF_con (unhide HQ1).2.2]; exact unhide HE)
 rw [chF_con (unhide HQ1).2.2] at K2
 unfold tapV at K2
 obtain ⟨E, hE⟩ : ∃ x, (chF i os ys).2 = x := ⟨_, rfl⟩
 obtain ⟨F, hF⟩ : ∃ x, (chF i os ys).1 = x := ⟨_, rfl⟩
 rw [hE, hF] at K2
 have HEE := hide hE
 have HFF := hide hF
 have HK2 := hide K2
 clear K2 hE hF
 go_wp2_with fail
 refine (unhide HK2).mono ?_
 rintro _ w2 ⟨rfl, b2⟩
 have HB2 := hide ((unhide HB1).trans (b2.mono (unhide HB1).size))
 have HG2 := hide ((unhide HG1).below b2)
 clear b2 HK2
 have p0 := ((unhide HB2).cell (World.block_lt_of_cell? _ _ d0)).trans d0
 have p1 := ((unhide HB2).cell (World.block_lt_of_cell? _ _ d1)).trans d1
 have p2 := ((unhide HB2).cell (World.block_lt_of_cell? _ _ d2)).trans d2
 have K3 := wDegree_no i a n c os b m d ys w2 ((unhide HZ).o.below (unhide HB2)) ((unhide HZ).i.below (unhide HB2)) ((unhide HT).1.below (unhide HB2)) (unhide HE)
 unfold tapV at K3
 rw [unhide HEE, unhide HFF] at K3
 have HK3 := hide K3
 clear K3
 go_wp2_with fail
 refine (unhide HK3).mono ?_
 rintro _ w3 ⟨rfl, b3⟩
 have HB3 := hide ((unhide HB2).trans (b3.mono (unhide HB2).size))
 have HG3 := hide ((unhide HG2).below b3)
 have HB13 := hide b3
 clear b3 HK3
 have p0 := ((unhide HB3).cell (World.block_lt_of_cell? _ _ d0)).trans d0
 have p1 := ((unhide HB3).cell (World.block_lt_of_cell? _ _ d1)).trans d1
 have p2 := ((unhide HB3).cell (World.block_lt_of_cell? _ _ d2)).trans d2
 have K4 := gtape_law2 (i := i) (unhide HB3) (Nat.le_refl _) (unhide HG3) (by omega) hnb (unhide HZ)
 unfold tapV at K4
 have HK4 := hide K4
 clear K4
 go_wp2_with fail
 refine (unhide HK4).mono ?_
 rintro _ w4 ⟨_, rfl, ⟨A4, c4, qs4, B4, e4, rfl, hq1, hq2, hq3⟩, hgk4, hbl4, hch4⟩
 try dsimp only
 have HQ4 := hide (And.intro hq1 (And.intro hq2 hq3))
 have HG4 := hide hgk4
 have HB4 := hide hbl4
 clear hq1 hq2 hq3 hgk4 hbl4 hch4 HK4
 have p0 := ((unhide HB4).cell (World.block_lt_of_cell? _ _ d0)).trans d0
 have p1 := ((unhide HB4).cell (World.block_lt_of_cell? _ _ d1)).trans d1
 have p2 := ((unhide HB4).cell (World.block_lt_of_cell? _ _ d2)).trans d2
 try unfold tapV
 have K5 := rLinear_no i (some ⟨A4, 0, none⟩) n c4 qs4 (some ⟨B4, 0, none⟩) m e4 ys w4 (unhide HQ4).1 (unhide HQ4).2.1 ((unhide HT).1.below (unhide HB4)) ((unhide HT).2.below (unhide HB4)) (by rw [chF_con (unhide HQ4).2.2]; exact unhide HE)
 rw [chF_con (unhide HQ4).2.2, unhide HEE, unhide HFF] at K5
 unfold tapV at K5
 have HK5 := hide K5
 clear K5
 go_wp2_with fail
 refine (unhide HK5).mono ?_
 rintro _ w5 ⟨rfl, b5⟩
 have HB5 := hide ((unhide HB4).trans (b5.mono (unhide HB4).size))
 have HG5 := hide ((unhide HG4).below b5)
 clear b5 HK5
 have p0 := ((unhide HB5).cell (World.block_lt_of_cell? _ _ d0)).trans d0
 have p1 := ((unhide HB5).cell (World.block_lt_of_cell? _ _ d1)).trans d1
 have p2 := ((unhide HB5).cell (World.block_lt_of_cell? _ _ d2)).trans d2
 have K6 := wLinear_no i a n c os b m d ys w5 ((unhide HZ).o.below (unhide HB5)) ((unhide HZ).i.below (unhide HB5)) ((unhide HT).1.below (unhide HB5)) (unhide HE)
 unfold tapV at K6
 rw [unhide HEE, unhide HFF] at K6
 have HK6 := hide K6
 clear K6
 go_wp2_with fail
 refine (unhide HK6).mono ?_
 rintro _ w6 ⟨rfl, b6⟩
 have HB6 := hide ((unhide HB5).trans (b6.mono (unhide HB5).size))
 have HG6 := hide ((unhide HG5).below b6)
 clear b6 HK6
 have HW6 := hide ((unhide HB).trans ((unhide HB6).mono (unhide HB).size))
 have hnum := fun x : Int => num10_any x w6
 have HSI := hide (sameInts_eq none none 0 0 0 [] w6 (SlI.nil _) (SlI.nil _) (by omega))
 have e1 : (E == E) = true := by simp
 have e2 : (F == F) = true := by simp
 have HNU := hide hnum
 clear hnum
 go_wp2_with fail
 refine (unhide HNU E).mono ?_
 rintro _ w7 ⟨rfl, h7⟩
 obtain rfl := h7.symm
 clear h7
 go_wp2_with fail
 refine (unhide HSI).mono ?_
 rintro _ w7 ⟨rfl, k7, h7⟩
 have b7 : Below w6.heap.size w6 w7 := by rw [h7]; exact bel_drewN (Below.refl _ _) k7
 have HW7 := hide ((unhide HW6).trans (b7.mono (unhide HW6).size))
 have HG7 := hide ((unhide HG6).below b7)
 clear b7 HSI h7
 go_wp2_with fail
 refine (num10_any E w7).mono ?_
 rintro _ w8 ⟨rfl, h8⟩
 obtain rfl := h8.symm
 clear h8
 go_wp2_with fail
 refine (sameBools_nil w7).mono ?_
 rintro _ w9 ⟨rfl, b9⟩
 have HW9 := hide ((unhide HW7).trans (b9.mono (unhide HW7).size))
 have HG9 := hide ((unhide HG7).below b9)
 clear b9
 go_wp2_with fail
 refine (unhide HG9).intact.mono ?_
 rintro _ wx ⟨rfl, bx⟩
 have HWX := hide ((unhide HW9).trans (bx.mono (unhide HW9).size))
 clear bx
 go_wp2_with fail
 try go_ret
 exact ⟨rfl, unhide HWX⟩
theorem reachDegrees_walk (i : Int) (a : Option Addr) (n c : Nat) (os : List On) (b : Option Addr) (m d : Nat) (ys : List Int) (w : World) (hZ : TapZ w a n c os b m d ys) (hnb : n ≤ 1048576) (hT : Tab64 w) (hS : TabSh w) :
  Calls Tryz.prog 4 #[tapV i a n c b m d] w fun e w' => e = .returned (.bool true) ∧ Below w.heap.size w w' := by
 by_cases he : (chF i os ys).2 = 0
 ·exact reachDegrees_yes i a n c os b m d ys w hZ hnb hT hS he
 ·exact reachDegrees_no i a n c os b m d ys w hZ hnb hT hS he
end Go.Proofs.YtbbicappjicblaaGreatDoor
namespace Go.Proofs.YtbbicappjicblaaGreatDoor
open Go.ChangeShapes Go.WideShapes Go.ChangeAt Go.RowKit Go.Deep
set_option linter.unusedVariables false
theorem tap_bulk {H : Type} {enc : TypeId × Value → H} {W : World} {d : DataW H} {p : List MemPlace} {i : Int} {a : Option Addr} {n c : Nat} {b : Option Addr} {m e : Nat}
  (h : DataW.Trod enc Tryz.prog W 0 (fun _ => true) true 25 (tapV i a n c b m e) d p) : n ≤ Rows.uptoBulk d := by
 obtain ⟨fuel, hf⟩ := h
 obtain ⟨y0, y1, y2, k, hx, hl, h0, h1, h2⟩ := trod_struct3 Tryz.underlying25 hf
 have hcs : (tapV i a n c b m e).cells.toList = [.int .i64 i, .slice a n c, .slice b m e] := by simp [tapV, Value.cells]
 rw [hcs] at h0 h1 h2
 have hd : d = .agg [y0.1, y1.1, y2.1] := by injection hx
 simp only [List.drop_zero, List.drop_succ_cons, law_cellsI, law_cellsIs, law_cellsOs, List.take_succ_cons, List.take_zero] at h0 h1 h2
 rw [hd]
 simp only [Rows.uptoBulk, Rows.uptoBulkAll]
 rcases DataW.trod_slice Tryz.underlying22 h1 with ⟨hcs, _⟩ | ⟨a', n', c', elems, rest, m', _, hcs, hx, hb, hl, hm, hlen, hel, hsp, hns⟩
 ·have e1 : n = 0 := by
   have := List.cons.inj hcs
   have := Value.slice.inj this.1
   exact this.2.1
  omega
 ·have e1 : n = n' := by
   have := List.cons.inj hcs
   have := Value.slice.inj this.1
   exact this.2.1
  have hy : y1.1 = .slice (elems.map Prod.fst) (rest.map Prod.fst) := by rw [hx]
  rw [hy]
  simp only [Rows.uptoBulk]
  have := bulk_len (elems.map Prod.fst)
  rw [List.length_map] at this
  omega
def shD (k : Nat) : DataW Unit := .agg [.lit (.string ((shW k).map UInt8.ofNat)), .lit (.bool (shA k)), .lit (.bool (shB k)), .lit (.bool (shN k)), .lit (.bool (shC k))]
theorem take5 {cs : List Value} {a : Nat} {v0 v1 v2 v3 v4 : Value} (h0 : (cs.drop (a * 5)).take 5 = [v0, v1, v2, v3, v4]) (j : Nat) (hj : j < 5) : cs[a * 5 + j]? = [v0, v1, v2, v3, v4][j]? := by
 have h : ((cs.drop (a * 5)).take 5)[j]? = [v0, v1, v2, v3, v4][j]? := by rw [h0]
 rw [List.getElem?_take, if_pos hj, List.getElem?_drop] at h
 exact h
theorem strB_of {s : ByteArray} {k : Nat} (h : s.data.toList = (shW k).map UInt8.ofNat) : s = strB (shW k) := by
 have e : strB (shW k) = ⟨((shW k).map UInt8.ofNat).toArray⟩ := by
  unfold shW
  split <;> rfl
 rw [e, ← h]
set_option maxRecDepth 100000 in
theorem shapes_tab {W : World} {rest : List (String × DataW Unit)} (h : laidMet Tryz.prog (("slope/tape.shapes", Rows.laid_slope_tape_shapes) :: rest) W) : TabSh W := by
 obtain ⟨ps, ⟨g', t', cs, fuel, p, q, hg', ht', hvar, hD, _, _⟩, _⟩ := h
 have hg : Tryz.prog.globalNamed "slope/tape.shapes" = some 0 := by kernel_rfl
 obtain rfl := Option.some.inj (hg.symm.trans hg')
 obtain rfl := Option.some.inj ((show (Tryz.prog.globals[0]?).map (·.type) = some 176 by kernel_rfl).symm.trans ht')
 have e : (Rows.laid_slope_tape_shapes : DataW Unit) = .agg ((List.range 9).map shD) := by kernel_rfl
 rw [e] at hD
 obtain ⟨xs, f1, _, ex, hl, hxl, hel⟩ := DataW.trod_array Tryz.underlying176 hD
 have e1 := DataW.agg.inj (Prod.mk.inj ex).1
 intro a j ha hj
 have hE := hel a ha
 rw [show Tryz.prog.cellsOf 164 = 5 from by kernel_rfl] at hE
 have hd : ((List.range 9).map shD)[a]? = some (shD a) := by simp [ha]
 rw [e1, List.getElem?_map] at hd
 cases hxa : xs[a]? with
 | none => rw [hxa] at hd; cases hd
 | some ya =>
  rw [hxa] at hd hE
  simp only [Option.map_some, Option.some.injEq] at hd
  obtain ⟨d1, q1⟩ := ya
  dsimp only at hd
  subst hd
  obtain ⟨y0, y1, y2, y3, y4, k, hx, hl5, h0, h1, h2, h3, h4⟩ := trod_s5 Tryz.underlying164 hE
  simp only [show Tryz.prog.cellsOf 9 = 1 from by kernel_rfl, show Tryz.prog.cellsOf 4 = 1 from by kernel_rfl] at h0 h1 h2 h3 h4
  obtain ⟨s, c0, r0, _⟩ := DataW.trod_string Tryz.underlying9 h0
  obtain ⟨b1, c1, r1⟩ := DataW.trod_bool Tryz.underlying4 h1
  obtain ⟨b2, c2, r2⟩ := DataW.trod_bool Tryz.underlying4 h2
  obtain ⟨b3, c3, r3⟩ := DataW.trod_bool Tryz.underlying4 h3
  obtain ⟨b4, c4, r4⟩ := DataW.trod_bool Tryz.underlying4 h4
  have hx1 := (Prod.mk.inj hx).1
  unfold shD at hx1
  simp only [DataW.agg.injEq, List.cons.injEq, r0, r1, r2, r3, r4, DataW.lit.injEq, Lit.string.injEq, Lit.bool.injEq, and_true] at hx1
  obtain ⟨z0, z1, z2, z3, z4⟩ := hx1
  have h5 : ((cs.toList.drop (a * 5)).take 5) = [.string s, .bool b1, .bool b2, .bool b3, .bool b4] := by
   rw [show Tryz.prog.cellsOf 164 = 5 from by kernel_rfl] at hl5
   generalize (cs.toList.drop (a * 5)).take 5 = l at *
   match l, hl5 with
   | [u0, u1, u2, u3, u4], _ =>
    simp only [List.drop_zero, List.drop_succ_cons, List.take_succ_cons, List.take_zero, List.cons.injEq, and_true] at c0 c1 c2 c3 c4
    rw [c0, c1, c2, c3, c4]
  rw [World.var?_cell hg hvar (a * 5 + j)]
  have h6 := take5 h5 j hj
  rw [strB_of z0.symm, ← z1, ← z2, ← z3, ← z4] at h6
  simpa [shV] using h6
end Go.Proofs.YtbbicappjicblaaGreatDoor
