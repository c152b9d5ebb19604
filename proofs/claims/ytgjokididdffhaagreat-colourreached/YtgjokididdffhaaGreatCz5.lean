/- Cz5 -/
import Derived.Test.YtgjokididdffhaaGreatChb
import Derived.Test.YtgjokididdffhaaGreatCxr
namespace Go.Proofs.YtgjokididdffhaaGreat
open Go.RowKit Go.Deep
set_option linter.unusedVariables false
set_option maxRecDepth 100000 in
set_option maxHeartbeats 32000000 in
theorem reached_no (k er : Int) (her : (er != 0) = true) (rows width : Int) (a1 : Option Addr) (n1 c1 : Nat) (st : List Int) (a2 : Option Addr) (n2 c2 : Nat) (cols : List Int) (w : World) (h1 : SlI w a1 n1 c1 st) (h2 : SlI w a2 n2 c2 cols) (hL : ∀ W, SlI W a1 n1 c1 st → SlI W a2 n2 c2 cols → Calls Tryz.prog 10 #[.int .i64 k, patV rows width a1 n1 c1 a2 n2 c2] W fun e w' => Below W.heap.size W w' ∧ e = .returned (.tuple #[.int .i64 0, .int .i64 er])) : Calls Tryz.prog 3 #[.int .i64 k, patV rows width a1 n1 c1 a2 n2 c2] w fun e w' => e = .returned (.bool true) ∧ Below w.heap.size w w' := by
  obtain ⟨wb, hwb⟩ : ∃ x, w.alloc (.cells #[.int .i64 rows, .int .i64 width, .slice a1 n1 c1, .slice a2 n2 c2] 25) = x := ⟨_, rfl⟩
  have bb : Below w.heap.size w wb := by rw [← hwb]; exact (Below.refl _ _).alloc (Nat.le_refl _) _
  have hT0 := BoxP.made w #[.int .i64 rows, .int .i64 width, .slice a1 n1 c1, .slice a2 n2 c2] 25
  rw [hwb] at hT0
  have HN := hide (show ∀ W, Below wb.heap.size wb W → BoxP W w.heap.size [.int .i64 rows, .int .i64 width, .slice a1 n1 c1, .slice a2 n2 c2] ∧ SlI W a1 n1 c1 st ∧ SlI W a2 n2 c2 cols ∧ Below w.heap.size w W from fun W b => ⟨hT0.below b, (h1.below bb).below b, (h2.below bb).below b, bb.trans (b.mono bb.size)⟩)
  have HL := hide hL
  clear hT0 bb h1 h2 hL
  unfold patV
  go_enter Tryz.func3, Tryz.ntmps3
  go_wp2_with fail
  refine (calive_any wb).mono ?_
  rintro _ w1 ⟨rfl, b1⟩
  have hx := unhide HN w1 b1
  have p0 := (hx.1.all 0 _ rfl).1
  have p1 := (hx.1.all 1 _ rfl).1
  have p2 := (hx.1.all 2 _ rfl).1
  have p3 := (hx.1.all 3 _ rfl).1
  have HB1 := hide b1
  have KL := unhide HL w1 hx.2.1 hx.2.2.1
  unfold patV at KL
  have KL := hide KL
  clear hx b1
  go_wp2_with fail
  refine (unhide KL).mono ?_
  rintro _ w2 ⟨b2, rfl⟩
  have HB2 := hide (unhide HN w2 ((unhide HB1).trans (b2.mono (unhide HB1).size))).2.2.2
  clear KL b2 p0 p1 p2 p3
  go_wp2_with fail
  refine (num12_any er w2).mono ?_
  rintro _ wn ⟨rfl, hwn⟩
  rw [hwn]
  clear hwn wn
  go_wp2_with fail
  try go_ret
  exact ⟨rfl, unhide HB2⟩
set_option maxRecDepth 100000 in
set_option maxHeartbeats 32000000 in
theorem reached_k1 (rows width : Int) (a1 : Option Addr) (n1 c1 : Nat) (st : List Int) (a2 : Option Addr) (n2 c2 : Nat) (cols : List Int) (w : World) (h1 : SlI w a1 n1 c1 st) (h2 : SlI w a2 n2 c2 cols) (m r : Nat) (V : (Nat → Nat) → Nat → Prop) (hsz : width = (m : Int)) (hY : RcY 1 rows width n1 n2 st cols m r V) (hH : ∃ f z, V f z ∧ z ≤ r) : Calls Tryz.prog 3 #[.int .i64 1, patV rows width a1 n1 c1 a2 n2 c2] w fun e w' => e = .returned (.bool true) ∧ Below w.heap.size w w' := by
  obtain ⟨wb, hwb⟩ : ∃ x, w.alloc (.cells #[.int .i64 rows, .int .i64 width, .slice a1 n1 c1, .slice a2 n2 c2] 25) = x := ⟨_, rfl⟩
  have bb : Below w.heap.size w wb := by rw [← hwb]; exact (Below.refl _ _).alloc (Nat.le_refl _) _
  have hT0 := BoxP.made w #[.int .i64 rows, .int .i64 width, .slice a1 n1 c1, .slice a2 n2 c2] 25
  rw [hwb] at hT0
  have HN := hide (show ∀ W, Below wb.heap.size wb W → BoxP W w.heap.size [.int .i64 rows, .int .i64 width, .slice a1 n1 c1, .slice a2 n2 c2] ∧ SlI W a1 n1 c1 st ∧ SlI W a2 n2 c2 cols ∧ Below w.heap.size w W from fun W b => ⟨hT0.below b, (h1.below bb).below b, (h2.below bb).below b, bb.trans (b.mono bb.size)⟩)
  have hm8 := hY.m8
  have hrm := hY.rle
  have HY := hide hY
  have HBZ := hide (show ∀ B : Nat, OpE V (fun _ => 0) 0 (fun _ => True) (m + 1) B → r ≤ B ∧ B = r from fun B hB => by
    obtain ⟨f, z, hv⟩ := hY.ex
    have hz := hY.vm f z hv
    have hBz := hB.all f z (fun i hi => by omega) hv trivial
    have hlo : r ≤ B := by
      rcases hB.at_ with e | ⟨g, _, h⟩
      · omega
      · exact hY.lo g B h
    obtain ⟨f', z', hv', hz'⟩ := hH
    have := hB.all f' z' (fun i hi => by omega) hv' trivial
    exact ⟨hlo, by omega⟩)
  subst hsz
  have HWB := hide bb
  clear hT0 bb hY hH
  have HSL := hide (And.intro h1 h2)
  clear h1 h2
  unfold patV
  go_enter Tryz.func3, Tryz.ntmps3
  go_wp2_with fail
  refine (calive_any wb).mono ?_
  rintro _ w1 ⟨rfl, b1⟩
  have hx := unhide HN w1 b1
  have p0 := (hx.1.all 0 _ rfl).1
  have p1 := (hx.1.all 1 _ rfl).1
  have p2 := (hx.1.all 2 _ rfl).1
  have p3 := (hx.1.all 3 _ rfl).1
  have HB1 := hide b1
  have KL := (unhide HY).lst a1 a2 c1 c2 w1 hx.2.1 hx.2.2.1
  unfold patV at KL
  have KL := hide KL
  clear hx b1
  go_wp2_with fail
  refine (unhide KL).mono ?_
  rintro _ w2 ⟨b2, rfl⟩
  have HB2 := hide ((unhide HB1).trans (b2.mono (unhide HB1).size))
  clear KL b2 p0 p1 p2 p3
  go_wp2_with fail
  refine (num12_any 0 w2).mono ?_
  rintro _ wn ⟨rfl, hwn⟩
  rw [hwn]
  clear hwn wn
  have hx := unhide HN w2 (unhide HB2)
  have p0 := (hx.1.all 0 _ rfl).1
  have p1 := (hx.1.all 1 _ rfl).1
  have p2 := (hx.1.all 2 _ rfl).1
  have p3 := (hx.1.all 3 _ rfl).1
  clear hx
  have hmk := make_intsR m (by omega)
  have hmb := make_boolsP m (by omega)
  have hw1 : IntKind.i64.wrap ((m : Int) + 1) = (m : Int) + 1 := by rw [IntKind.wrap_i64]; omega
  have d0 : decide ((m : Int) < 0) = false := by simp
  have d8 : ¬ (m : Int) > 8 := by omega
  have m0 : ¬ (m : Int) < 0 := by omega
  have e8 : decide ((m : Int) > 8) = false := by simp; omega
  go_wp2_with fail
  have hRo := RoV.made w2 m 3 (.int .i64 0)
  have ba : Below w2.heap.size w2 (w2.alloc (.cells (madeCells #[.int .i64 0] m) 3)) := (Below.refl _ _).alloc (Nat.le_refl _) _
  have hgo : w2.heap.size < (w2.alloc (.cells (madeCells #[.int .i64 0] m) 3)).heap.size := by simp
  have hbA := (unhide HB2).trans (ba.mono (unhide HB2).size)
  have hgw : wb.heap.size ≤ w2.heap.size := (unhide HB2).size
  generalize w2.alloc (.cells (madeCells #[.int .i64 0] m) 3) = wA at *
  obtain ⟨go, hgoe⟩ : ∃ g, w2.heap.size = g := ⟨_, rfl⟩
  rw [hgoe] at hRo hgo hgw ⊢
  have KO := hide (show Calls Tryz.prog 12 #[.int .i64 1, .agg #[.int .i64 rows, .int .i64 (m : Int), .slice a1 n1 c1, .slice a2 n2 c2], .slice (some ⟨go, 0, none⟩) m m, .slice (some ⟨wA.heap.size, 0, none⟩) m m, .int .i64 0, .int .i64 ((m : Int) + 1)] (wA.alloc (.cells (madeCells #[.bool false] m) 4)).drew fun e w' => ∃ B : Nat, e = .returned (.int .i64 (B : Int)) ∧ OpE V (fun _ => 0) 0 (fun _ => True) (m + 1) B ∧ Below wb.heap.size wb w' from by
    have bx : Below wA.heap.size wA (wA.alloc (.cells (madeCells #[.bool false] m) 4)).drew := ((Below.refl _ _).alloc (Nat.le_refl _) _).drew
    have hbX := hbA.trans (bx.mono hbA.size)
    have hx := unhide HN _ hbX
    have hsl := unhide HSL
    have k := worders_any V 1 rows (m : Int) a1 n1 c1 a2 n2 c2 st cols m go wA.heap.size hm8 (by omega) (unhide HY).vp (unhide HY).vc (unhide HY).vm (fun o W hp s1 s2 s3 => (unhide HY).gr a1 a2 c1 c2 go o W hp s1 s2 s3) m (fun _ => 0) (fun _ => false) 0 (m + 1) (wA.alloc (.cells (madeCells #[.bool false] m) 4)).drew (by omega) (Nat.le_refl _) (fun i hi => by omega) (fun i j hi => by omega) (fun v hv => ⟨fun e => (by cases e), fun ⟨j, hj, _⟩ => (by omega)⟩) hx.2.1 hx.2.2.1 (fun z hz hne => by have := hsl.1.block_lt hne z hz; have := (unhide HWB).size; omega) (fun z hz hne => by have := hsl.2.block_lt hne z hz; have := (unhide HWB).size; omega) (hRo.below bx) ((RoV.made wA m 4 (.bool false)).below ((Below.refl _ _).drew)) (by have := bx.size; omega) (by simp)
    unfold patV at k
    simp only [Int.natCast_zero] at k
    rw [show ((m + 1 : Nat) : Int) = (m : Int) + 1 by omega] at k
    exact k.mono (fun e w' ⟨B, e1, e2, _, _, e5⟩ => ⟨B, e1, e2, hbX.trans (e5.below hbX.size (fun j hj e => by have := hbA.size; omega))⟩))
  have hx := unhide HN wA hbA
  have p0 := (hx.1.all 0 _ rfl).1
  have p1 := (hx.1.all 1 _ rfl).1
  have p2 := (hx.1.all 2 _ rfl).1
  have p3 := (hx.1.all 3 _ rfl).1
  clear hx ba hgoe
  go_region_held3 (fun w' => w'.cell? ⟨w.heap.size, 0, none⟩ = some (.int .i64 rows) ∧ w'.cell? ⟨w.heap.size, 1, none⟩ = some (.int .i64 (m : Int)) ∧ w'.cell? ⟨w.heap.size, 2, none⟩ = some (.slice a1 n1 c1) ∧ w'.cell? ⟨w.heap.size, 3, none⟩ = some (.slice a2 n2 c2)) (first | (exact ⟨p0, p1, p2, p3⟩) | go_keep) ((go_at_call 12; refine (unhide KO).mono ?_; rintro _ w6 ⟨B, rfl, hB, b6⟩; have hn6 := unhide HN w6 b6; clear p0 p1 p2 p3; have p0 := (hn6.1.all 0 _ rfl).1; have p1 := (hn6.1.all 1 _ rfl).1; have p2 := (hn6.1.all 2 _ rfl).1; have p3 := (hn6.1.all 3 _ rfl).1; have HBB := hide hB; have HB6 := hide hn6.2.2.2; clear hB b6 hn6))
  clear p0 p1 p2 p3 KO hRo
  have hfin := unhide HBZ B (unhide HBB)
  have HR0 := hide hrm
  clear hmk hmb
  by_cases hm0 : m = 0
  · subst hm0
    obtain rfl : r = 0 := by omega
    go_wp2_with fail
    try go_ret
    exact ⟨rfl, unhide HB6⟩
  · have hm0' : ((m : Int) == 0) = false := by simp; omega
    obtain ⟨f1, rfl⟩ := hfin
    have g1 : decide (B ≤ B) = true := by simp
    have g2 : decide ((B : Int) ≥ (B : Int)) = true := by simp
    have g3 : ((B : Int) == (B : Int)) = true := by simp
    clear hm0
    go_wp2_with fail
    refine (clines_any 1 false (by simp) (by simp) (by simp) w6).mono ?_
    rintro _ wn ⟨rfl, hwn⟩
    rw [hwn]
    clear hwn wn
    go_wp2_with fail
    try go_ret
    exact ⟨rfl, unhide HB6⟩
set_option maxRecDepth 100000 in
set_option maxHeartbeats 32000000 in
theorem reached_k2 (rows width : Int) (a1 : Option Addr) (n1 c1 : Nat) (st : List Int) (a2 : Option Addr) (n2 c2 : Nat) (cols : List Int) (w : World) (h1 : SlI w a1 n1 c1 st) (h2 : SlI w a2 n2 c2 cols) (m r : Nat) (V : (Nat → Nat) → Nat → Prop) (hsz : width = (m : Int)) (hY : RcY 2 rows width n1 n2 st cols m r V) (hH : ∃ f z, V f z ∧ z ≤ r) : Calls Tryz.prog 3 #[.int .i64 2, patV rows width a1 n1 c1 a2 n2 c2] w fun e w' => e = .returned (.bool true) ∧ Below w.heap.size w w' := by
  obtain ⟨wb, hwb⟩ : ∃ x, w.alloc (.cells #[.int .i64 rows, .int .i64 width, .slice a1 n1 c1, .slice a2 n2 c2] 25) = x := ⟨_, rfl⟩
  have bb : Below w.heap.size w wb := by rw [← hwb]; exact (Below.refl _ _).alloc (Nat.le_refl _) _
  have hT0 := BoxP.made w #[.int .i64 rows, .int .i64 width, .slice a1 n1 c1, .slice a2 n2 c2] 25
  rw [hwb] at hT0
  have HN := hide (show ∀ W, Below wb.heap.size wb W → BoxP W w.heap.size [.int .i64 rows, .int .i64 width, .slice a1 n1 c1, .slice a2 n2 c2] ∧ SlI W a1 n1 c1 st ∧ SlI W a2 n2 c2 cols ∧ Below w.heap.size w W from fun W b => ⟨hT0.below b, (h1.below bb).below b, (h2.below bb).below b, bb.trans (b.mono bb.size)⟩)
  have hm8 := hY.m8
  have hrm := hY.rle
  have HY := hide hY
  have HBZ := hide (show ∀ B : Nat, OpE V (fun _ => 0) 0 (fun _ => True) (m + 1) B → r ≤ B ∧ B = r from fun B hB => by
    obtain ⟨f, z, hv⟩ := hY.ex
    have hz := hY.vm f z hv
    have hBz := hB.all f z (fun i hi => by omega) hv trivial
    have hlo : r ≤ B := by
      rcases hB.at_ with e | ⟨g, _, h⟩
      · omega
      · exact hY.lo g B h
    obtain ⟨f', z', hv', hz'⟩ := hH
    have := hB.all f' z' (fun i hi => by omega) hv' trivial
    exact ⟨hlo, by omega⟩)
  subst hsz
  have HWB := hide bb
  clear hT0 bb hY hH
  have HSL := hide (And.intro h1 h2)
  clear h1 h2
  unfold patV
  go_enter Tryz.func3, Tryz.ntmps3
  go_wp2_with fail
  refine (calive_any wb).mono ?_
  rintro _ w1 ⟨rfl, b1⟩
  have hx := unhide HN w1 b1
  have p0 := (hx.1.all 0 _ rfl).1
  have p1 := (hx.1.all 1 _ rfl).1
  have p2 := (hx.1.all 2 _ rfl).1
  have p3 := (hx.1.all 3 _ rfl).1
  have HB1 := hide b1
  have KL := (unhide HY).lst a1 a2 c1 c2 w1 hx.2.1 hx.2.2.1
  unfold patV at KL
  have KL := hide KL
  clear hx b1
  go_wp2_with fail
  refine (unhide KL).mono ?_
  rintro _ w2 ⟨b2, rfl⟩
  have HB2 := hide ((unhide HB1).trans (b2.mono (unhide HB1).size))
  clear KL b2 p0 p1 p2 p3
  go_wp2_with fail
  refine (num12_any 0 w2).mono ?_
  rintro _ wn ⟨rfl, hwn⟩
  rw [hwn]
  clear hwn wn
  have hx := unhide HN w2 (unhide HB2)
  have p0 := (hx.1.all 0 _ rfl).1
  have p1 := (hx.1.all 1 _ rfl).1
  have p2 := (hx.1.all 2 _ rfl).1
  have p3 := (hx.1.all 3 _ rfl).1
  clear hx
  have hmk := make_intsR m (by omega)
  have hmb := make_boolsP m (by omega)
  have hw1 : IntKind.i64.wrap ((m : Int) + 1) = (m : Int) + 1 := by rw [IntKind.wrap_i64]; omega
  have d0 : decide ((m : Int) < 0) = false := by simp
  have d8 : ¬ (m : Int) > 8 := by omega
  have m0 : ¬ (m : Int) < 0 := by omega
  have e8 : decide ((m : Int) > 8) = false := by simp; omega
  go_wp2_with fail
  have hRo := RoV.made w2 m 3 (.int .i64 0)
  have ba : Below w2.heap.size w2 (w2.alloc (.cells (madeCells #[.int .i64 0] m) 3)) := (Below.refl _ _).alloc (Nat.le_refl _) _
  have hgo : w2.heap.size < (w2.alloc (.cells (madeCells #[.int .i64 0] m) 3)).heap.size := by simp
  have hbA := (unhide HB2).trans (ba.mono (unhide HB2).size)
  have hgw : wb.heap.size ≤ w2.heap.size := (unhide HB2).size
  generalize w2.alloc (.cells (madeCells #[.int .i64 0] m) 3) = wA at *
  obtain ⟨go, hgoe⟩ : ∃ g, w2.heap.size = g := ⟨_, rfl⟩
  rw [hgoe] at hRo hgo hgw ⊢
  have KO := hide (show Calls Tryz.prog 12 #[.int .i64 2, .agg #[.int .i64 rows, .int .i64 (m : Int), .slice a1 n1 c1, .slice a2 n2 c2], .slice (some ⟨go, 0, none⟩) m m, .slice (some ⟨wA.heap.size, 0, none⟩) m m, .int .i64 0, .int .i64 ((m : Int) + 1)] (wA.alloc (.cells (madeCells #[.bool false] m) 4)).drew fun e w' => ∃ B : Nat, e = .returned (.int .i64 (B : Int)) ∧ OpE V (fun _ => 0) 0 (fun _ => True) (m + 1) B ∧ Below wb.heap.size wb w' from by
    have bx : Below wA.heap.size wA (wA.alloc (.cells (madeCells #[.bool false] m) 4)).drew := ((Below.refl _ _).alloc (Nat.le_refl _) _).drew
    have hbX := hbA.trans (bx.mono hbA.size)
    have hx := unhide HN _ hbX
    have hsl := unhide HSL
    have k := worders_any V 2 rows (m : Int) a1 n1 c1 a2 n2 c2 st cols m go wA.heap.size hm8 (by omega) (unhide HY).vp (unhide HY).vc (unhide HY).vm (fun o W hp s1 s2 s3 => (unhide HY).gr a1 a2 c1 c2 go o W hp s1 s2 s3) m (fun _ => 0) (fun _ => false) 0 (m + 1) (wA.alloc (.cells (madeCells #[.bool false] m) 4)).drew (by omega) (Nat.le_refl _) (fun i hi => by omega) (fun i j hi => by omega) (fun v hv => ⟨fun e => (by cases e), fun ⟨j, hj, _⟩ => (by omega)⟩) hx.2.1 hx.2.2.1 (fun z hz hne => by have := hsl.1.block_lt hne z hz; have := (unhide HWB).size; omega) (fun z hz hne => by have := hsl.2.block_lt hne z hz; have := (unhide HWB).size; omega) (hRo.below bx) ((RoV.made wA m 4 (.bool false)).below ((Below.refl _ _).drew)) (by have := bx.size; omega) (by simp)
    unfold patV at k
    simp only [Int.natCast_zero] at k
    rw [show ((m + 1 : Nat) : Int) = (m : Int) + 1 by omega] at k
    exact k.mono (fun e w' ⟨B, e1, e2, _, _, e5⟩ => ⟨B, e1, e2, hbX.trans (e5.below hbX.size (fun j hj e => by have := hbA.size; omega))⟩))
  have hx := unhide HN wA hbA
  have p0 := (hx.1.all 0 _ rfl).1
  have p1 := (hx.1.all 1 _ rfl).1
  have p2 := (hx.1.all 2 _ rfl).1
  have p3 := (hx.1.all 3 _ rfl).1
  clear hx ba hgoe
  go_region_held3 (fun w' => w'.cell? ⟨w.heap.size, 0, none⟩ = some (.int .i64 rows) ∧ w'.cell? ⟨w.heap.size, 1, none⟩ = some (.int .i64 (m : Int)) ∧ w'.cell? ⟨w.heap.size, 2, none⟩ = some (.slice a1 n1 c1) ∧ w'.cell? ⟨w.heap.size, 3, none⟩ = some (.slice a2 n2 c2)) (first | (exact ⟨p0, p1, p2, p3⟩) | go_keep) ((go_at_call 12; refine (unhide KO).mono ?_; rintro _ w6 ⟨B, rfl, hB, b6⟩; have hn6 := unhide HN w6 b6; clear p0 p1 p2 p3; have p0 := (hn6.1.all 0 _ rfl).1; have p1 := (hn6.1.all 1 _ rfl).1; have p2 := (hn6.1.all 2 _ rfl).1; have p3 := (hn6.1.all 3 _ rfl).1; have HBB := hide hB; have HB6 := hide hn6.2.2.2; clear hB b6 hn6))
  clear p0 p1 p2 p3 KO hRo
  have hfin := unhide HBZ B (unhide HBB)
  have HR0 := hide hrm
  clear hmk hmb
  by_cases hm0 : m = 0
  · subst hm0
    obtain rfl : r = 0 := by omega
    go_wp2_with fail
    try go_ret
    exact ⟨rfl, unhide HB6⟩
  · have hm0' : ((m : Int) == 0) = false := by simp; omega
    obtain ⟨f1, rfl⟩ := hfin
    have g1 : decide (B ≤ B) = true := by simp
    have g2 : decide ((B : Int) ≥ (B : Int)) = true := by simp
    have g3 : ((B : Int) == (B : Int)) = true := by simp
    clear hm0
    go_wp2_with fail
    refine (clines_any 2 true (by simp) (by simp) (by simp) w6).mono ?_
    rintro _ wn ⟨rfl, hwn⟩
    rw [hwn]
    clear hwn wn
    go_wp2_with fail
    try go_ret
    exact ⟨rfl, unhide HB6⟩
set_option maxRecDepth 100000 in
set_option maxHeartbeats 32000000 in
theorem reached_k3 (rows width : Int) (a1 : Option Addr) (n1 c1 : Nat) (st : List Int) (a2 : Option Addr) (n2 c2 : Nat) (cols : List Int) (w : World) (h1 : SlI w a1 n1 c1 st) (h2 : SlI w a2 n2 c2 cols) (m r : Nat) (V : (Nat → Nat) → Nat → Prop) (hsz : rows = (m : Int)) (hY : RcY 3 rows width n1 n2 st cols m r V) (hH : ∃ f z, V f z ∧ z ≤ r) : Calls Tryz.prog 3 #[.int .i64 3, patV rows width a1 n1 c1 a2 n2 c2] w fun e w' => e = .returned (.bool true) ∧ Below w.heap.size w w' := by
  obtain ⟨wb, hwb⟩ : ∃ x, w.alloc (.cells #[.int .i64 rows, .int .i64 width, .slice a1 n1 c1, .slice a2 n2 c2] 25) = x := ⟨_, rfl⟩
  have bb : Below w.heap.size w wb := by rw [← hwb]; exact (Below.refl _ _).alloc (Nat.le_refl _) _
  have hT0 := BoxP.made w #[.int .i64 rows, .int .i64 width, .slice a1 n1 c1, .slice a2 n2 c2] 25
  rw [hwb] at hT0
  have HN := hide (show ∀ W, Below wb.heap.size wb W → BoxP W w.heap.size [.int .i64 rows, .int .i64 width, .slice a1 n1 c1, .slice a2 n2 c2] ∧ SlI W a1 n1 c1 st ∧ SlI W a2 n2 c2 cols ∧ Below w.heap.size w W from fun W b => ⟨hT0.below b, (h1.below bb).below b, (h2.below bb).below b, bb.trans (b.mono bb.size)⟩)
  have hm8 := hY.m8
  have hrm := hY.rle
  have HY := hide hY
  have HBZ := hide (show ∀ B : Nat, OpE V (fun _ => 0) 0 (fun _ => True) (m + 1) B → r ≤ B ∧ B = r from fun B hB => by
    obtain ⟨f, z, hv⟩ := hY.ex
    have hz := hY.vm f z hv
    have hBz := hB.all f z (fun i hi => by omega) hv trivial
    have hlo : r ≤ B := by
      rcases hB.at_ with e | ⟨g, _, h⟩
      · omega
      · exact hY.lo g B h
    obtain ⟨f', z', hv', hz'⟩ := hH
    have := hB.all f' z' (fun i hi => by omega) hv' trivial
    exact ⟨hlo, by omega⟩)
  subst hsz
  have HWB := hide bb
  clear hT0 bb hY hH
  have HSL := hide (And.intro h1 h2)
  clear h1 h2
  unfold patV
  go_enter Tryz.func3, Tryz.ntmps3
  go_wp2_with fail
  refine (calive_any wb).mono ?_
  rintro _ w1 ⟨rfl, b1⟩
  have hx := unhide HN w1 b1
  have p0 := (hx.1.all 0 _ rfl).1
  have p1 := (hx.1.all 1 _ rfl).1
  have p2 := (hx.1.all 2 _ rfl).1
  have p3 := (hx.1.all 3 _ rfl).1
  have HB1 := hide b1
  have KL := (unhide HY).lst a1 a2 c1 c2 w1 hx.2.1 hx.2.2.1
  unfold patV at KL
  have KL := hide KL
  clear hx b1
  go_wp2_with fail
  refine (unhide KL).mono ?_
  rintro _ w2 ⟨b2, rfl⟩
  have HB2 := hide ((unhide HB1).trans (b2.mono (unhide HB1).size))
  clear KL b2 p0 p1 p2 p3
  go_wp2_with fail
  refine (num12_any 0 w2).mono ?_
  rintro _ wn ⟨rfl, hwn⟩
  rw [hwn]
  clear hwn wn
  have hx := unhide HN w2 (unhide HB2)
  have p0 := (hx.1.all 0 _ rfl).1
  have p1 := (hx.1.all 1 _ rfl).1
  have p2 := (hx.1.all 2 _ rfl).1
  have p3 := (hx.1.all 3 _ rfl).1
  clear hx
  have hmk := make_intsR m (by omega)
  have hmb := make_boolsP m (by omega)
  have hw1 : IntKind.i64.wrap ((m : Int) + 1) = (m : Int) + 1 := by rw [IntKind.wrap_i64]; omega
  have d0 : decide ((m : Int) < 0) = false := by simp
  have d8 : ¬ (m : Int) > 8 := by omega
  have m0 : ¬ (m : Int) < 0 := by omega
  have e8 : decide ((m : Int) > 8) = false := by simp; omega
  go_wp2_with fail
  have hRo := RoV.made w2 m 3 (.int .i64 0)
  have ba : Below w2.heap.size w2 (w2.alloc (.cells (madeCells #[.int .i64 0] m) 3)) := (Below.refl _ _).alloc (Nat.le_refl _) _
  have hgo : w2.heap.size < (w2.alloc (.cells (madeCells #[.int .i64 0] m) 3)).heap.size := by simp
  have hbA := (unhide HB2).trans (ba.mono (unhide HB2).size)
  have hgw : wb.heap.size ≤ w2.heap.size := (unhide HB2).size
  generalize w2.alloc (.cells (madeCells #[.int .i64 0] m) 3) = wA at *
  obtain ⟨go, hgoe⟩ : ∃ g, w2.heap.size = g := ⟨_, rfl⟩
  rw [hgoe] at hRo hgo hgw ⊢
  have KO := hide (show Calls Tryz.prog 12 #[.int .i64 3, .agg #[.int .i64 (m : Int), .int .i64 width, .slice a1 n1 c1, .slice a2 n2 c2], .slice (some ⟨go, 0, none⟩) m m, .slice (some ⟨wA.heap.size, 0, none⟩) m m, .int .i64 0, .int .i64 ((m : Int) + 1)] (wA.alloc (.cells (madeCells #[.bool false] m) 4)).drew fun e w' => ∃ B : Nat, e = .returned (.int .i64 (B : Int)) ∧ OpE V (fun _ => 0) 0 (fun _ => True) (m + 1) B ∧ Below wb.heap.size wb w' from by
    have bx : Below wA.heap.size wA (wA.alloc (.cells (madeCells #[.bool false] m) 4)).drew := ((Below.refl _ _).alloc (Nat.le_refl _) _).drew
    have hbX := hbA.trans (bx.mono hbA.size)
    have hx := unhide HN _ hbX
    have hsl := unhide HSL
    have k := worders_any V 3 (m : Int) width a1 n1 c1 a2 n2 c2 st cols m go wA.heap.size hm8 (by omega) (unhide HY).vp (unhide HY).vc (unhide HY).vm (fun o W hp s1 s2 s3 => (unhide HY).gr a1 a2 c1 c2 go o W hp s1 s2 s3) m (fun _ => 0) (fun _ => false) 0 (m + 1) (wA.alloc (.cells (madeCells #[.bool false] m) 4)).drew (by omega) (Nat.le_refl _) (fun i hi => by omega) (fun i j hi => by omega) (fun v hv => ⟨fun e => (by cases e), fun ⟨j, hj, _⟩ => (by omega)⟩) hx.2.1 hx.2.2.1 (fun z hz hne => by have := hsl.1.block_lt hne z hz; have := (unhide HWB).size; omega) (fun z hz hne => by have := hsl.2.block_lt hne z hz; have := (unhide HWB).size; omega) (hRo.below bx) ((RoV.made wA m 4 (.bool false)).below ((Below.refl _ _).drew)) (by have := bx.size; omega) (by simp)
    unfold patV at k
    simp only [Int.natCast_zero] at k
    rw [show ((m + 1 : Nat) : Int) = (m : Int) + 1 by omega] at k
    exact k.mono (fun e w' ⟨B, e1, e2, _, _, e5⟩ => ⟨B, e1, e2, hbX.trans (e5.below hbX.size (fun j hj e => by have := hbA.size; omega))⟩))
  have hx := unhide HN wA hbA
  have p0 := (hx.1.all 0 _ rfl).1
  have p1 := (hx.1.all 1 _ rfl).1
  have p2 := (hx.1.all 2 _ rfl).1
  have p3 := (hx.1.all 3 _ rfl).1
  clear hx ba hgoe
  go_region_held3 (fun w' => w'.cell? ⟨w.heap.size, 0, none⟩ = some (.int .i64 (m : Int)) ∧ w'.cell? ⟨w.heap.size, 1, none⟩ = some (.int .i64 width) ∧ w'.cell? ⟨w.heap.size, 2, none⟩ = some (.slice a1 n1 c1) ∧ w'.cell? ⟨w.heap.size, 3, none⟩ = some (.slice a2 n2 c2)) (first | (exact ⟨p0, p1, p2, p3⟩) | go_keep) ((go_at_call 12; refine (unhide KO).mono ?_; rintro _ w6 ⟨B, rfl, hB, b6⟩; have hn6 := unhide HN w6 b6; clear p0 p1 p2 p3; have p0 := (hn6.1.all 0 _ rfl).1; have p1 := (hn6.1.all 1 _ rfl).1; have p2 := (hn6.1.all 2 _ rfl).1; have p3 := (hn6.1.all 3 _ rfl).1; have HBB := hide hB; have HB6 := hide hn6.2.2.2; clear hB b6 hn6))
  clear p0 p1 p2 p3 KO hRo
  have hfin := unhide HBZ B (unhide HBB)
  have HR0 := hide hrm
  clear hmk hmb
  by_cases hm0 : m = 0
  · subst hm0
    obtain rfl : r = 0 := by omega
    go_wp2_with fail
    try go_ret
    exact ⟨rfl, unhide HB6⟩
  · have hm0' : ((m : Int) == 0) = false := by simp; omega
    obtain ⟨f1, rfl⟩ := hfin
    have g1 : decide (B ≤ B) = true := by simp
    have g2 : decide ((B : Int) ≥ (B : Int)) = true := by simp
    have g3 : ((B : Int) == (B : Int)) = true := by simp
    clear hm0
    go_wp2_with fail
    refine (clines_any 3 true (by simp) (by simp) (by simp) w6).mono ?_
    rintro _ wn ⟨rfl, hwn⟩
    rw [hwn]
    clear hwn wn
    go_wp2_with fail
    try go_ret
    exact ⟨rfl, unhide HB6⟩
set_option maxRecDepth 100000 in
set_option maxHeartbeats 32000000 in
theorem reached_k4 (rows width : Int) (a1 : Option Addr) (n1 c1 : Nat) (st : List Int) (a2 : Option Addr) (n2 c2 : Nat) (cols : List Int) (w : World) (h1 : SlI w a1 n1 c1 st) (h2 : SlI w a2 n2 c2 cols) (m r : Nat) (V : (Nat → Nat) → Nat → Prop) (hsz : width = (m : Int)) (hY : RcY 4 rows width n1 n2 st cols m r V) : Calls Tryz.prog 3 #[.int .i64 4, patV rows width a1 n1 c1 a2 n2 c2] w fun e w' => e = .returned (.bool true) ∧ Below w.heap.size w w' := by
  obtain ⟨wb, hwb⟩ : ∃ x, w.alloc (.cells #[.int .i64 rows, .int .i64 width, .slice a1 n1 c1, .slice a2 n2 c2] 25) = x := ⟨_, rfl⟩
  have bb : Below w.heap.size w wb := by rw [← hwb]; exact (Below.refl _ _).alloc (Nat.le_refl _) _
  have hT0 := BoxP.made w #[.int .i64 rows, .int .i64 width, .slice a1 n1 c1, .slice a2 n2 c2] 25
  rw [hwb] at hT0
  have HN := hide (show ∀ W, Below wb.heap.size wb W → BoxP W w.heap.size [.int .i64 rows, .int .i64 width, .slice a1 n1 c1, .slice a2 n2 c2] ∧ SlI W a1 n1 c1 st ∧ SlI W a2 n2 c2 cols ∧ Below w.heap.size w W from fun W b => ⟨hT0.below b, (h1.below bb).below b, (h2.below bb).below b, bb.trans (b.mono bb.size)⟩)
  have hm8 := hY.m8
  have hrm := hY.rle
  have HY := hide hY
  have HBZ := hide (show ∀ B : Nat, OpE V (fun _ => 0) 0 (fun _ => True) (m + 1) B → r ≤ B from fun B hB => by
    obtain ⟨f, z, hv⟩ := hY.ex
    have hz := hY.vm f z hv
    have hBz := hB.all f z (fun i hi => by omega) hv trivial
    have hlo : r ≤ B := by
      rcases hB.at_ with e | ⟨g, _, h⟩
      · omega
      · exact hY.lo g B h
    exact hlo)
  subst hsz
  have HWB := hide bb
  clear hT0 bb hY
  have HSL := hide (And.intro h1 h2)
  clear h1 h2
  unfold patV
  go_enter Tryz.func3, Tryz.ntmps3
  go_wp2_with fail
  refine (calive_any wb).mono ?_
  rintro _ w1 ⟨rfl, b1⟩
  have hx := unhide HN w1 b1
  have p0 := (hx.1.all 0 _ rfl).1
  have p1 := (hx.1.all 1 _ rfl).1
  have p2 := (hx.1.all 2 _ rfl).1
  have p3 := (hx.1.all 3 _ rfl).1
  have HB1 := hide b1
  have KL := (unhide HY).lst a1 a2 c1 c2 w1 hx.2.1 hx.2.2.1
  unfold patV at KL
  have KL := hide KL
  clear hx b1
  go_wp2_with fail
  refine (unhide KL).mono ?_
  rintro _ w2 ⟨b2, rfl⟩
  have HB2 := hide ((unhide HB1).trans (b2.mono (unhide HB1).size))
  clear KL b2 p0 p1 p2 p3
  go_wp2_with fail
  refine (num12_any 0 w2).mono ?_
  rintro _ wn ⟨rfl, hwn⟩
  rw [hwn]
  clear hwn wn
  have hx := unhide HN w2 (unhide HB2)
  have p0 := (hx.1.all 0 _ rfl).1
  have p1 := (hx.1.all 1 _ rfl).1
  have p2 := (hx.1.all 2 _ rfl).1
  have p3 := (hx.1.all 3 _ rfl).1
  clear hx
  have hmk := make_intsR m (by omega)
  have hmb := make_boolsP m (by omega)
  have hw1 : IntKind.i64.wrap ((m : Int) + 1) = (m : Int) + 1 := by rw [IntKind.wrap_i64]; omega
  have d0 : decide ((m : Int) < 0) = false := by simp
  have d8 : ¬ (m : Int) > 8 := by omega
  have m0 : ¬ (m : Int) < 0 := by omega
  have e8 : decide ((m : Int) > 8) = false := by simp; omega
  go_wp2_with fail
  have hRo := RoV.made w2 m 3 (.int .i64 0)
  have ba : Below w2.heap.size w2 (w2.alloc (.cells (madeCells #[.int .i64 0] m) 3)) := (Below.refl _ _).alloc (Nat.le_refl _) _
  have hgo : w2.heap.size < (w2.alloc (.cells (madeCells #[.int .i64 0] m) 3)).heap.size := by simp
  have hbA := (unhide HB2).trans (ba.mono (unhide HB2).size)
  have hgw : wb.heap.size ≤ w2.heap.size := (unhide HB2).size
  generalize w2.alloc (.cells (madeCells #[.int .i64 0] m) 3) = wA at *
  obtain ⟨go, hgoe⟩ : ∃ g, w2.heap.size = g := ⟨_, rfl⟩
  rw [hgoe] at hRo hgo hgw ⊢
  have KO := hide (show Calls Tryz.prog 12 #[.int .i64 4, .agg #[.int .i64 rows, .int .i64 (m : Int), .slice a1 n1 c1, .slice a2 n2 c2], .slice (some ⟨go, 0, none⟩) m m, .slice (some ⟨wA.heap.size, 0, none⟩) m m, .int .i64 0, .int .i64 ((m : Int) + 1)] (wA.alloc (.cells (madeCells #[.bool false] m) 4)).drew fun e w' => ∃ B : Nat, e = .returned (.int .i64 (B : Int)) ∧ OpE V (fun _ => 0) 0 (fun _ => True) (m + 1) B ∧ Below wb.heap.size wb w' from by
    have bx : Below wA.heap.size wA (wA.alloc (.cells (madeCells #[.bool false] m) 4)).drew := ((Below.refl _ _).alloc (Nat.le_refl _) _).drew
    have hbX := hbA.trans (bx.mono hbA.size)
    have hx := unhide HN _ hbX
    have hsl := unhide HSL
    have k := worders_any V 4 rows (m : Int) a1 n1 c1 a2 n2 c2 st cols m go wA.heap.size hm8 (by omega) (unhide HY).vp (unhide HY).vc (unhide HY).vm (fun o W hp s1 s2 s3 => (unhide HY).gr a1 a2 c1 c2 go o W hp s1 s2 s3) m (fun _ => 0) (fun _ => false) 0 (m + 1) (wA.alloc (.cells (madeCells #[.bool false] m) 4)).drew (by omega) (Nat.le_refl _) (fun i hi => by omega) (fun i j hi => by omega) (fun v hv => ⟨fun e => (by cases e), fun ⟨j, hj, _⟩ => (by omega)⟩) hx.2.1 hx.2.2.1 (fun z hz hne => by have := hsl.1.block_lt hne z hz; have := (unhide HWB).size; omega) (fun z hz hne => by have := hsl.2.block_lt hne z hz; have := (unhide HWB).size; omega) (hRo.below bx) ((RoV.made wA m 4 (.bool false)).below ((Below.refl _ _).drew)) (by have := bx.size; omega) (by simp)
    unfold patV at k
    simp only [Int.natCast_zero] at k
    rw [show ((m + 1 : Nat) : Int) = (m : Int) + 1 by omega] at k
    exact k.mono (fun e w' ⟨B, e1, e2, _, _, e5⟩ => ⟨B, e1, e2, hbX.trans (e5.below hbX.size (fun j hj e => by have := hbA.size; omega))⟩))
  have hx := unhide HN wA hbA
  have p0 := (hx.1.all 0 _ rfl).1
  have p1 := (hx.1.all 1 _ rfl).1
  have p2 := (hx.1.all 2 _ rfl).1
  have p3 := (hx.1.all 3 _ rfl).1
  clear hx ba hgoe
  go_region_held3 (fun w' => w'.cell? ⟨w.heap.size, 0, none⟩ = some (.int .i64 rows) ∧ w'.cell? ⟨w.heap.size, 1, none⟩ = some (.int .i64 (m : Int)) ∧ w'.cell? ⟨w.heap.size, 2, none⟩ = some (.slice a1 n1 c1) ∧ w'.cell? ⟨w.heap.size, 3, none⟩ = some (.slice a2 n2 c2)) (first | (exact ⟨p0, p1, p2, p3⟩) | go_keep) ((go_at_call 12; refine (unhide KO).mono ?_; rintro _ w6 ⟨B, rfl, hB, b6⟩; have hn6 := unhide HN w6 b6; clear p0 p1 p2 p3; have p0 := (hn6.1.all 0 _ rfl).1; have p1 := (hn6.1.all 1 _ rfl).1; have p2 := (hn6.1.all 2 _ rfl).1; have p3 := (hn6.1.all 3 _ rfl).1; have HBB := hide hB; have HB6 := hide hn6.2.2.2; clear hB b6 hn6))
  clear p0 p1 p2 p3 KO hRo
  have hfin := unhide HBZ B (unhide HBB)
  have HR0 := hide hrm
  clear hmk hmb
  by_cases hm0 : m = 0
  · subst hm0
    obtain rfl : r = 0 := by omega
    go_wp2_with fail
    try go_ret
    exact ⟨rfl, unhide HB6⟩
  · have hm0' : ((m : Int) == 0) = false := by simp; omega
    have g1 : decide (r ≤ B) = true := by simp; omega
    have g2 : (B : Int) ≥ (r : Int) := by omega
    clear hm0
    go_wp2_with fail
    refine (clines_any 4 false (by simp) (by simp) (by simp) w6).mono ?_
    rintro _ wn ⟨rfl, hwn⟩
    rw [hwn]
    clear hwn wn
    go_wp2_with fail
    try go_ret
    exact ⟨rfl, unhide HB6⟩
set_option maxRecDepth 100000 in
set_option maxHeartbeats 32000000 in
theorem reached_k5 (rows width : Int) (a1 : Option Addr) (n1 c1 : Nat) (st : List Int) (a2 : Option Addr) (n2 c2 : Nat) (cols : List Int) (w : World) (h1 : SlI w a1 n1 c1 st) (h2 : SlI w a2 n2 c2 cols) (m r : Nat) (V : (Nat → Nat) → Nat → Prop) (hsz : width = (m : Int)) (hY : RcY 5 rows width n1 n2 st cols m r V) : Calls Tryz.prog 3 #[.int .i64 5, patV rows width a1 n1 c1 a2 n2 c2] w fun e w' => e = .returned (.bool true) ∧ Below w.heap.size w w' := by
  obtain ⟨wb, hwb⟩ : ∃ x, w.alloc (.cells #[.int .i64 rows, .int .i64 width, .slice a1 n1 c1, .slice a2 n2 c2] 25) = x := ⟨_, rfl⟩
  have bb : Below w.heap.size w wb := by rw [← hwb]; exact (Below.refl _ _).alloc (Nat.le_refl _) _
  have hT0 := BoxP.made w #[.int .i64 rows, .int .i64 width, .slice a1 n1 c1, .slice a2 n2 c2] 25
  rw [hwb] at hT0
  have HN := hide (show ∀ W, Below wb.heap.size wb W → BoxP W w.heap.size [.int .i64 rows, .int .i64 width, .slice a1 n1 c1, .slice a2 n2 c2] ∧ SlI W a1 n1 c1 st ∧ SlI W a2 n2 c2 cols ∧ Below w.heap.size w W from fun W b => ⟨hT0.below b, (h1.below bb).below b, (h2.below bb).below b, bb.trans (b.mono bb.size)⟩)
  have hm8 := hY.m8
  have hrm := hY.rle
  have HY := hide hY
  have HBZ := hide (show ∀ B : Nat, OpE V (fun _ => 0) 0 (fun _ => True) (m + 1) B → r ≤ B from fun B hB => by
    obtain ⟨f, z, hv⟩ := hY.ex
    have hz := hY.vm f z hv
    have hBz := hB.all f z (fun i hi => by omega) hv trivial
    have hlo : r ≤ B := by
      rcases hB.at_ with e | ⟨g, _, h⟩
      · omega
      · exact hY.lo g B h
    exact hlo)
  subst hsz
  have HWB := hide bb
  clear hT0 bb hY
  have HSL := hide (And.intro h1 h2)
  clear h1 h2
  unfold patV
  go_enter Tryz.func3, Tryz.ntmps3
  go_wp2_with fail
  refine (calive_any wb).mono ?_
  rintro _ w1 ⟨rfl, b1⟩
  have hx := unhide HN w1 b1
  have p0 := (hx.1.all 0 _ rfl).1
  have p1 := (hx.1.all 1 _ rfl).1
  have p2 := (hx.1.all 2 _ rfl).1
  have p3 := (hx.1.all 3 _ rfl).1
  have HB1 := hide b1
  have KL := (unhide HY).lst a1 a2 c1 c2 w1 hx.2.1 hx.2.2.1
  unfold patV at KL
  have KL := hide KL
  clear hx b1
  go_wp2_with fail
  refine (unhide KL).mono ?_
  rintro _ w2 ⟨b2, rfl⟩
  have HB2 := hide ((unhide HB1).trans (b2.mono (unhide HB1).size))
  clear KL b2 p0 p1 p2 p3
  go_wp2_with fail
  refine (num12_any 0 w2).mono ?_
  rintro _ wn ⟨rfl, hwn⟩
  rw [hwn]
  clear hwn wn
  have hx := unhide HN w2 (unhide HB2)
  have p0 := (hx.1.all 0 _ rfl).1
  have p1 := (hx.1.all 1 _ rfl).1
  have p2 := (hx.1.all 2 _ rfl).1
  have p3 := (hx.1.all 3 _ rfl).1
  clear hx
  have hmk := make_intsR m (by omega)
  have hmb := make_boolsP m (by omega)
  have hw1 : IntKind.i64.wrap ((m : Int) + 1) = (m : Int) + 1 := by rw [IntKind.wrap_i64]; omega
  have d0 : decide ((m : Int) < 0) = false := by simp
  have d8 : ¬ (m : Int) > 8 := by omega
  have m0 : ¬ (m : Int) < 0 := by omega
  have e8 : decide ((m : Int) > 8) = false := by simp; omega
  go_wp2_with fail
  have hRo := RoV.made w2 m 3 (.int .i64 0)
  have ba : Below w2.heap.size w2 (w2.alloc (.cells (madeCells #[.int .i64 0] m) 3)) := (Below.refl _ _).alloc (Nat.le_refl _) _
  have hgo : w2.heap.size < (w2.alloc (.cells (madeCells #[.int .i64 0] m) 3)).heap.size := by simp
  have hbA := (unhide HB2).trans (ba.mono (unhide HB2).size)
  have hgw : wb.heap.size ≤ w2.heap.size := (unhide HB2).size
  generalize w2.alloc (.cells (madeCells #[.int .i64 0] m) 3) = wA at *
  obtain ⟨go, hgoe⟩ : ∃ g, w2.heap.size = g := ⟨_, rfl⟩
  rw [hgoe] at hRo hgo hgw ⊢
  have KO := hide (show Calls Tryz.prog 12 #[.int .i64 5, .agg #[.int .i64 rows, .int .i64 (m : Int), .slice a1 n1 c1, .slice a2 n2 c2], .slice (some ⟨go, 0, none⟩) m m, .slice (some ⟨wA.heap.size, 0, none⟩) m m, .int .i64 0, .int .i64 ((m : Int) + 1)] (wA.alloc (.cells (madeCells #[.bool false] m) 4)).drew fun e w' => ∃ B : Nat, e = .returned (.int .i64 (B : Int)) ∧ OpE V (fun _ => 0) 0 (fun _ => True) (m + 1) B ∧ Below wb.heap.size wb w' from by
    have bx : Below wA.heap.size wA (wA.alloc (.cells (madeCells #[.bool false] m) 4)).drew := ((Below.refl _ _).alloc (Nat.le_refl _) _).drew
    have hbX := hbA.trans (bx.mono hbA.size)
    have hx := unhide HN _ hbX
    have hsl := unhide HSL
    have k := worders_any V 5 rows (m : Int) a1 n1 c1 a2 n2 c2 st cols m go wA.heap.size hm8 (by omega) (unhide HY).vp (unhide HY).vc (unhide HY).vm (fun o W hp s1 s2 s3 => (unhide HY).gr a1 a2 c1 c2 go o W hp s1 s2 s3) m (fun _ => 0) (fun _ => false) 0 (m + 1) (wA.alloc (.cells (madeCells #[.bool false] m) 4)).drew (by omega) (Nat.le_refl _) (fun i hi => by omega) (fun i j hi => by omega) (fun v hv => ⟨fun e => (by cases e), fun ⟨j, hj, _⟩ => (by omega)⟩) hx.2.1 hx.2.2.1 (fun z hz hne => by have := hsl.1.block_lt hne z hz; have := (unhide HWB).size; omega) (fun z hz hne => by have := hsl.2.block_lt hne z hz; have := (unhide HWB).size; omega) (hRo.below bx) ((RoV.made wA m 4 (.bool false)).below ((Below.refl _ _).drew)) (by have := bx.size; omega) (by simp)
    unfold patV at k
    simp only [Int.natCast_zero] at k
    rw [show ((m + 1 : Nat) : Int) = (m : Int) + 1 by omega] at k
    exact k.mono (fun e w' ⟨B, e1, e2, _, _, e5⟩ => ⟨B, e1, e2, hbX.trans (e5.below hbX.size (fun j hj e => by have := hbA.size; omega))⟩))
  have hx := unhide HN wA hbA
  have p0 := (hx.1.all 0 _ rfl).1
  have p1 := (hx.1.all 1 _ rfl).1
  have p2 := (hx.1.all 2 _ rfl).1
  have p3 := (hx.1.all 3 _ rfl).1
  clear hx ba hgoe
  go_region_held3 (fun w' => w'.cell? ⟨w.heap.size, 0, none⟩ = some (.int .i64 rows) ∧ w'.cell? ⟨w.heap.size, 1, none⟩ = some (.int .i64 (m : Int)) ∧ w'.cell? ⟨w.heap.size, 2, none⟩ = some (.slice a1 n1 c1) ∧ w'.cell? ⟨w.heap.size, 3, none⟩ = some (.slice a2 n2 c2)) (first | (exact ⟨p0, p1, p2, p3⟩) | go_keep) ((go_at_call 12; refine (unhide KO).mono ?_; rintro _ w6 ⟨B, rfl, hB, b6⟩; have hn6 := unhide HN w6 b6; clear p0 p1 p2 p3; have p0 := (hn6.1.all 0 _ rfl).1; have p1 := (hn6.1.all 1 _ rfl).1; have p2 := (hn6.1.all 2 _ rfl).1; have p3 := (hn6.1.all 3 _ rfl).1; have HBB := hide hB; have HB6 := hide hn6.2.2.2; clear hB b6 hn6))
  clear p0 p1 p2 p3 KO hRo
  have hfin := unhide HBZ B (unhide HBB)
  have HR0 := hide hrm
  clear hmk hmb
  by_cases hm0 : m = 0
  · subst hm0
    obtain rfl : r = 0 := by omega
    go_wp2_with fail
    try go_ret
    exact ⟨rfl, unhide HB6⟩
  · have hm0' : ((m : Int) == 0) = false := by simp; omega
    have g1 : decide (r ≤ B) = true := by simp; omega
    have g2 : (B : Int) ≥ (r : Int) := by omega
    clear hm0
    go_wp2_with fail
    refine (clines_any 5 false (by simp) (by simp) (by simp) w6).mono ?_
    rintro _ wn ⟨rfl, hwn⟩
    rw [hwn]
    clear hwn wn
    go_wp2_with fail
    try go_ret
    exact ⟨rfl, unhide HB6⟩
end Go.Proofs.YtgjokididdffhaaGreat
