/- Cxr -/
import Derived.Test.YtgjokididdffhaaGreatCxq
import Derived.Test.YtgjokididdffhaaGreatChh
namespace Go.Proofs.YtgjokididdffhaaGreat
open Go.RowKit Go.Deep
set_option linter.unusedVariables false
set_option maxHeartbeats 1600000 in
theorem clines_any (k : Int) (ok : Bool) (h2 : (k == 2) = true → ok = true) (h3 : (k == 3) = true → ok = true) (hn : (k == 2) = false → (k == 3) = false → ok = false) (w : World) : Calls Tryz.prog 13 #[.int .i64 k] w fun e w' => e = .returned (.bool ok) ∧ w' = w := by
  cases e2 : (k == 2)
  · cases e3 : (k == 3)
    · have h := hn e2 e3
      subst h
      clear h2 h3 hn
      go_enter Tryz.func13, Tryz.ntmps13
      go_wp2_with fail
      go_ret
      exact ⟨rfl, rfl⟩
    · have h := h3 e3
      subst h
      clear h2 h3 hn
      go_enter Tryz.func13, Tryz.ntmps13
      go_wp2_with fail
      go_ret
      exact ⟨rfl, rfl⟩
  · have h := h2 e2
    subst h
    clear h2 h3 hn
    go_enter Tryz.func13, Tryz.ntmps13
    go_wp2_with fail
    go_ret
    exact ⟨rfl, rfl⟩
set_option maxRecDepth 100000 in
set_option maxHeartbeats 16000000 in
theorem shown_none (k er : Int) (rows width : Int) (a1 : Option Addr) (n1 c1 : Nat) (st : List Int) (a2 : Option Addr) (n2 c2 : Nat) (cols : List Int) (a : Option Addr) (n c : Nat) (xs : List Int) (w : World) (h1 : SlI w a1 n1 c1 st) (h2 : SlI w a2 n2 c2 cols) (h3 : SlI w a n c xs) (hb1 : n1 ≤ 17592186044000) (hb2 : n2 ≤ 17592186044000) (hT : ChT k rows width n1 n2 n st cols xs [] er) : Calls Tryz.prog 4 #[.int .i64 k, patV rows width a1 n1 c1 a2 n2 c2, .slice a n c] w fun e w' => e = .returned (.bool true) ∧ Below w.heap.size w w' := by
  obtain ⟨wb, hwb⟩ : ∃ x, w.alloc (.cells #[.int .i64 rows, .int .i64 width, .slice a1 n1 c1, .slice a2 n2 c2] 25) = x := ⟨_, rfl⟩
  have bb : Below w.heap.size w wb := by rw [← hwb]; exact (Below.refl _ _).alloc (Nat.le_refl _) _
  have hT0 := BoxP.made w #[.int .i64 rows, .int .i64 width, .slice a1 n1 c1, .slice a2 n2 c2] 25
  rw [hwb] at hT0
  have HN := hide (show ∀ W, Below wb.heap.size wb W → BoxP W w.heap.size [.int .i64 rows, .int .i64 width, .slice a1 n1 c1, .slice a2 n2 c2] ∧ SlI W a1 n1 c1 st ∧ SlI W a2 n2 c2 cols ∧ SlI W a n c xs ∧ Below w.heap.size w W from fun W b => ⟨hT0.below b, (h1.below bb).below b, (h2.below bb).below b, (h3.below bb).below b, bb.trans (b.mono bb.size)⟩)
  have HT := hide hT
  clear hT0 bb h1 h2 h3 hT
  unfold patV
  go_enter Tryz.func4, Tryz.ntmps4
  go_wp2_with fail
  refine (calive_any wb).mono ?_
  rintro _ w1 ⟨rfl, b1⟩
  have hx := unhide HN w1 b1
  have p0 := (hx.1.all 0 _ rfl).1
  have p1 := (hx.1.all 1 _ rfl).1
  have p2 := (hx.1.all 2 _ rfl).1
  have p3 := (hx.1.all 3 _ rfl).1
  have KF := (unhide HT).one a1 a2 a c1 c2 c w1 hx.2.1 hx.2.2.1 hx.2.2.2.1
  unfold patV at KF
  have KF := hide KF
  have HB1 := hide b1
  clear hx b1
  go_wp2_with fail
  refine (unhide KF).mono ?_
  rintro _ w2 ⟨b2, al, cl, rfl, hol⟩
  have hSL : SlI w2 al 0 cl ([] : List Int) := by
    obtain ⟨a9, c9, e9, s9⟩ := own_slI hol
    cases e9
    exact s9
  have HB2 := hide ((unhide HB1).trans (b2.mono (unhide HB1).size))
  have HSL := hide (show ∀ W, Below w2.heap.size w2 W → SlI W al 0 cl ([] : List Int) from fun W b => hSL.below b)
  have HNB := hide (show ∀ W, Below w2.heap.size w2 W → BoxP W w.heap.size [.int .i64 rows, .int .i64 width, .slice a1 n1 c1, .slice a2 n2 c2] ∧ SlI W a1 n1 c1 st ∧ SlI W a2 n2 c2 cols ∧ SlI W a n c xs ∧ Below w.heap.size w W from fun W b => unhide HN W ((unhide HB2).trans (b.mono (unhide HB2).size)))
  have hx := (unhide HNB w2 (Below.refl _ _)).1
  clear KF hSL hol b2 p0 p1 p2 p3
  have p0 := (hx.all 0 _ rfl).1
  have p1 := (hx.all 1 _ rfl).1
  have p2 := (hx.all 2 _ rfl).1
  have p3 := (hx.all 3 _ rfl).1
  have KC := cCheck_by k rows width er ([] : List Int) a1 a2 a n1 c1 n2 c2 n c w2 (fun W b => (unhide HT).one a1 a2 a c1 c2 c W (unhide HNB W b).2.1 (unhide HNB W b).2.2.1 (unhide HNB W b).2.2.2.1)
  unfold patV at KC
  clear hx
  have hck : ckE [] er = er := rfl
  rw [hck] at KC
  have KC := hide KC
  have e2 : (er == er) = true := by simp
  by_cases h0 : er = 0
  · subst h0
    go_wp2_with fail
    refine (num12_any 0 w2).mono ?_
    rintro _ wn ⟨rfl, hwn⟩
    rw [hwn]
    clear hwn wn
    go_wp2_with fail
    refine (unhide KC).mono ?_
    rintro _ w3 ⟨rfl, b3⟩
    have HB3 := hide (unhide HNB w3 b3).2.2.2.2
    clear KC b3 p0 p1 p2 p3
    go_wp2_with fail
    try go_ret
    exact ⟨rfl, unhide HB3⟩
  · have e0 : (er != 0) = true := by simp [h0]
    go_wp2_with fail
    refine (num12_any er w2).mono ?_
    rintro _ wn ⟨rfl, hwn⟩
    rw [hwn]
    clear hwn wn
    go_wp2_with fail
    refine (unhide KC).mono ?_
    rintro _ w3 ⟨rfl, b3⟩
    have HB3 := hide (unhide HNB w3 b3).2.2.2.2
    clear KC b3 p0 p1 p2 p3
    go_wp2_with fail
    try go_ret
    exact ⟨rfl, unhide HB3⟩
set_option maxRecDepth 100000 in
set_option maxHeartbeats 16000000 in
theorem shown_lines2 (rows width : Int) (a1 : Option Addr) (n1 c1 : Nat) (st : List Int) (a2 : Option Addr) (n2 c2 : Nat) (cols : List Int) (a : Option Addr) (n c : Nat) (xs : List Int) (w : World) (h1 : SlI w a1 n1 c1 st) (h2 : SlI w a2 n2 c2 cols) (h3 : SlI w a n c xs) (hb1 : n1 ≤ 17592186044000) (hb2 : n2 ≤ 17592186044000) (u v kk : Nat) (hT : ChT 2 rows width n1 n2 n st cols xs [(u : Int), (v : Int), (kk : Int)] 0) (huv : u < v) (hv : v < n) (he : xs.getD u 0 = xs.getD v 0) (hh1 : HasP rows width st cols (kk : Int) (u : Int)) (hh2 : HasP rows width st cols (kk : Int) (v : Int)) : Calls Tryz.prog 4 #[.int .i64 2, patV rows width a1 n1 c1 a2 n2 c2, .slice a n c] w fun e w' => e = .returned (.bool true) ∧ Below w.heap.size w w' := by
  obtain ⟨wb, hwb⟩ : ∃ x, w.alloc (.cells #[.int .i64 rows, .int .i64 width, .slice a1 n1 c1, .slice a2 n2 c2] 25) = x := ⟨_, rfl⟩
  have bb : Below w.heap.size w wb := by rw [← hwb]; exact (Below.refl _ _).alloc (Nat.le_refl _) _
  have hT0 := BoxP.made w #[.int .i64 rows, .int .i64 width, .slice a1 n1 c1, .slice a2 n2 c2] 25
  rw [hwb] at hT0
  have HN := hide (show ∀ W, Below wb.heap.size wb W → BoxP W w.heap.size [.int .i64 rows, .int .i64 width, .slice a1 n1 c1, .slice a2 n2 c2] ∧ SlI W a1 n1 c1 st ∧ SlI W a2 n2 c2 cols ∧ SlI W a n c xs ∧ Below w.heap.size w W from fun W b => ⟨hT0.below b, (h1.below bb).below b, (h2.below bb).below b, (h3.below bb).below b, bb.trans (b.mono bb.size)⟩)
  have HT := hide hT
  clear hT0 bb h1 h2 h3 hT
  unfold patV
  go_enter Tryz.func4, Tryz.ntmps4
  go_wp2_with fail
  refine (calive_any wb).mono ?_
  rintro _ w1 ⟨rfl, b1⟩
  have hx := unhide HN w1 b1
  have p0 := (hx.1.all 0 _ rfl).1
  have p1 := (hx.1.all 1 _ rfl).1
  have p2 := (hx.1.all 2 _ rfl).1
  have p3 := (hx.1.all 3 _ rfl).1
  have KF := (unhide HT).one a1 a2 a c1 c2 c w1 hx.2.1 hx.2.2.1 hx.2.2.2.1
  unfold patV at KF
  have KF := hide KF
  have HB1 := hide b1
  clear hx b1
  go_wp2_with fail
  refine (unhide KF).mono ?_
  rintro _ w2 ⟨b2, al, cl, rfl, hol⟩
  have hSL : SlI w2 al 3 cl [(u : Int), (v : Int), (kk : Int)] := by
    obtain ⟨a9, c9, e9, s9⟩ := own_slI hol
    cases e9
    exact s9
  have HB2 := hide ((unhide HB1).trans (b2.mono (unhide HB1).size))
  have HSL := hide (show ∀ W, Below w2.heap.size w2 W → SlI W al 3 cl [(u : Int), (v : Int), (kk : Int)] from fun W b => hSL.below b)
  have HNB := hide (show ∀ W, Below w2.heap.size w2 W → BoxP W w.heap.size [.int .i64 rows, .int .i64 width, .slice a1 n1 c1, .slice a2 n2 c2] ∧ SlI W a1 n1 c1 st ∧ SlI W a2 n2 c2 cols ∧ SlI W a n c xs ∧ Below w.heap.size w W from fun W b => unhide HN W ((unhide HB2).trans (b.mono (unhide HB2).size)))
  have hx := (unhide HNB w2 (Below.refl _ _)).1
  clear KF hSL hol b2 p0 p1 p2 p3
  have p0 := (hx.all 0 _ rfl).1
  have p1 := (hx.all 1 _ rfl).1
  have p2 := (hx.all 2 _ rfl).1
  have p3 := (hx.all 3 _ rfl).1
  have KC := cCheck_by 2 rows width 0 [(u : Int), (v : Int), (kk : Int)] a1 a2 a n1 c1 n2 c2 n c w2 (fun W b => (unhide HT).one a1 a2 a c1 c2 c W (unhide HNB W b).2.1 (unhide HNB W b).2.2.1 (unhide HNB W b).2.2.2.1)
  unfold patV at KC
  clear hx
  have hck : ckE [(u : Int), (v : Int), (kk : Int)] 0 = 241 := rfl
  rw [hck] at KC
  have KC := hide KC
  clear hck
  go_wp2_with fail
  refine (num12_any 0 w2).mono ?_
  rintro _ wn ⟨rfl, hwn⟩
  rw [hwn]
  clear hwn wn
  go_wp2_with fail
  refine (unhide KC).mono ?_
  rintro _ w3 ⟨rfl, b3⟩
  have HB3 := hide b3
  have hx := unhide HNB w3 b3
  have hs := unhide HSL w3 b3
  clear KC p0 p1 p2 p3
  have p0 := (hx.1.all 0 _ rfl).1
  have p1 := (hx.1.all 1 _ rfl).1
  have p2 := (hx.1.all 2 _ rfl).1
  have p3 := (hx.1.all 3 _ rfl).1
  obtain ⟨bl, ol, rfl, hcl⟩ := hs.at (by omega)
  clear hs b3
  go_wp2_with fail
  refine (num12_any 241 w3).mono ?_
  rintro _ wn ⟨rfl, hwn⟩
  rw [hwn]
  clear hwn wn
  have l0 := hcl 0 (by omega)
  have l1 := hcl 1 (by omega)
  have l2 := hcl 2 (by omega)
  simp only [Nat.add_zero] at l0
  simp only [List.getD_cons_zero, List.getD_cons_succ] at l0 l1 l2
  obtain ⟨bc, oc, rfl, hcc⟩ := hx.2.2.2.1.at (by omega)
  have s0 := hcc u (by omega)
  have s1 := hcc v hv
  obtain ⟨y, hy⟩ : ∃ y, xs.getD v 0 = y := ⟨_, rfl⟩
  rw [he] at s0
  rw [hy] at s0 s1
  have huv' : (u : Int) < (v : Int) := by omega
  have hv' : (v : Int) < (n : Int) := by omega
  have HX := hide (fun W (b : Below w3.heap.size w3 W) => shas_any rows width a1 a2 n1 c1 n2 c2 st cols (kk : Int) (u : Int) W (unhide HNB W ((unhide HB3).trans (b.mono (unhide HB3).size))).2.1 (unhide HNB W ((unhide HB3).trans (b.mono (unhide HB3).size))).2.2.1 (by omega) (by omega) true ⟨fun _ => hh1, fun _ => rfl⟩)
  have HY := hide (fun W (b : Below w3.heap.size w3 W) => shas_any rows width a1 a2 n1 c1 n2 c2 st cols (kk : Int) (v : Int) W (unhide HNB W ((unhide HB3).trans (b.mono (unhide HB3).size))).2.1 (unhide HNB W ((unhide HB3).trans (b.mono (unhide HB3).size))).2.2.1 (by omega) (by omega) true ⟨fun _ => hh2, fun _ => rfl⟩)
  unfold patV at HX HY
  have e1 : (y != y) = false := by simp
  clear hx hcl hcc hh1 hh2 he hy huv hv
  go_wp2_with fail
  refine (clines_any 2 true (by simp) (by simp) (by simp) w3).mono ?_
  rintro _ wn ⟨rfl, hwn⟩
  rw [hwn]
  clear hwn wn
  have F0 := fun x' : Ext w3 => x'.cell l0
  have F1 := fun x' : Ext w3 => x'.cell l1
  have F2 := fun x' : Ext w3 => x'.cell l2
  have hNE := Ext.ne w3
  go_wp2_with fail
  refine wp_region_ext (by kernel_rfl) (by kernel_rfl) ?_
  repeat (go_big_quiet_step (fail))
  refine wpQuiet_nil ?_
  rintro _ ⟨xE, rfl⟩
  have HBE := hide xE.bel
  have s0 := xE.cell s0
  have s1 := xE.cell s1
  have p0 := xE.cell p0
  have p1 := xE.cell p1
  have p2 := xE.cell p2
  have p3 := xE.cell p3
  clear F0 F1 F2 hNE l0 l1 l2
  generalize xE.w = wE at *
  have F0 := fun x' : Ext wE => x'.cell s0
  have F1 := fun x' : Ext wE => x'.cell s1
  have F2 := fun x' : Ext wE => x'.cell p0
  have F3 := fun x' : Ext wE => x'.cell p1
  have F4 := fun x' : Ext wE => x'.cell p2
  have F5 := fun x' : Ext wE => x'.cell p3
  have hNE := Ext.ne wE
  have d1 : decide ((u : Int) < 0) = false := by simp
  have d2 : decide (v ≤ u) = false := by simp; omega
  have d3 : decide (n ≤ v) = false := by simp; omega
  go_wp2_with fail
  refine wp_region_ext (by kernel_rfl) (by kernel_rfl) ?_
  repeat (go_big_quiet_step (fail))
  refine wpQuiet_nil ?_
  rintro _ ⟨xF, rfl⟩
  have HBF := hide ((unhide HBE).trans (xF.bel.mono (unhide HBE).size))
  have p0 := F2 xF
  have p1 := F3 xF
  have p2 := F4 xF
  have p3 := F5 xF
  clear F0 F1 F2 F3 F4 F5 hNE s0 s1
  generalize xF.w = wF at *
  go_wp2_with fail
  refine (unhide HX wF (unhide HBF)).mono ?_
  rintro _ w4 ⟨rfl, b4⟩
  have HB4 := hide ((unhide HBF).trans (b4.mono (unhide HBF).size))
  have hx := unhide HNB w4 ((unhide HB3).trans ((unhide HB4).mono (unhide HB3).size))
  clear HX p0 p1 p2 p3
  have p0 := (hx.1.all 0 _ rfl).1
  have p1 := (hx.1.all 1 _ rfl).1
  have p2 := (hx.1.all 2 _ rfl).1
  have p3 := (hx.1.all 3 _ rfl).1
  clear hx b4
  go_wp2_with fail
  refine (unhide HY w4 (unhide HB4)).mono ?_
  rintro _ w5 ⟨rfl, b5⟩
  have h45 := (unhide HB4).trans (b5.mono (unhide HB4).size)
  have HB5 := hide (unhide HNB w5 ((unhide HB3).trans (h45.mono (unhide HB3).size))).2.2.2.2
  clear HY p0 p1 p2 p3 h45 b5
  go_wp2_with fail
  try go_ret
  exact ⟨rfl, unhide HB5⟩
set_option maxRecDepth 100000 in
set_option maxHeartbeats 16000000 in
theorem shown_lines3 (rows width : Int) (a1 : Option Addr) (n1 c1 : Nat) (st : List Int) (a2 : Option Addr) (n2 c2 : Nat) (cols : List Int) (a : Option Addr) (n c : Nat) (xs : List Int) (w : World) (h1 : SlI w a1 n1 c1 st) (h2 : SlI w a2 n2 c2 cols) (h3 : SlI w a n c xs) (hb1 : n1 ≤ 17592186044000) (hb2 : n2 ≤ 17592186044000) (u v kk : Nat) (hT : ChT 3 rows width n1 n2 n st cols xs [(u : Int), (v : Int), (kk : Int)] 0) (huv : u < v) (hv : v < n) (he : xs.getD u 0 = xs.getD v 0) (hh1 : HasP rows width st cols (u : Int) (kk : Int)) (hh2 : HasP rows width st cols (v : Int) (kk : Int)) : Calls Tryz.prog 4 #[.int .i64 3, patV rows width a1 n1 c1 a2 n2 c2, .slice a n c] w fun e w' => e = .returned (.bool true) ∧ Below w.heap.size w w' := by
  obtain ⟨wb, hwb⟩ : ∃ x, w.alloc (.cells #[.int .i64 rows, .int .i64 width, .slice a1 n1 c1, .slice a2 n2 c2] 25) = x := ⟨_, rfl⟩
  have bb : Below w.heap.size w wb := by rw [← hwb]; exact (Below.refl _ _).alloc (Nat.le_refl _) _
  have hT0 := BoxP.made w #[.int .i64 rows, .int .i64 width, .slice a1 n1 c1, .slice a2 n2 c2] 25
  rw [hwb] at hT0
  have HN := hide (show ∀ W, Below wb.heap.size wb W → BoxP W w.heap.size [.int .i64 rows, .int .i64 width, .slice a1 n1 c1, .slice a2 n2 c2] ∧ SlI W a1 n1 c1 st ∧ SlI W a2 n2 c2 cols ∧ SlI W a n c xs ∧ Below w.heap.size w W from fun W b => ⟨hT0.below b, (h1.below bb).below b, (h2.below bb).below b, (h3.below bb).below b, bb.trans (b.mono bb.size)⟩)
  have HT := hide hT
  clear hT0 bb h1 h2 h3 hT
  unfold patV
  go_enter Tryz.func4, Tryz.ntmps4
  go_wp2_with fail
  refine (calive_any wb).mono ?_
  rintro _ w1 ⟨rfl, b1⟩
  have hx := unhide HN w1 b1
  have p0 := (hx.1.all 0 _ rfl).1
  have p1 := (hx.1.all 1 _ rfl).1
  have p2 := (hx.1.all 2 _ rfl).1
  have p3 := (hx.1.all 3 _ rfl).1
  have KF := (unhide HT).one a1 a2 a c1 c2 c w1 hx.2.1 hx.2.2.1 hx.2.2.2.1
  unfold patV at KF
  have KF := hide KF
  have HB1 := hide b1
  clear hx b1
  go_wp2_with fail
  refine (unhide KF).mono ?_
  rintro _ w2 ⟨b2, al, cl, rfl, hol⟩
  have hSL : SlI w2 al 3 cl [(u : Int), (v : Int), (kk : Int)] := by
    obtain ⟨a9, c9, e9, s9⟩ := own_slI hol
    cases e9
    exact s9
  have HB2 := hide ((unhide HB1).trans (b2.mono (unhide HB1).size))
  have HSL := hide (show ∀ W, Below w2.heap.size w2 W → SlI W al 3 cl [(u : Int), (v : Int), (kk : Int)] from fun W b => hSL.below b)
  have HNB := hide (show ∀ W, Below w2.heap.size w2 W → BoxP W w.heap.size [.int .i64 rows, .int .i64 width, .slice a1 n1 c1, .slice a2 n2 c2] ∧ SlI W a1 n1 c1 st ∧ SlI W a2 n2 c2 cols ∧ SlI W a n c xs ∧ Below w.heap.size w W from fun W b => unhide HN W ((unhide HB2).trans (b.mono (unhide HB2).size)))
  have hx := (unhide HNB w2 (Below.refl _ _)).1
  clear KF hSL hol b2 p0 p1 p2 p3
  have p0 := (hx.all 0 _ rfl).1
  have p1 := (hx.all 1 _ rfl).1
  have p2 := (hx.all 2 _ rfl).1
  have p3 := (hx.all 3 _ rfl).1
  have KC := cCheck_by 3 rows width 0 [(u : Int), (v : Int), (kk : Int)] a1 a2 a n1 c1 n2 c2 n c w2 (fun W b => (unhide HT).one a1 a2 a c1 c2 c W (unhide HNB W b).2.1 (unhide HNB W b).2.2.1 (unhide HNB W b).2.2.2.1)
  unfold patV at KC
  clear hx
  have hck : ckE [(u : Int), (v : Int), (kk : Int)] 0 = 241 := rfl
  rw [hck] at KC
  have KC := hide KC
  clear hck
  go_wp2_with fail
  refine (num12_any 0 w2).mono ?_
  rintro _ wn ⟨rfl, hwn⟩
  rw [hwn]
  clear hwn wn
  go_wp2_with fail
  refine (unhide KC).mono ?_
  rintro _ w3 ⟨rfl, b3⟩
  have HB3 := hide b3
  have hx := unhide HNB w3 b3
  have hs := unhide HSL w3 b3
  clear KC p0 p1 p2 p3
  have p0 := (hx.1.all 0 _ rfl).1
  have p1 := (hx.1.all 1 _ rfl).1
  have p2 := (hx.1.all 2 _ rfl).1
  have p3 := (hx.1.all 3 _ rfl).1
  obtain ⟨bl, ol, rfl, hcl⟩ := hs.at (by omega)
  clear hs b3
  go_wp2_with fail
  refine (num12_any 241 w3).mono ?_
  rintro _ wn ⟨rfl, hwn⟩
  rw [hwn]
  clear hwn wn
  have l0 := hcl 0 (by omega)
  have l1 := hcl 1 (by omega)
  have l2 := hcl 2 (by omega)
  simp only [Nat.add_zero] at l0
  simp only [List.getD_cons_zero, List.getD_cons_succ] at l0 l1 l2
  obtain ⟨bc, oc, rfl, hcc⟩ := hx.2.2.2.1.at (by omega)
  have s0 := hcc u (by omega)
  have s1 := hcc v hv
  obtain ⟨y, hy⟩ : ∃ y, xs.getD v 0 = y := ⟨_, rfl⟩
  rw [he] at s0
  rw [hy] at s0 s1
  have huv' : (u : Int) < (v : Int) := by omega
  have hv' : (v : Int) < (n : Int) := by omega
  have HX := hide (fun W (b : Below w3.heap.size w3 W) => shas_any rows width a1 a2 n1 c1 n2 c2 st cols (u : Int) (kk : Int) W (unhide HNB W ((unhide HB3).trans (b.mono (unhide HB3).size))).2.1 (unhide HNB W ((unhide HB3).trans (b.mono (unhide HB3).size))).2.2.1 (by omega) (by omega) true ⟨fun _ => hh1, fun _ => rfl⟩)
  have HY := hide (fun W (b : Below w3.heap.size w3 W) => shas_any rows width a1 a2 n1 c1 n2 c2 st cols (v : Int) (kk : Int) W (unhide HNB W ((unhide HB3).trans (b.mono (unhide HB3).size))).2.1 (unhide HNB W ((unhide HB3).trans (b.mono (unhide HB3).size))).2.2.1 (by omega) (by omega) true ⟨fun _ => hh2, fun _ => rfl⟩)
  unfold patV at HX HY
  have e1 : (y != y) = false := by simp
  clear hx hcl hcc hh1 hh2 he hy huv hv
  go_wp2_with fail
  refine (clines_any 3 true (by simp) (by simp) (by simp) w3).mono ?_
  rintro _ wn ⟨rfl, hwn⟩
  rw [hwn]
  clear hwn wn
  have F0 := fun x' : Ext w3 => x'.cell l0
  have F1 := fun x' : Ext w3 => x'.cell l1
  have F2 := fun x' : Ext w3 => x'.cell l2
  have hNE := Ext.ne w3
  go_wp2_with fail
  refine wp_region_ext (by kernel_rfl) (by kernel_rfl) ?_
  repeat (go_big_quiet_step (fail))
  refine wpQuiet_nil ?_
  rintro _ ⟨xE, rfl⟩
  have HBE := hide xE.bel
  have s0 := xE.cell s0
  have s1 := xE.cell s1
  have p0 := xE.cell p0
  have p1 := xE.cell p1
  have p2 := xE.cell p2
  have p3 := xE.cell p3
  clear F0 F1 F2 hNE l0 l1 l2
  generalize xE.w = wE at *
  have F0 := fun x' : Ext wE => x'.cell s0
  have F1 := fun x' : Ext wE => x'.cell s1
  have F2 := fun x' : Ext wE => x'.cell p0
  have F3 := fun x' : Ext wE => x'.cell p1
  have F4 := fun x' : Ext wE => x'.cell p2
  have F5 := fun x' : Ext wE => x'.cell p3
  have hNE := Ext.ne wE
  have d1 : decide ((u : Int) < 0) = false := by simp
  have d2 : decide (v ≤ u) = false := by simp; omega
  have d3 : decide (n ≤ v) = false := by simp; omega
  go_wp2_with fail
  refine wp_region_ext (by kernel_rfl) (by kernel_rfl) ?_
  repeat (go_big_quiet_step (fail))
  refine wpQuiet_nil ?_
  rintro _ ⟨xF, rfl⟩
  have HBF := hide ((unhide HBE).trans (xF.bel.mono (unhide HBE).size))
  have p0 := F2 xF
  have p1 := F3 xF
  have p2 := F4 xF
  have p3 := F5 xF
  clear F0 F1 F2 F3 F4 F5 hNE s0 s1
  generalize xF.w = wF at *
  go_wp2_with fail
  refine (unhide HX wF (unhide HBF)).mono ?_
  rintro _ w4 ⟨rfl, b4⟩
  have HB4 := hide ((unhide HBF).trans (b4.mono (unhide HBF).size))
  have hx := unhide HNB w4 ((unhide HB3).trans ((unhide HB4).mono (unhide HB3).size))
  clear HX p0 p1 p2 p3
  have p0 := (hx.1.all 0 _ rfl).1
  have p1 := (hx.1.all 1 _ rfl).1
  have p2 := (hx.1.all 2 _ rfl).1
  have p3 := (hx.1.all 3 _ rfl).1
  clear hx b4
  go_wp2_with fail
  refine (unhide HY w4 (unhide HB4)).mono ?_
  rintro _ w5 ⟨rfl, b5⟩
  have h45 := (unhide HB4).trans (b5.mono (unhide HB4).size)
  have HB5 := hide (unhide HNB w5 ((unhide HB3).trans (h45.mono (unhide HB3).size))).2.2.2.2
  clear HY p0 p1 p2 p3 h45 b5
  go_wp2_with fail
  try go_ret
  exact ⟨rfl, unhide HB5⟩
set_option maxRecDepth 100000 in
set_option maxHeartbeats 16000000 in
theorem shown_star (rows width : Int) (a1 : Option Addr) (n1 c1 : Nat) (st : List Int) (a2 : Option Addr) (n2 c2 : Nat) (cols : List Int) (a : Option Addr) (n c : Nat) (xs : List Int) (w : World) (h1 : SlI w a1 n1 c1 st) (h2 : SlI w a2 n2 c2 cols) (h3 : SlI w a n c xs) (hb1 : n1 ≤ 17592186044000) (hb2 : n2 ≤ 17592186044000) (p q r s : Nat) (hT : ChT 4 rows width n1 n2 n st cols xs [(p : Int), (q : Int), (r : Int), (s : Int)] 0) (hp : p < n) (hq : q < n) (hr : r < n) (hs : s < n) (hpr : p ≠ r) (hqs : q ≠ s) (hps : p < s) (he1 : xs.getD p 0 = xs.getD r 0) (he2 : xs.getD q 0 = xs.getD s 0) (hh1 : HasP rows width st cols (p : Int) (q : Int)) (hh2 : HasP rows width st cols (q : Int) (r : Int)) (hh3 : HasP rows width st cols (r : Int) (s : Int)) : Calls Tryz.prog 4 #[.int .i64 4, patV rows width a1 n1 c1 a2 n2 c2, .slice a n c] w fun e w' => e = .returned (.bool true) ∧ Below w.heap.size w w' := by
  obtain ⟨wb, hwb⟩ : ∃ x, w.alloc (.cells #[.int .i64 rows, .int .i64 width, .slice a1 n1 c1, .slice a2 n2 c2] 25) = x := ⟨_, rfl⟩
  have bb : Below w.heap.size w wb := by rw [← hwb]; exact (Below.refl _ _).alloc (Nat.le_refl _) _
  have hT0 := BoxP.made w #[.int .i64 rows, .int .i64 width, .slice a1 n1 c1, .slice a2 n2 c2] 25
  rw [hwb] at hT0
  have HN := hide (show ∀ W, Below wb.heap.size wb W → BoxP W w.heap.size [.int .i64 rows, .int .i64 width, .slice a1 n1 c1, .slice a2 n2 c2] ∧ SlI W a1 n1 c1 st ∧ SlI W a2 n2 c2 cols ∧ SlI W a n c xs ∧ Below w.heap.size w W from fun W b => ⟨hT0.below b, (h1.below bb).below b, (h2.below bb).below b, (h3.below bb).below b, bb.trans (b.mono bb.size)⟩)
  have HT := hide hT
  clear hT0 bb h1 h2 h3 hT
  unfold patV
  go_enter Tryz.func4, Tryz.ntmps4
  go_wp2_with fail
  refine (calive_any wb).mono ?_
  rintro _ w1 ⟨rfl, b1⟩
  have hx := unhide HN w1 b1
  have p0 := (hx.1.all 0 _ rfl).1
  have p1 := (hx.1.all 1 _ rfl).1
  have p2 := (hx.1.all 2 _ rfl).1
  have p3 := (hx.1.all 3 _ rfl).1
  have KF := (unhide HT).one a1 a2 a c1 c2 c w1 hx.2.1 hx.2.2.1 hx.2.2.2.1
  unfold patV at KF
  have KF := hide KF
  have HB1 := hide b1
  clear hx b1
  go_wp2_with fail
  refine (unhide KF).mono ?_
  rintro _ w2 ⟨b2, al, cl, rfl, hol⟩
  have hSL : SlI w2 al 4 cl [(p : Int), (q : Int), (r : Int), (s : Int)] := by
    obtain ⟨a9, c9, e9, s9⟩ := own_slI hol
    cases e9
    exact s9
  have HB2 := hide ((unhide HB1).trans (b2.mono (unhide HB1).size))
  have HSL := hide (show ∀ W, Below w2.heap.size w2 W → SlI W al 4 cl [(p : Int), (q : Int), (r : Int), (s : Int)] from fun W b => hSL.below b)
  have HNB := hide (show ∀ W, Below w2.heap.size w2 W → BoxP W w.heap.size [.int .i64 rows, .int .i64 width, .slice a1 n1 c1, .slice a2 n2 c2] ∧ SlI W a1 n1 c1 st ∧ SlI W a2 n2 c2 cols ∧ SlI W a n c xs ∧ Below w.heap.size w W from fun W b => unhide HN W ((unhide HB2).trans (b.mono (unhide HB2).size)))
  have hx := (unhide HNB w2 (Below.refl _ _)).1
  clear KF hSL hol b2 p0 p1 p2 p3
  have p0 := (hx.all 0 _ rfl).1
  have p1 := (hx.all 1 _ rfl).1
  have p2 := (hx.all 2 _ rfl).1
  have p3 := (hx.all 3 _ rfl).1
  have KC := cCheck_by 4 rows width 0 [(p : Int), (q : Int), (r : Int), (s : Int)] a1 a2 a n1 c1 n2 c2 n c w2 (fun W b => (unhide HT).one a1 a2 a c1 c2 c W (unhide HNB W b).2.1 (unhide HNB W b).2.2.1 (unhide HNB W b).2.2.2.1)
  unfold patV at KC
  clear hx
  have hck : ckE [(p : Int), (q : Int), (r : Int), (s : Int)] 0 = 241 := rfl
  rw [hck] at KC
  have KC := hide KC
  clear hck
  go_wp2_with fail
  refine (num12_any 0 w2).mono ?_
  rintro _ wn ⟨rfl, hwn⟩
  rw [hwn]
  clear hwn wn
  go_wp2_with fail
  refine (unhide KC).mono ?_
  rintro _ w3 ⟨rfl, b3⟩
  have HB3 := hide b3
  have hx := unhide HNB w3 b3
  have hs := unhide HSL w3 b3
  clear KC p0 p1 p2 p3
  have p0 := (hx.1.all 0 _ rfl).1
  have p1 := (hx.1.all 1 _ rfl).1
  have p2 := (hx.1.all 2 _ rfl).1
  have p3 := (hx.1.all 3 _ rfl).1
  obtain ⟨bl, ol, rfl, hcl⟩ := hs.at (by omega)
  clear hs b3
  go_wp2_with fail
  refine (num12_any 241 w3).mono ?_
  rintro _ wn ⟨rfl, hwn⟩
  rw [hwn]
  clear hwn wn
  have l0 := hcl 0 (by omega)
  have l1 := hcl 1 (by omega)
  have l2 := hcl 2 (by omega)
  have l3 := hcl 3 (by omega)
  simp only [Nat.add_zero] at l0
  simp only [List.getD_cons_zero, List.getD_cons_succ] at l0 l1 l2 l3
  have HX1 := hide (fun W (b : Below w3.heap.size w3 W) => shas_any rows width a1 a2 n1 c1 n2 c2 st cols (p : Int) (q : Int) W (unhide HNB W ((unhide HB3).trans (b.mono (unhide HB3).size))).2.1 (unhide HNB W ((unhide HB3).trans (b.mono (unhide HB3).size))).2.2.1 (by omega) (by omega) true ⟨fun _ => hh1, fun _ => rfl⟩)
  unfold patV at HX1
  have HX2 := hide (fun W (b : Below w3.heap.size w3 W) => shas_any rows width a1 a2 n1 c1 n2 c2 st cols (q : Int) (r : Int) W (unhide HNB W ((unhide HB3).trans (b.mono (unhide HB3).size))).2.1 (unhide HNB W ((unhide HB3).trans (b.mono (unhide HB3).size))).2.2.1 (by omega) (by omega) true ⟨fun _ => hh2, fun _ => rfl⟩)
  unfold patV at HX2
  have HX3 := hide (fun W (b : Below w3.heap.size w3 W) => shas_any rows width a1 a2 n1 c1 n2 c2 st cols (r : Int) (s : Int) W (unhide HNB W ((unhide HB3).trans (b.mono (unhide HB3).size))).2.1 (unhide HNB W ((unhide HB3).trans (b.mono (unhide HB3).size))).2.2.1 (by omega) (by omega) true ⟨fun _ => hh3, fun _ => rfl⟩)
  unfold patV at HX3
  have g5 : decide (n ≤ p) = false := by simp; omega
  have g6 : decide (n ≤ q) = false := by simp; omega
  have g7 : decide (n ≤ r) = false := by simp; omega
  have g8 : decide (n ≤ s) = false := by simp; omega
  have g9 : ((p : Int) == (r : Int)) = false := by simp; omega
  have ga : ((q : Int) == (s : Int)) = false := by simp; omega
  have gb : decide (s ≤ p) = false := by simp; omega
  have gc : (p == r) = false := by simp; omega
  have gd : (q == s) = false := by simp; omega
  obtain ⟨bc, oc, ea, hcc⟩ := hx.2.2.2.1.at (by omega)
  subst ea
  have s0 := hcc p hp
  have s1 := hcc q hq
  have s2 := hcc r hr
  have s3 := hcc s hs
  rw [he1] at s0
  rw [he2] at s1
  obtain ⟨y, hy⟩ : ∃ y, xs.getD r 0 = y := ⟨_, rfl⟩
  obtain ⟨z, hz⟩ : ∃ y, xs.getD s 0 = y := ⟨_, rfl⟩
  rw [hy] at s0 s2
  rw [hz] at s1 s3
  have e1 : (y == y) = true := by simp
  have e2 : (z == z) = true := by simp
  have hp' : (p : Int) < (n : Int) := by omega
  have hq' : (q : Int) < (n : Int) := by omega
  have hr' : (r : Int) < (n : Int) := by omega
  have hs' : (s : Int) < (n : Int) := by omega
  have F0 := fun x' : Ext w3 => x'.cell l0
  have F1 := fun x' : Ext w3 => x'.cell l1
  have F2 := fun x' : Ext w3 => x'.cell l2
  have F3 := fun x' : Ext w3 => x'.cell l3
  have hNE := Ext.ne w3
  clear hx hcl hcc hh1 hh2 hh3 he1 he2 hy hz hp hq hr hs hpr hqs hps
  go_wp2_with fail
  refine wp_region_ext (by kernel_rfl) (by kernel_rfl) ?_
  repeat (go_big_quiet_step (fail))
  refine wpQuiet_nil ?_
  rintro _ ⟨xE, rfl⟩
  have HBE := hide xE.bel
  have s0 := xE.cell s0
  have s1 := xE.cell s1
  have s2 := xE.cell s2
  have s3 := xE.cell s3
  have p0 := xE.cell p0
  have p1 := xE.cell p1
  have p2 := xE.cell p2
  have p3 := xE.cell p3
  clear F0 F1 F2 F3 hNE l0 l1 l2 l3
  generalize xE.w = wE at *
  have F0 := fun x' : Ext wE => x'.cell s0
  have F1 := fun x' : Ext wE => x'.cell s1
  have F2 := fun x' : Ext wE => x'.cell s2
  have F3 := fun x' : Ext wE => x'.cell s3
  have F4 := fun x' : Ext wE => x'.cell p0
  have F5 := fun x' : Ext wE => x'.cell p1
  have F6 := fun x' : Ext wE => x'.cell p2
  have F7 := fun x' : Ext wE => x'.cell p3
  have hNE := Ext.ne wE
  have HK1 := hide (fun x' : Ext wE => unhide HX1 x'.w ((unhide HBE).trans (x'.bel.mono (unhide HBE).size)))
  have HK2 := hide (fun x' : Ext wE => unhide HX2 x'.w ((unhide HBE).trans (x'.bel.mono (unhide HBE).size)))
  have HK3 := hide (fun x' : Ext wE => unhide HX3 x'.w ((unhide HBE).trans (x'.bel.mono (unhide HBE).size)))
  clear HX1 HX2 HX3
  go_wp2_with fail
  refine wp_region_ext (by kernel_rfl) (by kernel_rfl) ?_
  repeat (go_big_quiet_step (first
    | (go_at_call 16; rename_i x'; first
      | (with_reducible exact Ext.call (unhide HK1 x') (fun e w' h => h))
      | (with_reducible exact Ext.call (unhide HK2 x') (fun e w' h => h))
      | (with_reducible exact Ext.call (unhide HK3 x') (fun e w' h => h)))))
  refine wpQuiet_nil ?_
  rintro _ ⟨xF, rfl⟩
  have HBF := hide ((unhide HBE).trans (xF.bel.mono (unhide HBE).size))
  have HBZ := hide (unhide HNB xF.w ((unhide HB3).trans ((unhide HBF).mono (unhide HB3).size))).2.2.2.2
  clear F0 F1 F2 F3 F4 F5 F6 F7 hNE HK1 HK2 HK3 s0 s1 s2 s3 p0 p1 p2 p3
  go_wp2_with fail
  try go_ret
  exact ⟨rfl, unhide HBZ⟩
set_option maxRecDepth 100000 in
set_option maxHeartbeats 16000000 in
theorem shown_pair1 (rows width : Int) (a1 : Option Addr) (n1 c1 : Nat) (st : List Int) (a2 : Option Addr) (n2 c2 : Nat) (cols : List Int) (a : Option Addr) (n c : Nat) (xs : List Int) (w : World) (h1 : SlI w a1 n1 c1 st) (h2 : SlI w a2 n2 c2 cols) (h3 : SlI w a n c xs) (hb1 : n1 ≤ 17592186044000) (hb2 : n2 ≤ 17592186044000) (u v : Nat) (hT : ChT 1 rows width n1 n2 n st cols xs [(u : Int), (v : Int)] 0) (huv : u < v) (hv : v < n) (he : xs.getD u 0 = xs.getD v 0) (hh1 : HasP rows width st cols (u : Int) (v : Int)) : Calls Tryz.prog 4 #[.int .i64 1, patV rows width a1 n1 c1 a2 n2 c2, .slice a n c] w fun e w' => e = .returned (.bool true) ∧ Below w.heap.size w w' := by
  obtain ⟨wb, hwb⟩ : ∃ x, w.alloc (.cells #[.int .i64 rows, .int .i64 width, .slice a1 n1 c1, .slice a2 n2 c2] 25) = x := ⟨_, rfl⟩
  have bb : Below w.heap.size w wb := by rw [← hwb]; exact (Below.refl _ _).alloc (Nat.le_refl _) _
  have hT0 := BoxP.made w #[.int .i64 rows, .int .i64 width, .slice a1 n1 c1, .slice a2 n2 c2] 25
  rw [hwb] at hT0
  have HN := hide (show ∀ W, Below wb.heap.size wb W → BoxP W w.heap.size [.int .i64 rows, .int .i64 width, .slice a1 n1 c1, .slice a2 n2 c2] ∧ SlI W a1 n1 c1 st ∧ SlI W a2 n2 c2 cols ∧ SlI W a n c xs ∧ Below w.heap.size w W from fun W b => ⟨hT0.below b, (h1.below bb).below b, (h2.below bb).below b, (h3.below bb).below b, bb.trans (b.mono bb.size)⟩)
  have HT := hide hT
  clear hT0 bb h1 h2 h3 hT
  unfold patV
  go_enter Tryz.func4, Tryz.ntmps4
  go_wp2_with fail
  refine (calive_any wb).mono ?_
  rintro _ w1 ⟨rfl, b1⟩
  have hx := unhide HN w1 b1
  have p0 := (hx.1.all 0 _ rfl).1
  have p1 := (hx.1.all 1 _ rfl).1
  have p2 := (hx.1.all 2 _ rfl).1
  have p3 := (hx.1.all 3 _ rfl).1
  have KF := (unhide HT).one a1 a2 a c1 c2 c w1 hx.2.1 hx.2.2.1 hx.2.2.2.1
  unfold patV at KF
  have KF := hide KF
  have HB1 := hide b1
  clear hx b1
  go_wp2_with fail
  refine (unhide KF).mono ?_
  rintro _ w2 ⟨b2, al, cl, rfl, hol⟩
  have hSL : SlI w2 al 2 cl [(u : Int), (v : Int)] := by
    obtain ⟨a9, c9, e9, s9⟩ := own_slI hol
    cases e9
    exact s9
  have HB2 := hide ((unhide HB1).trans (b2.mono (unhide HB1).size))
  have HSL := hide (show ∀ W, Below w2.heap.size w2 W → SlI W al 2 cl [(u : Int), (v : Int)] from fun W b => hSL.below b)
  have HNB := hide (show ∀ W, Below w2.heap.size w2 W → BoxP W w.heap.size [.int .i64 rows, .int .i64 width, .slice a1 n1 c1, .slice a2 n2 c2] ∧ SlI W a1 n1 c1 st ∧ SlI W a2 n2 c2 cols ∧ SlI W a n c xs ∧ Below w.heap.size w W from fun W b => unhide HN W ((unhide HB2).trans (b.mono (unhide HB2).size)))
  have hx := (unhide HNB w2 (Below.refl _ _)).1
  clear KF hSL hol b2 p0 p1 p2 p3
  have p0 := (hx.all 0 _ rfl).1
  have p1 := (hx.all 1 _ rfl).1
  have p2 := (hx.all 2 _ rfl).1
  have p3 := (hx.all 3 _ rfl).1
  have KC := cCheck_by 1 rows width 0 [(u : Int), (v : Int)] a1 a2 a n1 c1 n2 c2 n c w2 (fun W b => (unhide HT).one a1 a2 a c1 c2 c W (unhide HNB W b).2.1 (unhide HNB W b).2.2.1 (unhide HNB W b).2.2.2.1)
  unfold patV at KC
  clear hx
  have hck : ckE [(u : Int), (v : Int)] 0 = 241 := rfl
  rw [hck] at KC
  have KC := hide KC
  clear hck
  go_wp2_with fail
  refine (num12_any 0 w2).mono ?_
  rintro _ wn ⟨rfl, hwn⟩
  rw [hwn]
  clear hwn wn
  go_wp2_with fail
  refine (unhide KC).mono ?_
  rintro _ w3 ⟨rfl, b3⟩
  have HB3 := hide b3
  have hx := unhide HNB w3 b3
  have hs := unhide HSL w3 b3
  clear KC p0 p1 p2 p3
  have p0 := (hx.1.all 0 _ rfl).1
  have p1 := (hx.1.all 1 _ rfl).1
  have p2 := (hx.1.all 2 _ rfl).1
  have p3 := (hx.1.all 3 _ rfl).1
  obtain ⟨bl, ol, rfl, hcl⟩ := hs.at (by omega)
  clear hs b3
  go_wp2_with fail
  refine (num12_any 241 w3).mono ?_
  rintro _ wn ⟨rfl, hwn⟩
  rw [hwn]
  clear hwn wn
  have l0 := hcl 0 (by omega)
  have l1 := hcl 1 (by omega)
  simp only [Nat.add_zero] at l0
  simp only [List.getD_cons_zero, List.getD_cons_succ] at l0 l1
  have HX1 := hide (fun W (b : Below w3.heap.size w3 W) => shas_any rows width a1 a2 n1 c1 n2 c2 st cols (u : Int) (v : Int) W (unhide HNB W ((unhide HB3).trans (b.mono (unhide HB3).size))).2.1 (unhide HNB W ((unhide HB3).trans (b.mono (unhide HB3).size))).2.2.1 (by omega) (by omega) true ⟨fun _ => hh1, fun _ => rfl⟩)
  unfold patV at HX1
  obtain ⟨bc, oc, ea, hcc⟩ := hx.2.2.2.1.at (by omega)
  subst ea
  have HNC := hide (show ∀ W, Below w3.heap.size w3 W → W.cell? ⟨bc, oc + u, none⟩ = some (.int .i64 (xs.getD v 0)) ∧ W.cell? ⟨bc, oc + v, none⟩ = some (.int .i64 (xs.getD v 0)) ∧ W.cell? ⟨bl, ol, none⟩ = some (.int .i64 (u : Int)) ∧ W.cell? ⟨bl, ol + 1, none⟩ = some (.int .i64 (v : Int)) from fun W b => by
    have k := fun i hi => (b.cell (p := ⟨bc, oc + i, none⟩) (World.block_lt_of_cell? _ _ (hcc i hi))).trans (hcc i hi)
    exact ⟨by rw [← he]; exact k u (by omega), k v hv, (b.cell (p := ⟨bl, ol, none⟩) (World.block_lt_of_cell? _ _ l0)).trans l0, (b.cell (p := ⟨bl, ol + 1, none⟩) (World.block_lt_of_cell? _ _ l1)).trans l1⟩)
  obtain ⟨y, hy⟩ : ∃ y, xs.getD v 0 = y := ⟨_, rfl⟩
  rw [hy] at HNC
  have e1 : (y == y) = true := by simp
  have huv' : (u : Int) < (v : Int) := by omega
  have hu' : (u : Int) < (n : Int) := by omega
  have hv' : (v : Int) < (n : Int) := by omega
  have d1 : decide ((u : Int) ≥ 0) = true := by simp
  have d2 : decide (u < v) = true := by simp; omega
  have d3 : decide (v < n) = true := by simp; omega
  obtain ⟨t0, t1, t2, t3⟩ := unhide HNC w3 (Below.refl _ _)
  have F0 := fun x' : Ext w3 => x'.cell t0
  have F1 := fun x' : Ext w3 => x'.cell t1
  have F2 := fun x' : Ext w3 => x'.cell t2
  have F3 := fun x' : Ext w3 => x'.cell t3
  have F4 := fun x' : Ext w3 => x'.cell p0
  have F5 := fun x' : Ext w3 => x'.cell p1
  have F6 := fun x' : Ext w3 => x'.cell p2
  have F7 := fun x' : Ext w3 => x'.cell p3
  have hNE := Ext.ne w3
  have HK1 := hide (fun x' : Ext w3 => unhide HX1 x'.w x'.bel)
  clear hx hcl hcc hh1 he hy huv hv HX1 t0 t1 t2 t3 l0 l1
  go_wp2_with fail
  refine (clines_any 1 false (by simp) (by simp) (by simp) w3).mono ?_
  rintro _ wn ⟨rfl, hwn⟩
  rw [hwn]
  clear hwn wn
  go_wp2_with fail
  refine wp_region_ext (by kernel_rfl) (by kernel_rfl) ?_
  repeat (go_big_quiet_step ((go_at_call 16; rename_i x'; exact Ext.call (unhide HK1 x') (fun e w' h => h))))
  refine wpQuiet_nil ?_
  rintro _ ⟨xF, rfl⟩
  have HBZ := hide (unhide HNB xF.w ((unhide HB3).trans (xF.bel.mono (unhide HB3).size))).2.2.2.2
  clear F0 F1 F2 F3 F4 F5 F6 F7 hNE HK1 p0 p1 p2 p3
  go_wp2_with fail
  try go_ret
  exact ⟨rfl, unhide HBZ⟩
set_option maxRecDepth 100000 in
set_option maxHeartbeats 16000000 in
theorem shown_pair4 (rows width : Int) (a1 : Option Addr) (n1 c1 : Nat) (st : List Int) (a2 : Option Addr) (n2 c2 : Nat) (cols : List Int) (a : Option Addr) (n c : Nat) (xs : List Int) (w : World) (h1 : SlI w a1 n1 c1 st) (h2 : SlI w a2 n2 c2 cols) (h3 : SlI w a n c xs) (hb1 : n1 ≤ 17592186044000) (hb2 : n2 ≤ 17592186044000) (u v : Nat) (hT : ChT 4 rows width n1 n2 n st cols xs [(u : Int), (v : Int)] 0) (huv : u < v) (hv : v < n) (he : xs.getD u 0 = xs.getD v 0) (hh1 : HasP rows width st cols (u : Int) (v : Int)) : Calls Tryz.prog 4 #[.int .i64 4, patV rows width a1 n1 c1 a2 n2 c2, .slice a n c] w fun e w' => e = .returned (.bool true) ∧ Below w.heap.size w w' := by
  obtain ⟨wb, hwb⟩ : ∃ x, w.alloc (.cells #[.int .i64 rows, .int .i64 width, .slice a1 n1 c1, .slice a2 n2 c2] 25) = x := ⟨_, rfl⟩
  have bb : Below w.heap.size w wb := by rw [← hwb]; exact (Below.refl _ _).alloc (Nat.le_refl _) _
  have hT0 := BoxP.made w #[.int .i64 rows, .int .i64 width, .slice a1 n1 c1, .slice a2 n2 c2] 25
  rw [hwb] at hT0
  have HN := hide (show ∀ W, Below wb.heap.size wb W → BoxP W w.heap.size [.int .i64 rows, .int .i64 width, .slice a1 n1 c1, .slice a2 n2 c2] ∧ SlI W a1 n1 c1 st ∧ SlI W a2 n2 c2 cols ∧ SlI W a n c xs ∧ Below w.heap.size w W from fun W b => ⟨hT0.below b, (h1.below bb).below b, (h2.below bb).below b, (h3.below bb).below b, bb.trans (b.mono bb.size)⟩)
  have HT := hide hT
  clear hT0 bb h1 h2 h3 hT
  unfold patV
  go_enter Tryz.func4, Tryz.ntmps4
  go_wp2_with fail
  refine (calive_any wb).mono ?_
  rintro _ w1 ⟨rfl, b1⟩
  have hx := unhide HN w1 b1
  have p0 := (hx.1.all 0 _ rfl).1
  have p1 := (hx.1.all 1 _ rfl).1
  have p2 := (hx.1.all 2 _ rfl).1
  have p3 := (hx.1.all 3 _ rfl).1
  have KF := (unhide HT).one a1 a2 a c1 c2 c w1 hx.2.1 hx.2.2.1 hx.2.2.2.1
  unfold patV at KF
  have KF := hide KF
  have HB1 := hide b1
  clear hx b1
  go_wp2_with fail
  refine (unhide KF).mono ?_
  rintro _ w2 ⟨b2, al, cl, rfl, hol⟩
  have hSL : SlI w2 al 2 cl [(u : Int), (v : Int)] := by
    obtain ⟨a9, c9, e9, s9⟩ := own_slI hol
    cases e9
    exact s9
  have HB2 := hide ((unhide HB1).trans (b2.mono (unhide HB1).size))
  have HSL := hide (show ∀ W, Below w2.heap.size w2 W → SlI W al 2 cl [(u : Int), (v : Int)] from fun W b => hSL.below b)
  have HNB := hide (show ∀ W, Below w2.heap.size w2 W → BoxP W w.heap.size [.int .i64 rows, .int .i64 width, .slice a1 n1 c1, .slice a2 n2 c2] ∧ SlI W a1 n1 c1 st ∧ SlI W a2 n2 c2 cols ∧ SlI W a n c xs ∧ Below w.heap.size w W from fun W b => unhide HN W ((unhide HB2).trans (b.mono (unhide HB2).size)))
  have hx := (unhide HNB w2 (Below.refl _ _)).1
  clear KF hSL hol b2 p0 p1 p2 p3
  have p0 := (hx.all 0 _ rfl).1
  have p1 := (hx.all 1 _ rfl).1
  have p2 := (hx.all 2 _ rfl).1
  have p3 := (hx.all 3 _ rfl).1
  have KC := cCheck_by 4 rows width 0 [(u : Int), (v : Int)] a1 a2 a n1 c1 n2 c2 n c w2 (fun W b => (unhide HT).one a1 a2 a c1 c2 c W (unhide HNB W b).2.1 (unhide HNB W b).2.2.1 (unhide HNB W b).2.2.2.1)
  unfold patV at KC
  clear hx
  have hck : ckE [(u : Int), (v : Int)] 0 = 241 := rfl
  rw [hck] at KC
  have KC := hide KC
  clear hck
  go_wp2_with fail
  refine (num12_any 0 w2).mono ?_
  rintro _ wn ⟨rfl, hwn⟩
  rw [hwn]
  clear hwn wn
  go_wp2_with fail
  refine (unhide KC).mono ?_
  rintro _ w3 ⟨rfl, b3⟩
  have HB3 := hide b3
  have hx := unhide HNB w3 b3
  have hs := unhide HSL w3 b3
  clear KC p0 p1 p2 p3
  have p0 := (hx.1.all 0 _ rfl).1
  have p1 := (hx.1.all 1 _ rfl).1
  have p2 := (hx.1.all 2 _ rfl).1
  have p3 := (hx.1.all 3 _ rfl).1
  obtain ⟨bl, ol, rfl, hcl⟩ := hs.at (by omega)
  clear hs b3
  go_wp2_with fail
  refine (num12_any 241 w3).mono ?_
  rintro _ wn ⟨rfl, hwn⟩
  rw [hwn]
  clear hwn wn
  have l0 := hcl 0 (by omega)
  have l1 := hcl 1 (by omega)
  simp only [Nat.add_zero] at l0
  simp only [List.getD_cons_zero, List.getD_cons_succ] at l0 l1
  have HX1 := hide (fun W (b : Below w3.heap.size w3 W) => shas_any rows width a1 a2 n1 c1 n2 c2 st cols (u : Int) (v : Int) W (unhide HNB W ((unhide HB3).trans (b.mono (unhide HB3).size))).2.1 (unhide HNB W ((unhide HB3).trans (b.mono (unhide HB3).size))).2.2.1 (by omega) (by omega) true ⟨fun _ => hh1, fun _ => rfl⟩)
  unfold patV at HX1
  obtain ⟨bc, oc, ea, hcc⟩ := hx.2.2.2.1.at (by omega)
  subst ea
  have HNC := hide (show ∀ W, Below w3.heap.size w3 W → W.cell? ⟨bc, oc + u, none⟩ = some (.int .i64 (xs.getD v 0)) ∧ W.cell? ⟨bc, oc + v, none⟩ = some (.int .i64 (xs.getD v 0)) ∧ W.cell? ⟨bl, ol, none⟩ = some (.int .i64 (u : Int)) ∧ W.cell? ⟨bl, ol + 1, none⟩ = some (.int .i64 (v : Int)) from fun W b => by
    have k := fun i hi => (b.cell (p := ⟨bc, oc + i, none⟩) (World.block_lt_of_cell? _ _ (hcc i hi))).trans (hcc i hi)
    exact ⟨by rw [← he]; exact k u (by omega), k v hv, (b.cell (p := ⟨bl, ol, none⟩) (World.block_lt_of_cell? _ _ l0)).trans l0, (b.cell (p := ⟨bl, ol + 1, none⟩) (World.block_lt_of_cell? _ _ l1)).trans l1⟩)
  obtain ⟨y, hy⟩ : ∃ y, xs.getD v 0 = y := ⟨_, rfl⟩
  rw [hy] at HNC
  have e1 : (y == y) = true := by simp
  have huv' : (u : Int) < (v : Int) := by omega
  have hu' : (u : Int) < (n : Int) := by omega
  have hv' : (v : Int) < (n : Int) := by omega
  have d1 : decide ((u : Int) ≥ 0) = true := by simp
  have d2 : decide (u < v) = true := by simp; omega
  have d3 : decide (v < n) = true := by simp; omega
  obtain ⟨t0, t1, t2, t3⟩ := unhide HNC w3 (Below.refl _ _)
  have F0 := fun x' : Ext w3 => x'.cell t0
  have F1 := fun x' : Ext w3 => x'.cell t1
  have F2 := fun x' : Ext w3 => x'.cell t2
  have F3 := fun x' : Ext w3 => x'.cell t3
  have F4 := fun x' : Ext w3 => x'.cell p0
  have F5 := fun x' : Ext w3 => x'.cell p1
  have F6 := fun x' : Ext w3 => x'.cell p2
  have F7 := fun x' : Ext w3 => x'.cell p3
  have hNE := Ext.ne w3
  have HK1 := hide (fun x' : Ext w3 => unhide HX1 x'.w x'.bel)
  clear hx hcl hcc hh1 he hy huv hv HX1 t0 t1 t2 t3 l0 l1
  go_wp2_with fail
  refine (clines_any 4 false (by simp) (by simp) (by simp) w3).mono ?_
  rintro _ wn ⟨rfl, hwn⟩
  rw [hwn]
  clear hwn wn
  go_wp2_with fail
  refine wp_region_ext (by kernel_rfl) (by kernel_rfl) ?_
  repeat (go_big_quiet_step ((go_at_call 16; rename_i x'; exact Ext.call (unhide HK1 x') (fun e w' h => h))))
  refine wpQuiet_nil ?_
  rintro _ ⟨xF, rfl⟩
  have HBZ := hide (unhide HNB xF.w ((unhide HB3).trans (xF.bel.mono (unhide HB3).size))).2.2.2.2
  clear F0 F1 F2 F3 F4 F5 F6 F7 hNE HK1 p0 p1 p2 p3
  go_wp2_with fail
  try go_ret
  exact ⟨rfl, unhide HBZ⟩
set_option maxRecDepth 100000 in
set_option maxHeartbeats 16000000 in
theorem shown_pair5 (rows width : Int) (a1 : Option Addr) (n1 c1 : Nat) (st : List Int) (a2 : Option Addr) (n2 c2 : Nat) (cols : List Int) (a : Option Addr) (n c : Nat) (xs : List Int) (w : World) (h1 : SlI w a1 n1 c1 st) (h2 : SlI w a2 n2 c2 cols) (h3 : SlI w a n c xs) (hb1 : n1 ≤ 17592186044000) (hb2 : n2 ≤ 17592186044000) (u v : Nat) (hT : ChT 5 rows width n1 n2 n st cols xs [(u : Int), (v : Int)] 0) (huv : u < v) (hv : v < n) (he : xs.getD u 0 = xs.getD v 0) (hh1 : HasP rows width st cols (u : Int) (v : Int)) : Calls Tryz.prog 4 #[.int .i64 5, patV rows width a1 n1 c1 a2 n2 c2, .slice a n c] w fun e w' => e = .returned (.bool true) ∧ Below w.heap.size w w' := by
  obtain ⟨wb, hwb⟩ : ∃ x, w.alloc (.cells #[.int .i64 rows, .int .i64 width, .slice a1 n1 c1, .slice a2 n2 c2] 25) = x := ⟨_, rfl⟩
  have bb : Below w.heap.size w wb := by rw [← hwb]; exact (Below.refl _ _).alloc (Nat.le_refl _) _
  have hT0 := BoxP.made w #[.int .i64 rows, .int .i64 width, .slice a1 n1 c1, .slice a2 n2 c2] 25
  rw [hwb] at hT0
  have HN := hide (show ∀ W, Below wb.heap.size wb W → BoxP W w.heap.size [.int .i64 rows, .int .i64 width, .slice a1 n1 c1, .slice a2 n2 c2] ∧ SlI W a1 n1 c1 st ∧ SlI W a2 n2 c2 cols ∧ SlI W a n c xs ∧ Below w.heap.size w W from fun W b => ⟨hT0.below b, (h1.below bb).below b, (h2.below bb).below b, (h3.below bb).below b, bb.trans (b.mono bb.size)⟩)
  have HT := hide hT
  clear hT0 bb h1 h2 h3 hT
  unfold patV
  go_enter Tryz.func4, Tryz.ntmps4
  go_wp2_with fail
  refine (calive_any wb).mono ?_
  rintro _ w1 ⟨rfl, b1⟩
  have hx := unhide HN w1 b1
  have p0 := (hx.1.all 0 _ rfl).1
  have p1 := (hx.1.all 1 _ rfl).1
  have p2 := (hx.1.all 2 _ rfl).1
  have p3 := (hx.1.all 3 _ rfl).1
  have KF := (unhide HT).one a1 a2 a c1 c2 c w1 hx.2.1 hx.2.2.1 hx.2.2.2.1
  unfold patV at KF
  have KF := hide KF
  have HB1 := hide b1
  clear hx b1
  go_wp2_with fail
  refine (unhide KF).mono ?_
  rintro _ w2 ⟨b2, al, cl, rfl, hol⟩
  have hSL : SlI w2 al 2 cl [(u : Int), (v : Int)] := by
    obtain ⟨a9, c9, e9, s9⟩ := own_slI hol
    cases e9
    exact s9
  have HB2 := hide ((unhide HB1).trans (b2.mono (unhide HB1).size))
  have HSL := hide (show ∀ W, Below w2.heap.size w2 W → SlI W al 2 cl [(u : Int), (v : Int)] from fun W b => hSL.below b)
  have HNB := hide (show ∀ W, Below w2.heap.size w2 W → BoxP W w.heap.size [.int .i64 rows, .int .i64 width, .slice a1 n1 c1, .slice a2 n2 c2] ∧ SlI W a1 n1 c1 st ∧ SlI W a2 n2 c2 cols ∧ SlI W a n c xs ∧ Below w.heap.size w W from fun W b => unhide HN W ((unhide HB2).trans (b.mono (unhide HB2).size)))
  have hx := (unhide HNB w2 (Below.refl _ _)).1
  clear KF hSL hol b2 p0 p1 p2 p3
  have p0 := (hx.all 0 _ rfl).1
  have p1 := (hx.all 1 _ rfl).1
  have p2 := (hx.all 2 _ rfl).1
  have p3 := (hx.all 3 _ rfl).1
  have KC := cCheck_by 5 rows width 0 [(u : Int), (v : Int)] a1 a2 a n1 c1 n2 c2 n c w2 (fun W b => (unhide HT).one a1 a2 a c1 c2 c W (unhide HNB W b).2.1 (unhide HNB W b).2.2.1 (unhide HNB W b).2.2.2.1)
  unfold patV at KC
  clear hx
  have hck : ckE [(u : Int), (v : Int)] 0 = 241 := rfl
  rw [hck] at KC
  have KC := hide KC
  clear hck
  go_wp2_with fail
  refine (num12_any 0 w2).mono ?_
  rintro _ wn ⟨rfl, hwn⟩
  rw [hwn]
  clear hwn wn
  go_wp2_with fail
  refine (unhide KC).mono ?_
  rintro _ w3 ⟨rfl, b3⟩
  have HB3 := hide b3
  have hx := unhide HNB w3 b3
  have hs := unhide HSL w3 b3
  clear KC p0 p1 p2 p3
  have p0 := (hx.1.all 0 _ rfl).1
  have p1 := (hx.1.all 1 _ rfl).1
  have p2 := (hx.1.all 2 _ rfl).1
  have p3 := (hx.1.all 3 _ rfl).1
  obtain ⟨bl, ol, rfl, hcl⟩ := hs.at (by omega)
  clear hs b3
  go_wp2_with fail
  refine (num12_any 241 w3).mono ?_
  rintro _ wn ⟨rfl, hwn⟩
  rw [hwn]
  clear hwn wn
  have l0 := hcl 0 (by omega)
  have l1 := hcl 1 (by omega)
  simp only [Nat.add_zero] at l0
  simp only [List.getD_cons_zero, List.getD_cons_succ] at l0 l1
  have HX1 := hide (fun W (b : Below w3.heap.size w3 W) => shas_any rows width a1 a2 n1 c1 n2 c2 st cols (u : Int) (v : Int) W (unhide HNB W ((unhide HB3).trans (b.mono (unhide HB3).size))).2.1 (unhide HNB W ((unhide HB3).trans (b.mono (unhide HB3).size))).2.2.1 (by omega) (by omega) true ⟨fun _ => hh1, fun _ => rfl⟩)
  unfold patV at HX1
  obtain ⟨bc, oc, ea, hcc⟩ := hx.2.2.2.1.at (by omega)
  subst ea
  have HNC := hide (show ∀ W, Below w3.heap.size w3 W → W.cell? ⟨bc, oc + u, none⟩ = some (.int .i64 (xs.getD v 0)) ∧ W.cell? ⟨bc, oc + v, none⟩ = some (.int .i64 (xs.getD v 0)) ∧ W.cell? ⟨bl, ol, none⟩ = some (.int .i64 (u : Int)) ∧ W.cell? ⟨bl, ol + 1, none⟩ = some (.int .i64 (v : Int)) from fun W b => by
    have k := fun i hi => (b.cell (p := ⟨bc, oc + i, none⟩) (World.block_lt_of_cell? _ _ (hcc i hi))).trans (hcc i hi)
    exact ⟨by rw [← he]; exact k u (by omega), k v hv, (b.cell (p := ⟨bl, ol, none⟩) (World.block_lt_of_cell? _ _ l0)).trans l0, (b.cell (p := ⟨bl, ol + 1, none⟩) (World.block_lt_of_cell? _ _ l1)).trans l1⟩)
  obtain ⟨y, hy⟩ : ∃ y, xs.getD v 0 = y := ⟨_, rfl⟩
  rw [hy] at HNC
  have e1 : (y == y) = true := by simp
  have huv' : (u : Int) < (v : Int) := by omega
  have hu' : (u : Int) < (n : Int) := by omega
  have hv' : (v : Int) < (n : Int) := by omega
  have d1 : decide ((u : Int) ≥ 0) = true := by simp
  have d2 : decide (u < v) = true := by simp; omega
  have d3 : decide (v < n) = true := by simp; omega
  obtain ⟨t0, t1, t2, t3⟩ := unhide HNC w3 (Below.refl _ _)
  have F0 := fun x' : Ext w3 => x'.cell t0
  have F1 := fun x' : Ext w3 => x'.cell t1
  have F2 := fun x' : Ext w3 => x'.cell t2
  have F3 := fun x' : Ext w3 => x'.cell t3
  have F4 := fun x' : Ext w3 => x'.cell p0
  have F5 := fun x' : Ext w3 => x'.cell p1
  have F6 := fun x' : Ext w3 => x'.cell p2
  have F7 := fun x' : Ext w3 => x'.cell p3
  have hNE := Ext.ne w3
  have HK1 := hide (fun x' : Ext w3 => unhide HX1 x'.w x'.bel)
  clear hx hcl hcc hh1 he hy huv hv HX1 t0 t1 t2 t3 l0 l1
  go_wp2_with fail
  refine (clines_any 5 false (by simp) (by simp) (by simp) w3).mono ?_
  rintro _ wn ⟨rfl, hwn⟩
  rw [hwn]
  clear hwn wn
  go_wp2_with fail
  refine wp_region_ext (by kernel_rfl) (by kernel_rfl) ?_
  repeat (go_big_quiet_step ((go_at_call 16; rename_i x'; exact Ext.call (unhide HK1 x') (fun e w' h => h))))
  refine wpQuiet_nil ?_
  rintro _ ⟨xF, rfl⟩
  have HBZ := hide (unhide HNB xF.w ((unhide HB3).trans (xF.bel.mono (unhide HB3).size))).2.2.2.2
  clear F0 F1 F2 F3 F4 F5 F6 F7 hNE HK1 p0 p1 p2 p3
  go_wp2_with fail
  try go_ret
  exact ⟨rfl, unhide HBZ⟩
set_option maxRecDepth 100000 in
set_option maxHeartbeats 16000000 in
theorem shown_circA (rows width : Int) (a1 : Option Addr) (n1 c1 : Nat) (st : List Int) (a2 : Option Addr) (n2 c2 : Nat) (cols : List Int) (a : Option Addr) (n c : Nat) (xs : List Int) (w : World) (h1 : SlI w a1 n1 c1 st) (h2 : SlI w a2 n2 c2 cols) (h3 : SlI w a n c xs) (hb1 : n1 ≤ 17592186044000) (hb2 : n2 ≤ 17592186044000) (p q : Nat) (hT : ChT 5 rows width n1 n2 n st cols xs [(p : Int), (q : Int)] 0) (hpq : p < q) (hE : ∀ W, SlI W a1 n1 c1 st → SlI W a2 n2 c2 cols → SlI W a n c xs → Calls Tryz.prog 17 #[patV rows width a1 n1 c1 a2 n2 c2, .slice a n c, .int .i64 (p : Int), .int .i64 (q : Int)] W fun e w' => e = .returned (.bool true) ∧ Below W.heap.size W w') (hq : ¬ q < n) : Calls Tryz.prog 4 #[.int .i64 5, patV rows width a1 n1 c1 a2 n2 c2, .slice a n c] w fun e w' => e = .returned (.bool true) ∧ Below w.heap.size w w' := by
  obtain ⟨wb, hwb⟩ : ∃ x, w.alloc (.cells #[.int .i64 rows, .int .i64 width, .slice a1 n1 c1, .slice a2 n2 c2] 25) = x := ⟨_, rfl⟩
  have bb : Below w.heap.size w wb := by rw [← hwb]; exact (Below.refl _ _).alloc (Nat.le_refl _) _
  have hT0 := BoxP.made w #[.int .i64 rows, .int .i64 width, .slice a1 n1 c1, .slice a2 n2 c2] 25
  rw [hwb] at hT0
  have HN := hide (show ∀ W, Below wb.heap.size wb W → BoxP W w.heap.size [.int .i64 rows, .int .i64 width, .slice a1 n1 c1, .slice a2 n2 c2] ∧ SlI W a1 n1 c1 st ∧ SlI W a2 n2 c2 cols ∧ SlI W a n c xs ∧ Below w.heap.size w W from fun W b => ⟨hT0.below b, (h1.below bb).below b, (h2.below bb).below b, (h3.below bb).below b, bb.trans (b.mono bb.size)⟩)
  have HT := hide hT
  clear hT0 bb h1 h2 h3 hT
  unfold patV
  go_enter Tryz.func4, Tryz.ntmps4
  go_wp2_with fail
  refine (calive_any wb).mono ?_
  rintro _ w1 ⟨rfl, b1⟩
  have hx := unhide HN w1 b1
  have p0 := (hx.1.all 0 _ rfl).1
  have p1 := (hx.1.all 1 _ rfl).1
  have p2 := (hx.1.all 2 _ rfl).1
  have p3 := (hx.1.all 3 _ rfl).1
  have KF := (unhide HT).one a1 a2 a c1 c2 c w1 hx.2.1 hx.2.2.1 hx.2.2.2.1
  unfold patV at KF
  have KF := hide KF
  have HB1 := hide b1
  clear hx b1
  go_wp2_with fail
  refine (unhide KF).mono ?_
  rintro _ w2 ⟨b2, al, cl, rfl, hol⟩
  have hSL : SlI w2 al 2 cl [(p : Int), (q : Int)] := by
    obtain ⟨a9, c9, e9, s9⟩ := own_slI hol
    cases e9
    exact s9
  have HB2 := hide ((unhide HB1).trans (b2.mono (unhide HB1).size))
  have HSL := hide (show ∀ W, Below w2.heap.size w2 W → SlI W al 2 cl [(p : Int), (q : Int)] from fun W b => hSL.below b)
  have HNB := hide (show ∀ W, Below w2.heap.size w2 W → BoxP W w.heap.size [.int .i64 rows, .int .i64 width, .slice a1 n1 c1, .slice a2 n2 c2] ∧ SlI W a1 n1 c1 st ∧ SlI W a2 n2 c2 cols ∧ SlI W a n c xs ∧ Below w.heap.size w W from fun W b => unhide HN W ((unhide HB2).trans (b.mono (unhide HB2).size)))
  have hx := (unhide HNB w2 (Below.refl _ _)).1
  clear KF hSL hol b2 p0 p1 p2 p3
  have p0 := (hx.all 0 _ rfl).1
  have p1 := (hx.all 1 _ rfl).1
  have p2 := (hx.all 2 _ rfl).1
  have p3 := (hx.all 3 _ rfl).1
  have KC := cCheck_by 5 rows width 0 [(p : Int), (q : Int)] a1 a2 a n1 c1 n2 c2 n c w2 (fun W b => (unhide HT).one a1 a2 a c1 c2 c W (unhide HNB W b).2.1 (unhide HNB W b).2.2.1 (unhide HNB W b).2.2.2.1)
  unfold patV at KC
  clear hx
  have hck : ckE [(p : Int), (q : Int)] 0 = 241 := rfl
  rw [hck] at KC
  have KC := hide KC
  clear hck
  go_wp2_with fail
  refine (num12_any 0 w2).mono ?_
  rintro _ wn ⟨rfl, hwn⟩
  rw [hwn]
  clear hwn wn
  go_wp2_with fail
  refine (unhide KC).mono ?_
  rintro _ w3 ⟨rfl, b3⟩
  have HB3 := hide b3
  have hx := unhide HNB w3 b3
  have hs := unhide HSL w3 b3
  clear KC p0 p1 p2 p3
  have p0 := (hx.1.all 0 _ rfl).1
  have p1 := (hx.1.all 1 _ rfl).1
  have p2 := (hx.1.all 2 _ rfl).1
  have p3 := (hx.1.all 3 _ rfl).1
  obtain ⟨bl, ol, rfl, hcl⟩ := hs.at (by omega)
  clear hs b3
  go_wp2_with fail
  refine (num12_any 241 w3).mono ?_
  rintro _ wn ⟨rfl, hwn⟩
  rw [hwn]
  clear hwn wn
  have l0 := hcl 0 (by omega)
  have l1 := hcl 1 (by omega)
  simp only [Nat.add_zero] at l0
  simp only [List.getD_cons_zero, List.getD_cons_succ] at l0 l1
  have HE := hide (fun W (b : Below w3.heap.size w3 W) => hE W (unhide HNB W ((unhide HB3).trans (b.mono (unhide HB3).size))).2.1 (unhide HNB W ((unhide HB3).trans (b.mono (unhide HB3).size))).2.2.1 (unhide HNB W ((unhide HB3).trans (b.mono (unhide HB3).size))).2.2.2.1)
  unfold patV at HE
  have hpq' : (p : Int) < (q : Int) := by omega
  have d1 : decide ((p : Int) ≥ 0) = true := by simp
  have d2 : decide (p < q) = true := by simp; omega
  have d3 : decide (q < n) = false := by simp; omega
  have hq' : ¬ (q : Int) < (n : Int) := by omega
  have F0 := fun x' : Ext w3 => x'.cell l0
  have F1 := fun x' : Ext w3 => x'.cell l1
  have F2 := fun x' : Ext w3 => x'.cell p0
  have F3 := fun x' : Ext w3 => x'.cell p1
  have F4 := fun x' : Ext w3 => x'.cell p2
  have F5 := fun x' : Ext w3 => x'.cell p3
  have hNE := Ext.ne w3
  clear hx hcl hE hpq hq
  go_wp2_with fail
  refine (clines_any 5 false (by simp) (by simp) (by simp) w3).mono ?_
  rintro _ wn ⟨rfl, hwn⟩
  rw [hwn]
  clear hwn wn
  go_wp2_with fail
  refine wp_region_ext (by kernel_rfl) (by kernel_rfl) ?_
  repeat (go_big_quiet_step (first
    | fail))
  refine wpQuiet_nil ?_
  rintro _ ⟨xF, rfl⟩
  have HBF := hide xF.bel
  have t2 := F0 xF
  have t3 := F1 xF
  have p0 := F2 xF
  have p1 := F3 xF
  have p2 := F4 xF
  have p3 := F5 xF
  clear F0 F1 F2 F3 F4 F5
  clear hNE
  generalize xF.w = wF at *
  have F0 := fun x' : Ext wF => x'.cell t2
  have F1 := fun x' : Ext wF => x'.cell t3
  have F2 := fun x' : Ext wF => x'.cell p0
  have F3 := fun x' : Ext wF => x'.cell p1
  have F4 := fun x' : Ext wF => x'.cell p2
  have F5 := fun x' : Ext wF => x'.cell p3
  have hNE := Ext.ne wF
  have HKE := hide (fun x' : Ext wF => unhide HE x'.w ((unhide HBF).trans (x'.bel.mono (unhide HBF).size)))
  clear HE
  go_wp2_with fail
  refine wp_region_ext (by kernel_rfl) (by kernel_rfl) ?_
  repeat (go_big_quiet_step ((go_at_call 17; rename_i x'; exact Ext.call (unhide HKE x') (fun e w' h => h))))
  refine wpQuiet_nil ?_
  rintro _ ⟨xG, rfl⟩
  have h9 := (unhide HBF).trans (xG.bel.mono (unhide HBF).size)
  have HB9 := hide (unhide HNB xG.w ((unhide HB3).trans (h9.mono (unhide HB3).size))).2.2.2.2
  clear HKE hNE h9 F0 F1 F2 F3 F4 F5
  go_wp2_with fail
  try go_ret
  exact ⟨rfl, unhide HB9⟩
set_option maxRecDepth 100000 in
set_option maxHeartbeats 16000000 in
theorem shown_circfalse (rows width : Int) (a1 : Option Addr) (n1 c1 : Nat) (st : List Int) (a2 : Option Addr) (n2 c2 : Nat) (cols : List Int) (a : Option Addr) (n c : Nat) (xs : List Int) (w : World) (h1 : SlI w a1 n1 c1 st) (h2 : SlI w a2 n2 c2 cols) (h3 : SlI w a n c xs) (hb1 : n1 ≤ 17592186044000) (hb2 : n2 ≤ 17592186044000) (p q : Nat) (hT : ChT 5 rows width n1 n2 n st cols xs [(p : Int), (q : Int)] 0) (hpq : p < q) (hE : ∀ W, SlI W a1 n1 c1 st → SlI W a2 n2 c2 cols → SlI W a n c xs → Calls Tryz.prog 17 #[patV rows width a1 n1 c1 a2 n2 c2, .slice a n c, .int .i64 (p : Int), .int .i64 (q : Int)] W fun e w' => e = .returned (.bool true) ∧ Below W.heap.size W w') (hq : q < n) (hok : TruQ false (HasP rows width st cols (p : Int) (q : Int))) : Calls Tryz.prog 4 #[.int .i64 5, patV rows width a1 n1 c1 a2 n2 c2, .slice a n c] w fun e w' => e = .returned (.bool true) ∧ Below w.heap.size w w' := by
  obtain ⟨wb, hwb⟩ : ∃ x, w.alloc (.cells #[.int .i64 rows, .int .i64 width, .slice a1 n1 c1, .slice a2 n2 c2] 25) = x := ⟨_, rfl⟩
  have bb : Below w.heap.size w wb := by rw [← hwb]; exact (Below.refl _ _).alloc (Nat.le_refl _) _
  have hT0 := BoxP.made w #[.int .i64 rows, .int .i64 width, .slice a1 n1 c1, .slice a2 n2 c2] 25
  rw [hwb] at hT0
  have HN := hide (show ∀ W, Below wb.heap.size wb W → BoxP W w.heap.size [.int .i64 rows, .int .i64 width, .slice a1 n1 c1, .slice a2 n2 c2] ∧ SlI W a1 n1 c1 st ∧ SlI W a2 n2 c2 cols ∧ SlI W a n c xs ∧ Below w.heap.size w W from fun W b => ⟨hT0.below b, (h1.below bb).below b, (h2.below bb).below b, (h3.below bb).below b, bb.trans (b.mono bb.size)⟩)
  have HT := hide hT
  have HOK := hide hok
  clear hT0 bb h1 h2 h3 hT hok
  unfold patV
  go_enter Tryz.func4, Tryz.ntmps4
  go_wp2_with fail
  refine (calive_any wb).mono ?_
  rintro _ w1 ⟨rfl, b1⟩
  have hx := unhide HN w1 b1
  have p0 := (hx.1.all 0 _ rfl).1
  have p1 := (hx.1.all 1 _ rfl).1
  have p2 := (hx.1.all 2 _ rfl).1
  have p3 := (hx.1.all 3 _ rfl).1
  have KF := (unhide HT).one a1 a2 a c1 c2 c w1 hx.2.1 hx.2.2.1 hx.2.2.2.1
  unfold patV at KF
  have KF := hide KF
  have HB1 := hide b1
  clear hx b1
  go_wp2_with fail
  refine (unhide KF).mono ?_
  rintro _ w2 ⟨b2, al, cl, rfl, hol⟩
  have hSL : SlI w2 al 2 cl [(p : Int), (q : Int)] := by
    obtain ⟨a9, c9, e9, s9⟩ := own_slI hol
    cases e9
    exact s9
  have HB2 := hide ((unhide HB1).trans (b2.mono (unhide HB1).size))
  have HSL := hide (show ∀ W, Below w2.heap.size w2 W → SlI W al 2 cl [(p : Int), (q : Int)] from fun W b => hSL.below b)
  have HNB := hide (show ∀ W, Below w2.heap.size w2 W → BoxP W w.heap.size [.int .i64 rows, .int .i64 width, .slice a1 n1 c1, .slice a2 n2 c2] ∧ SlI W a1 n1 c1 st ∧ SlI W a2 n2 c2 cols ∧ SlI W a n c xs ∧ Below w.heap.size w W from fun W b => unhide HN W ((unhide HB2).trans (b.mono (unhide HB2).size)))
  have hx := (unhide HNB w2 (Below.refl _ _)).1
  clear KF hSL hol b2 p0 p1 p2 p3
  have p0 := (hx.all 0 _ rfl).1
  have p1 := (hx.all 1 _ rfl).1
  have p2 := (hx.all 2 _ rfl).1
  have p3 := (hx.all 3 _ rfl).1
  have KC := cCheck_by 5 rows width 0 [(p : Int), (q : Int)] a1 a2 a n1 c1 n2 c2 n c w2 (fun W b => (unhide HT).one a1 a2 a c1 c2 c W (unhide HNB W b).2.1 (unhide HNB W b).2.2.1 (unhide HNB W b).2.2.2.1)
  unfold patV at KC
  clear hx
  have hck : ckE [(p : Int), (q : Int)] 0 = 241 := rfl
  rw [hck] at KC
  have KC := hide KC
  clear hck
  go_wp2_with fail
  refine (num12_any 0 w2).mono ?_
  rintro _ wn ⟨rfl, hwn⟩
  rw [hwn]
  clear hwn wn
  go_wp2_with fail
  refine (unhide KC).mono ?_
  rintro _ w3 ⟨rfl, b3⟩
  have HB3 := hide b3
  have hx := unhide HNB w3 b3
  have hs := unhide HSL w3 b3
  clear KC p0 p1 p2 p3
  have p0 := (hx.1.all 0 _ rfl).1
  have p1 := (hx.1.all 1 _ rfl).1
  have p2 := (hx.1.all 2 _ rfl).1
  have p3 := (hx.1.all 3 _ rfl).1
  obtain ⟨bl, ol, rfl, hcl⟩ := hs.at (by omega)
  clear hs b3
  go_wp2_with fail
  refine (num12_any 241 w3).mono ?_
  rintro _ wn ⟨rfl, hwn⟩
  rw [hwn]
  clear hwn wn
  have l0 := hcl 0 (by omega)
  have l1 := hcl 1 (by omega)
  simp only [Nat.add_zero] at l0
  simp only [List.getD_cons_zero, List.getD_cons_succ] at l0 l1
  have HE := hide (fun W (b : Below w3.heap.size w3 W) => hE W (unhide HNB W ((unhide HB3).trans (b.mono (unhide HB3).size))).2.1 (unhide HNB W ((unhide HB3).trans (b.mono (unhide HB3).size))).2.2.1 (unhide HNB W ((unhide HB3).trans (b.mono (unhide HB3).size))).2.2.2.1)
  unfold patV at HE
  have hpq' : (p : Int) < (q : Int) := by omega
  have d1 : decide ((p : Int) ≥ 0) = true := by simp
  have d2 : decide (p < q) = true := by simp; omega
  have HX1 := hide (fun W (b : Below w3.heap.size w3 W) => shas_any rows width a1 a2 n1 c1 n2 c2 st cols (p : Int) (q : Int) W (unhide HNB W ((unhide HB3).trans (b.mono (unhide HB3).size))).2.1 (unhide HNB W ((unhide HB3).trans (b.mono (unhide HB3).size))).2.2.1 (by omega) (by omega) false (unhide HOK))
  unfold patV at HX1
  obtain ⟨bc, oc, ea, hcc⟩ := hx.2.2.2.1.at (by omega)
  subst ea
  have t0 := hcc p (by omega)
  have t1 := hcc q hq
  obtain ⟨y, hy⟩ : ∃ y, xs.getD p 0 = y := ⟨_, rfl⟩
  obtain ⟨z, hz⟩ : ∃ y, xs.getD q 0 = y := ⟨_, rfl⟩
  rw [hy] at t0
  rw [hz] at t1
  have hq' : (q : Int) < (n : Int) := by omega
  have hp' : (p : Int) < (n : Int) := by omega
  have d3 : decide (q < n) = true := by simp; omega
  have HK1 := hide (fun x' : Ext w3 => unhide HX1 x'.w x'.bel)
  have F0 := fun x' : Ext w3 => x'.cell t0
  have F1 := fun x' : Ext w3 => x'.cell t1
  have F2 := fun x' : Ext w3 => x'.cell l0
  have F3 := fun x' : Ext w3 => x'.cell l1
  have F4 := fun x' : Ext w3 => x'.cell p0
  have F5 := fun x' : Ext w3 => x'.cell p1
  have F6 := fun x' : Ext w3 => x'.cell p2
  have F7 := fun x' : Ext w3 => x'.cell p3
  have hNE := Ext.ne w3
  clear hx hcl hE hcc hpq hq hy hz HX1
  go_wp2_with fail
  refine (clines_any 5 false (by simp) (by simp) (by simp) w3).mono ?_
  rintro _ wn ⟨rfl, hwn⟩
  rw [hwn]
  clear hwn wn
  go_wp2_with fail
  refine wp_region_ext (by kernel_rfl) (by kernel_rfl) ?_
  repeat (go_big_quiet_step (first
    | (go_at_call 16; rename_i x'; exact Ext.call (unhide HK1 x') (fun e w' h => h))))
  refine wpQuiet_nil ?_
  rintro _ ⟨xF, rfl⟩
  have HBF := hide xF.bel
  have t2 := F2 xF
  have t3 := F3 xF
  have p0 := F4 xF
  have p1 := F5 xF
  have p2 := F6 xF
  have p3 := F7 xF
  clear F0 F1 F2 F3 F4 F5 F6 F7
  clear HK1
  clear hNE
  generalize xF.w = wF at *
  have F0 := fun x' : Ext wF => x'.cell t2
  have F1 := fun x' : Ext wF => x'.cell t3
  have F2 := fun x' : Ext wF => x'.cell p0
  have F3 := fun x' : Ext wF => x'.cell p1
  have F4 := fun x' : Ext wF => x'.cell p2
  have F5 := fun x' : Ext wF => x'.cell p3
  have hNE := Ext.ne wF
  have HKE := hide (fun x' : Ext wF => unhide HE x'.w ((unhide HBF).trans (x'.bel.mono (unhide HBF).size)))
  clear HE
  go_wp2_with fail
  refine wp_region_ext (by kernel_rfl) (by kernel_rfl) ?_
  repeat (go_big_quiet_step ((go_at_call 17; rename_i x'; exact Ext.call (unhide HKE x') (fun e w' h => h))))
  refine wpQuiet_nil ?_
  rintro _ ⟨xG, rfl⟩
  have h9 := (unhide HBF).trans (xG.bel.mono (unhide HBF).size)
  have HB9 := hide (unhide HNB xG.w ((unhide HB3).trans (h9.mono (unhide HB3).size))).2.2.2.2
  clear HKE hNE h9 F0 F1 F2 F3 F4 F5
  go_wp2_with fail
  try go_ret
  exact ⟨rfl, unhide HB9⟩
set_option maxRecDepth 100000 in
set_option maxHeartbeats 16000000 in
theorem shown_circtrue (rows width : Int) (a1 : Option Addr) (n1 c1 : Nat) (st : List Int) (a2 : Option Addr) (n2 c2 : Nat) (cols : List Int) (a : Option Addr) (n c : Nat) (xs : List Int) (w : World) (h1 : SlI w a1 n1 c1 st) (h2 : SlI w a2 n2 c2 cols) (h3 : SlI w a n c xs) (hb1 : n1 ≤ 17592186044000) (hb2 : n2 ≤ 17592186044000) (p q : Nat) (hT : ChT 5 rows width n1 n2 n st cols xs [(p : Int), (q : Int)] 0) (hpq : p < q) (hE : ∀ W, SlI W a1 n1 c1 st → SlI W a2 n2 c2 cols → SlI W a n c xs → Calls Tryz.prog 17 #[patV rows width a1 n1 c1 a2 n2 c2, .slice a n c, .int .i64 (p : Int), .int .i64 (q : Int)] W fun e w' => e = .returned (.bool true) ∧ Below W.heap.size W w') (hq : q < n) (hok : TruQ true (HasP rows width st cols (p : Int) (q : Int))) (hne : xs.getD p 0 ≠ xs.getD q 0) : Calls Tryz.prog 4 #[.int .i64 5, patV rows width a1 n1 c1 a2 n2 c2, .slice a n c] w fun e w' => e = .returned (.bool true) ∧ Below w.heap.size w w' := by
  obtain ⟨wb, hwb⟩ : ∃ x, w.alloc (.cells #[.int .i64 rows, .int .i64 width, .slice a1 n1 c1, .slice a2 n2 c2] 25) = x := ⟨_, rfl⟩
  have bb : Below w.heap.size w wb := by rw [← hwb]; exact (Below.refl _ _).alloc (Nat.le_refl _) _
  have hT0 := BoxP.made w #[.int .i64 rows, .int .i64 width, .slice a1 n1 c1, .slice a2 n2 c2] 25
  rw [hwb] at hT0
  have HN := hide (show ∀ W, Below wb.heap.size wb W → BoxP W w.heap.size [.int .i64 rows, .int .i64 width, .slice a1 n1 c1, .slice a2 n2 c2] ∧ SlI W a1 n1 c1 st ∧ SlI W a2 n2 c2 cols ∧ SlI W a n c xs ∧ Below w.heap.size w W from fun W b => ⟨hT0.below b, (h1.below bb).below b, (h2.below bb).below b, (h3.below bb).below b, bb.trans (b.mono bb.size)⟩)
  have HT := hide hT
  have HOK := hide hok
  clear hT0 bb h1 h2 h3 hT hok
  unfold patV
  go_enter Tryz.func4, Tryz.ntmps4
  go_wp2_with fail
  refine (calive_any wb).mono ?_
  rintro _ w1 ⟨rfl, b1⟩
  have hx := unhide HN w1 b1
  have p0 := (hx.1.all 0 _ rfl).1
  have p1 := (hx.1.all 1 _ rfl).1
  have p2 := (hx.1.all 2 _ rfl).1
  have p3 := (hx.1.all 3 _ rfl).1
  have KF := (unhide HT).one a1 a2 a c1 c2 c w1 hx.2.1 hx.2.2.1 hx.2.2.2.1
  unfold patV at KF
  have KF := hide KF
  have HB1 := hide b1
  clear hx b1
  go_wp2_with fail
  refine (unhide KF).mono ?_
  rintro _ w2 ⟨b2, al, cl, rfl, hol⟩
  have hSL : SlI w2 al 2 cl [(p : Int), (q : Int)] := by
    obtain ⟨a9, c9, e9, s9⟩ := own_slI hol
    cases e9
    exact s9
  have HB2 := hide ((unhide HB1).trans (b2.mono (unhide HB1).size))
  have HSL := hide (show ∀ W, Below w2.heap.size w2 W → SlI W al 2 cl [(p : Int), (q : Int)] from fun W b => hSL.below b)
  have HNB := hide (show ∀ W, Below w2.heap.size w2 W → BoxP W w.heap.size [.int .i64 rows, .int .i64 width, .slice a1 n1 c1, .slice a2 n2 c2] ∧ SlI W a1 n1 c1 st ∧ SlI W a2 n2 c2 cols ∧ SlI W a n c xs ∧ Below w.heap.size w W from fun W b => unhide HN W ((unhide HB2).trans (b.mono (unhide HB2).size)))
  have hx := (unhide HNB w2 (Below.refl _ _)).1
  clear KF hSL hol b2 p0 p1 p2 p3
  have p0 := (hx.all 0 _ rfl).1
  have p1 := (hx.all 1 _ rfl).1
  have p2 := (hx.all 2 _ rfl).1
  have p3 := (hx.all 3 _ rfl).1
  have KC := cCheck_by 5 rows width 0 [(p : Int), (q : Int)] a1 a2 a n1 c1 n2 c2 n c w2 (fun W b => (unhide HT).one a1 a2 a c1 c2 c W (unhide HNB W b).2.1 (unhide HNB W b).2.2.1 (unhide HNB W b).2.2.2.1)
  unfold patV at KC
  clear hx
  have hck : ckE [(p : Int), (q : Int)] 0 = 241 := rfl
  rw [hck] at KC
  have KC := hide KC
  clear hck
  go_wp2_with fail
  refine (num12_any 0 w2).mono ?_
  rintro _ wn ⟨rfl, hwn⟩
  rw [hwn]
  clear hwn wn
  go_wp2_with fail
  refine (unhide KC).mono ?_
  rintro _ w3 ⟨rfl, b3⟩
  have HB3 := hide b3
  have hx := unhide HNB w3 b3
  have hs := unhide HSL w3 b3
  clear KC p0 p1 p2 p3
  have p0 := (hx.1.all 0 _ rfl).1
  have p1 := (hx.1.all 1 _ rfl).1
  have p2 := (hx.1.all 2 _ rfl).1
  have p3 := (hx.1.all 3 _ rfl).1
  obtain ⟨bl, ol, rfl, hcl⟩ := hs.at (by omega)
  clear hs b3
  go_wp2_with fail
  refine (num12_any 241 w3).mono ?_
  rintro _ wn ⟨rfl, hwn⟩
  rw [hwn]
  clear hwn wn
  have l0 := hcl 0 (by omega)
  have l1 := hcl 1 (by omega)
  simp only [Nat.add_zero] at l0
  simp only [List.getD_cons_zero, List.getD_cons_succ] at l0 l1
  have HE := hide (fun W (b : Below w3.heap.size w3 W) => hE W (unhide HNB W ((unhide HB3).trans (b.mono (unhide HB3).size))).2.1 (unhide HNB W ((unhide HB3).trans (b.mono (unhide HB3).size))).2.2.1 (unhide HNB W ((unhide HB3).trans (b.mono (unhide HB3).size))).2.2.2.1)
  unfold patV at HE
  have hpq' : (p : Int) < (q : Int) := by omega
  have d1 : decide ((p : Int) ≥ 0) = true := by simp
  have d2 : decide (p < q) = true := by simp; omega
  have HX1 := hide (fun W (b : Below w3.heap.size w3 W) => shas_any rows width a1 a2 n1 c1 n2 c2 st cols (p : Int) (q : Int) W (unhide HNB W ((unhide HB3).trans (b.mono (unhide HB3).size))).2.1 (unhide HNB W ((unhide HB3).trans (b.mono (unhide HB3).size))).2.2.1 (by omega) (by omega) true (unhide HOK))
  unfold patV at HX1
  obtain ⟨bc, oc, ea, hcc⟩ := hx.2.2.2.1.at (by omega)
  subst ea
  have t0 := hcc p (by omega)
  have t1 := hcc q hq
  obtain ⟨y, hy⟩ : ∃ y, xs.getD p 0 = y := ⟨_, rfl⟩
  obtain ⟨z, hz⟩ : ∃ y, xs.getD q 0 = y := ⟨_, rfl⟩
  rw [hy] at t0
  rw [hz] at t1
  have e1 : (y == z) = false := by rw [hy, hz] at hne; simp [hne]
  have hq' : (q : Int) < (n : Int) := by omega
  have hp' : (p : Int) < (n : Int) := by omega
  have d3 : decide (q < n) = true := by simp; omega
  have HK1 := hide (fun x' : Ext w3 => unhide HX1 x'.w x'.bel)
  have F0 := fun x' : Ext w3 => x'.cell t0
  have F1 := fun x' : Ext w3 => x'.cell t1
  have F2 := fun x' : Ext w3 => x'.cell l0
  have F3 := fun x' : Ext w3 => x'.cell l1
  have F4 := fun x' : Ext w3 => x'.cell p0
  have F5 := fun x' : Ext w3 => x'.cell p1
  have F6 := fun x' : Ext w3 => x'.cell p2
  have F7 := fun x' : Ext w3 => x'.cell p3
  have hNE := Ext.ne w3
  clear hx hcl hE hcc hpq hq hy hz HX1 hne
  go_wp2_with fail
  refine (clines_any 5 false (by simp) (by simp) (by simp) w3).mono ?_
  rintro _ wn ⟨rfl, hwn⟩
  rw [hwn]
  clear hwn wn
  go_wp2_with fail
  refine wp_region_ext (by kernel_rfl) (by kernel_rfl) ?_
  repeat (go_big_quiet_step (first
    | (go_at_call 16; rename_i x'; exact Ext.call (unhide HK1 x') (fun e w' h => h))))
  refine wpQuiet_nil ?_
  rintro _ ⟨xF, rfl⟩
  have HBF := hide xF.bel
  have t2 := F2 xF
  have t3 := F3 xF
  have p0 := F4 xF
  have p1 := F5 xF
  have p2 := F6 xF
  have p3 := F7 xF
  clear F0 F1 F2 F3 F4 F5 F6 F7
  clear HK1
  clear hNE
  generalize xF.w = wF at *
  have F0 := fun x' : Ext wF => x'.cell t2
  have F1 := fun x' : Ext wF => x'.cell t3
  have F2 := fun x' : Ext wF => x'.cell p0
  have F3 := fun x' : Ext wF => x'.cell p1
  have F4 := fun x' : Ext wF => x'.cell p2
  have F5 := fun x' : Ext wF => x'.cell p3
  have hNE := Ext.ne wF
  have HKE := hide (fun x' : Ext wF => unhide HE x'.w ((unhide HBF).trans (x'.bel.mono (unhide HBF).size)))
  clear HE
  go_wp2_with fail
  refine wp_region_ext (by kernel_rfl) (by kernel_rfl) ?_
  repeat (go_big_quiet_step ((go_at_call 17; rename_i x'; exact Ext.call (unhide HKE x') (fun e w' h => h))))
  refine wpQuiet_nil ?_
  rintro _ ⟨xG, rfl⟩
  have h9 := (unhide HBF).trans (xG.bel.mono (unhide HBF).size)
  have HB9 := hide (unhide HNB xG.w ((unhide HB3).trans (h9.mono (unhide HB3).size))).2.2.2.2
  clear HKE hNE h9 F0 F1 F2 F3 F4 F5
  go_wp2_with fail
  try go_ret
  exact ⟨rfl, unhide HB9⟩
end Go.Proofs.YtgjokididdffhaaGreat
