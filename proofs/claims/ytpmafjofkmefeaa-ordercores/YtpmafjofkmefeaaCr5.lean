/-
  ORDERS: order.Degeneracy of every pattern, slopelaw11.degeneracies: contracts.
-/
import Derived.Test.YtpmafjofkmefeaaCr4
import Derived.Test.YtpmafjofkmefeaaCo2
namespace Go.Proofs.Ytpmafjofkmefeaa
open Go.RowKit Go.Deep
set_option linter.unusedVariables false

set_option maxRecDepth 100000 in
set_option maxHeartbeats 16000000 in
/-- order.Degeneracy of a graph, of no vertices too. -/
theorem odegen_all (R : Nat) (a1 a2 : Option Addr) (n1 c1 n2 c2 : Nat) (st cols : List Int) (w : World) (h1 : SlI w a1 n1 c1 st) (h2 : SlI w a2 n2 c2 cols) (hb1 : n1 ≤ 17592186044000) (hb2 : n2 ≤ 17592186044000) (hm : MayP (R : Int) (R : Int) st cols) (hg : GraP st cols R R) (hdg : ∀ v, v < R → (rowL st cols v).length < R) (hok : ∀ k, k < R → PeO R (nbL st cols) (fun v => (rowL st cols v).length) k) :
    Calls Try.prog 13 #[patV (R : Int) (R : Int) a1 n1 c1 a2 n2 c2] w fun e w' => ∃ (v : Int) (g : Nat), w.heap.size ≤ g ∧ e = .returned (.tuple #[.int .i64 v, .slice (some ⟨g, 0, none⟩) R R, .int .i64 0]) ∧ RoV w' g R (fun v => .int .i64 (coF (peV R (nbL st cols) (fun v => (rowL st cols v).length)) (peC R (nbL st cols) (fun v => (rowL st cols v).length)) R v : Int)) ∧ MaxTo (0 :: (List.range R).map (fun i => (coF (peV R (nbL st cols) (fun v => (rowL st cols v).length)) (peC R (nbL st cols) (fun v => (rowL st cols v).length)) R i : Int))) (R + 1) v ∧ Below w.heap.size w w' := by
  have hR : R ≤ 128 := by have := hm.head.fit; omega
  obtain ⟨wb, hwb⟩ : ∃ x, w.alloc (.cells #[.int .i64 (R : Int), .int .i64 (R : Int), .slice a1 n1 c1, .slice a2 n2 c2] 24) = x := ⟨_, rfl⟩
  have bb : Below w.heap.size w wb := by rw [← hwb]; exact (Below.refl _ _).alloc (Nat.le_refl _) _
  have hT := BoxP.made w #[.int .i64 (R : Int), .int .i64 (R : Int), .slice a1 n1 c1, .slice a2 n2 c2] 24
  rw [hwb] at hT
  have p0 := (hT.all 0 _ rfl).1
  have p1 := (hT.all 1 _ rfl).1
  have p2 := (hT.all 2 _ rfl).1
  have p3 := (hT.all 3 _ rfl).1
  have K1 := hide (oisGraph_yes R a1 a2 n1 c1 n2 c2 st cols wb (h1.below bb) (h2.below bb) hb1 hb2 hm hg)
  have K2 := hide (fun (W : World) (b : Below w.heap.size w W) => ocores_any R a1 a2 n1 c1 n2 c2 st cols W (h1.below b) (h2.below b) hb1 hb2 hm hdg hok)
  generalize coF (peV R (nbL st cols) (fun v => (rowL st cols v).length)) (peC R (nbL st cols) (fun v => (rowL st cols v).length)) R = co at *
  unfold patV at K1 K2
  have HB := hide bb
  have HT := hide hT
  clear hT bb h1 h2 hm hg hdg hok
  unfold patV
  go_enter Try.func13, Try.ntmps13
  go_wp2_with fail
  refine (unhide K1).mono ?_
  rintro _ w2 ⟨rfl, b2⟩
  have HB2 := hide ((unhide HB).trans (b2.mono (unhide HB).size))
  have hT2 := (unhide HT).below b2
  have K3 := hide (unhide K2 w2 (unhide HB2))
  clear K1 K2 b2 p0 p1 p2 p3
  have p0 := (hT2.all 0 _ rfl).1
  have p1 := (hT2.all 1 _ rfl).1
  have p2 := (hT2.all 2 _ rfl).1
  have p3 := (hT2.all 3 _ rfl).1
  clear hT2
  go_wp2_with fail
  refine (unhide K3).mono ?_
  rintro _ w3 ⟨g, hg, rfl, hr, hl, b3⟩
  have K4 := hide (ogreatest_all g R co w3 hr hR)
  have HB3 := hide ((unhide HB2).trans (b3.mono (unhide HB2).size))
  have HR3 := hide (And.intro hr (And.intro hg hl))
  clear K3 hg hr hl b3 p0 p1 p2 p3
  go_wp2_with fail
  refine (unhide K4).mono ?_
  rintro _ w4 ⟨v, rfl, hm, b4⟩
  have HF := hide (And.intro hm (And.intro ((unhide HR3).1.below b4) ((unhide HB3).trans (b4.mono (unhide HB3).size))))
  clear K4 hm b4
  go_wp2_with fail
  refine bodyPost_ret (by simp [results, Try.results13, go_sem]; try rfl) rfl ?_
  exact ⟨v, g, Nat.le_trans (unhide HB2).size (unhide HR3).2.1, rfl, (unhide HF).2.1, (unhide HF).1, (unhide HF).2.2⟩
set_option maxRecDepth 100000 in
set_option maxHeartbeats 8000000 in
/-- order.Degeneracy of no graph. -/
theorem odegen_nogr (rows width : Int) (a1 a2 : Option Addr) (n1 c1 n2 c2 : Nat) (st cols : List Int) (w : World) (h1 : SlI w a1 n1 c1 st) (h2 : SlI w a2 n2 c2 cols) (hb1 : n1 ≤ 17592186044000) (hb2 : n2 ≤ 17592186044000) (hno : ¬ IsGr rows width st cols) :
    Calls Try.prog 13 #[patV rows width a1 n1 c1 a2 n2 c2] w fun e w' => e = .returned (.tuple #[.int .i64 0, .slice none 0 0, .int .i64 220]) ∧ Below w.heap.size w w' := by
  obtain ⟨wb, hwb⟩ : ∃ x, w.alloc (.cells #[.int .i64 rows, .int .i64 width, .slice a1 n1 c1, .slice a2 n2 c2] 24) = x := ⟨_, rfl⟩
  have bb : Below w.heap.size w wb := by rw [← hwb]; exact (Below.refl _ _).alloc (Nat.le_refl _) _
  have hT := BoxP.made w #[.int .i64 rows, .int .i64 width, .slice a1 n1 c1, .slice a2 n2 c2] 24
  rw [hwb] at hT
  have p0 := (hT.all 0 _ rfl).1
  have p1 := (hT.all 1 _ rfl).1
  have p2 := (hT.all 2 _ rfl).1
  have p3 := (hT.all 3 _ rfl).1
  have K := hide (oisGraph_no rows width a1 a2 n1 c1 n2 c2 st cols wb (h1.below bb) (h2.below bb) hb1 hb2 hno)
  unfold patV at K
  have HB := hide bb
  clear hT bb h1 h2 hno
  unfold patV
  go_enter Try.func13, Try.ntmps13
  go_wp2_with fail
  refine (unhide K).mono ?_
  rintro _ w2 ⟨rfl, b2⟩
  have HB2 := hide ((unhide HB).trans (b2.mono (unhide HB).size))
  clear K b2 p0 p1 p2 p3
  go_wp2_with fail
  refine bodyPost_ret (by simp [results, Try.results13, go_sem]; try rfl) rfl ?_
  exact ⟨rfl, unhide HB2⟩
set_option maxRecDepth 100000 in
set_option maxHeartbeats 8000000 in
/-- sloperef11.Degeneracy of no graph. -/
theorem wodegen_nogr (rows width : Int) (a1 a2 : Option Addr) (n1 c1 n2 c2 : Nat) (st cols : List Int) (w : World) (h1 : SlI w a1 n1 c1 st) (h2 : SlI w a2 n2 c2 cols) (hb1 : n1 ≤ 17592186044000) (hb2 : n2 ≤ 17592186044000) (hno : ¬ IsGr rows width st cols) :
    Calls Try.prog 14 #[patV rows width a1 n1 c1 a2 n2 c2] w fun e w' => e = .returned (.tuple #[.int .i64 0, .slice none 0 0, .int .i64 220]) ∧ Below w.heap.size w w' := by
  obtain ⟨wb, hwb⟩ : ∃ x, w.alloc (.cells #[.int .i64 rows, .int .i64 width, .slice a1 n1 c1, .slice a2 n2 c2] 24) = x := ⟨_, rfl⟩
  have bb : Below w.heap.size w wb := by rw [← hwb]; exact (Below.refl _ _).alloc (Nat.le_refl _) _
  have hT := BoxP.made w #[.int .i64 rows, .int .i64 width, .slice a1 n1 c1, .slice a2 n2 c2] 24
  rw [hwb] at hT
  have p0 := (hT.all 0 _ rfl).1
  have p1 := (hT.all 1 _ rfl).1
  have p2 := (hT.all 2 _ rfl).1
  have p3 := (hT.all 3 _ rfl).1
  have K := hide (wograph_any rows width a1 a2 n1 c1 n2 c2 st cols wb (h1.below bb) (h2.below bb) hb1 hb2 false ⟨fun e => absurd e (by decide), fun h => absurd h hno⟩)
  unfold patV at K
  have HB := hide bb
  clear hT bb h1 h2 hno
  unfold patV
  go_enter Try.func14, Try.ntmps14
  go_wp2_with fail
  refine (unhide K).mono ?_
  rintro _ w2 ⟨rfl, b2⟩
  have HB2 := hide ((unhide HB).trans (b2.mono (unhide HB).size))
  clear K b2 p0 p1 p2 p3
  go_wp2_with fail
  refine bodyPost_ret (by simp [results, Try.results14, go_sem]; try rfl) rfl ?_
  exact ⟨rfl, unhide HB2⟩
/-- Both sides' answers of Degeneracy. -/
structure DgT (rows width : Int) (n1 n2 : Nat) (st cols : List Int) (v e : Int) (L : List Int) : Prop where
  one : ∀ (a1 a2 : Option Addr) (c1 c2 : Nat) (W : World), SlI W a1 n1 c1 st → SlI W a2 n2 c2 cols → Calls Try.prog 13 #[patV rows width a1 n1 c1 a2 n2 c2] W fun r W' => ∃ b m d, r = .returned (.tuple #[.int .i64 v, .slice b m d, .int .i64 e]) ∧ SlI W' b m d L ∧ Below W.heap.size W W'
  two : ∀ (a1 a2 : Option Addr) (c1 c2 : Nat) (W : World), SlI W a1 n1 c1 st → SlI W a2 n2 c2 cols → Calls Try.prog 14 #[patV rows width a1 n1 c1 a2 n2 c2] W fun r W' => ∃ b m d, r = .returned (.tuple #[.int .i64 v, .slice b m d, .int .i64 e]) ∧ SlI W' b m d L ∧ Below W.heap.size W W'
  len : L.length ≤ 128
theorem degens_two (rows width : Int) (n1 n2 : Nat) (st cols : List Int) (hb1 : n1 ≤ 17592186044000) (hb2 : n2 ≤ 17592186044000) : ∃ v e L, DgT rows width n1 n2 st cols v e L := by
  by_cases hg : IsGr rows width st cols
  · obtain ⟨R, rfl, rfl, hm, hg⟩ := hg
    have hR : R ≤ 128 := by have := hm.head.fit; omega
    refine ⟨(mdF R st cols R : Int), 0, (List.range R).map (fun u => (coV R st cols u : Int)), ⟨fun a1 a2 c1 c2 W h1 h2 => ?_, fun a1 a2 c1 c2 W h1 h2 => ?_, by simp; exact hR⟩⟩
    · refine (odegen_all R a1 a2 n1 c1 n2 c2 st cols W h1 h2 hb1 hb2 hm hg (fun v hv => deg_lt hm hg hv) (peO_all hm hg)).mono ?_
      rintro r W' ⟨v, g, hgl, rfl, hr, hmx, hB⟩
      have ev := degen_two hm hg (show MaxTo (0 :: (List.range R).map (fun i => (coV R st cols i : Int))) (R + 1) v from hmx)
      subst ev
      exact ⟨_, _, _, rfl, RoV.sl2 (f := fun u => (coV R st cols u : Int)) hr hR, hB⟩
    · refine (wodegen_gr R a1 a2 n1 c1 n2 c2 st cols W h1 h2 hb1 hb2 hm hg).mono ?_
      rintro r W' ⟨g, rfl, hr, hB⟩
      have hr2 : RoV W' g R (fun u => .int .i64 (coV R st cols u : Int)) := hr.congr (fun u hu => by rw [core_two hm hg hu])
      exact ⟨_, _, _, rfl, hr2.sl2 hR, hB⟩
  · refine ⟨0, 220, [], ⟨fun a1 a2 c1 c2 W h1 h2 => ?_, fun a1 a2 c1 c2 W h1 h2 => ?_, by simp⟩⟩
    · refine (odegen_nogr rows width a1 a2 n1 c1 n2 c2 st cols W h1 h2 hb1 hb2 hg).mono ?_
      rintro r W' ⟨rfl, hB⟩
      exact ⟨_, _, _, rfl, SlI.nil _, hB⟩
    · refine (wodegen_nogr rows width a1 a2 n1 c1 n2 c2 st cols W h1 h2 hb1 hb2 hg).mono ?_
      rintro r W' ⟨rfl, hB⟩
      exact ⟨_, _, _, rfl, SlI.nil _, hB⟩
set_option maxRecDepth 100000 in
set_option maxHeartbeats 16000000 in
/-- slopelaw11.degeneracies. -/
theorem olawdegens_any (rows width : Int) (x1 x2 : Option Addr) (y1 y2 : Nat) (a1 a2 : Option Addr) (n1 c1 n2 c2 : Nat) (st cols : List Int) (w : World) (g1 : SlI w x1 n1 y1 st) (g2 : SlI w x2 n2 y2 cols) (h1 : SlI w a1 n1 c1 st) (h2 : SlI w a2 n2 c2 cols) (hb1 : n1 ≤ 17592186044000) (hb2 : n2 ≤ 17592186044000) :
    Calls Try.prog 6 #[patV rows width x1 n1 y1 x2 n2 y2, patV rows width a1 n1 c1 a2 n2 c2] w fun e w' => e = .returned (.bool true) ∧ Below w.heap.size w w' := by
  obtain ⟨v, er, L, hBT⟩ := degens_two rows width n1 n2 st cols hb1 hb2
  obtain ⟨wb, hwb⟩ : ∃ q, w.alloc (.cells #[.int .i64 rows, .int .i64 width, .slice x1 n1 y1, .slice x2 n2 y2] 24) = q := ⟨_, rfl⟩
  have bb : Below w.heap.size w wb := by rw [← hwb]; exact (Below.refl _ _).alloc (Nat.le_refl _) _
  have hT := BoxP.made w #[.int .i64 rows, .int .i64 width, .slice x1 n1 y1, .slice x2 n2 y2] 24
  rw [hwb] at hT
  obtain ⟨wc, hwc⟩ : ∃ q, wb.alloc (.cells #[.int .i64 rows, .int .i64 width, .slice a1 n1 c1, .slice a2 n2 c2] 24) = q := ⟨_, rfl⟩
  have bc : Below wb.heap.size wb wc := by rw [← hwc]; exact (Below.refl _ _).alloc (Nat.le_refl _) _
  have hT2 := BoxP.made wb #[.int .i64 rows, .int .i64 width, .slice a1 n1 c1, .slice a2 n2 c2] 24
  rw [hwc] at hT2
  have bwc := bb.trans (bc.mono bb.size)
  have hT1 := hT.below bc
  have p0 := (hT1.all 0 _ rfl).1
  have p1 := (hT1.all 1 _ rfl).1
  have p2 := (hT1.all 2 _ rfl).1
  have p3 := (hT1.all 3 _ rfl).1
  have K1 := hide (hBT.one x1 x2 y1 y2 wc (g1.below bwc) (g2.below bwc))
  unfold patV at K1
  have HT2 := hide hT2
  have HB := hide bwc
  have HS := hide (And.intro h1 h2)
  have HBT := hide hBT
  clear hT hT1 hT2 bb bc bwc g1 g2 h1 h2 hBT
  unfold patV
  go_enter Try.func6, Try.ntmps6
  go_wp2_with fail
  refine (unhide K1).mono ?_
  rintro _ w2 ⟨b, m, d, rfl, hs, b2⟩
  have HB2 := hide ((unhide HB).trans (b2.mono (unhide HB).size))
  have hT3 := (unhide HT2).below b2
  have K2 := hide ((unhide HBT).two a1 a2 c1 c2 w2 ((unhide HS).1.below (unhide HB2)) ((unhide HS).2.below (unhide HB2)))
  unfold patV at K2
  have HS2 := hide hs
  clear K1 b2 p0 p1 p2 p3 hs
  have p0 := (hT3.all 0 _ rfl).1
  have p1 := (hT3.all 1 _ rfl).1
  have p2 := (hT3.all 2 _ rfl).1
  have p3 := (hT3.all 3 _ rfl).1
  clear hT3
  go_wp2_with fail
  refine (unhide K2).mono ?_
  rintro _ w3 ⟨b', m', d', rfl, hs', b3⟩
  obtain rfl : m = m' := by rw [← (unhide HS2).len, ← hs'.len]
  have hml : m ≤ 128 := by rw [← (unhide HS2).len]; exact (unhide HBT).len
  have HB3 := hide ((unhide HB2).trans (b3.mono (unhide HB2).size))
  have KS := hide (sameInts_eq b b' m d d' L w3 ((unhide HS2).below b3) hs' (by omega))
  clear K2 b3 hs' p0 p1 p2 p3
  have d1 : (v == v) = true := by simp
  have d2 : (er == er) = true := by simp
  go_wp2_with ((go_at_call 15; refine (num11_any _ _).mono ?_; rintro _ wn ⟨rfl, hwn⟩; rw [hwn]; clear hwn wn))
  refine (unhide KS).mono ?_
  rintro _ w4 ⟨rfl, kx, hkx⟩
  have HB4 := hide (show Below w.heap.size w w4 from by rw [hkx]; exact bel_drewN (unhide HB3) kx)
  clear KS hkx
  go_wp2_with fail
  try go_ret
  exact ⟨rfl, unhide HB4⟩
end Go.Proofs.Ytpmafjofkmefeaa
