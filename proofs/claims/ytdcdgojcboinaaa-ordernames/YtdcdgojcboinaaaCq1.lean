/-
  ORDERS: order.greatest and order.Degeneracy: contracts.
-/
import Derived.Test.YtdcdgojcboinaaaCpc
import Derived.Test.YtdcdgojcboinaaaCg9
import Derived.Test.YtdcdgojcboinaaaCo8
namespace Go.Proofs.Ytdcdgojcboinaaa
open Go.Shelf Go.RowKit Go.Deep
set_option linter.unusedVariables false

set_option maxRecDepth 100000 in
set_option maxHeartbeats 16000000 in
/-- order.greatest. -/
theorem ogreatest_any (g R : Nat) (f : Nat → Nat) (w : World) (h : RoV w g R (fun i => .int .i64 (f i : Int))) (hR : R ≤ 128) (h0 : 0 < R) :
    Calls Try.prog 15 #[.slice (some ⟨g, 0, none⟩) R R] w fun e w' => ∃ v : Int, e = .returned (.int .i64 v) ∧ MaxTo (0 :: (List.range R).map (fun i => (f i : Int))) (R + 1) v ∧ Below w.heap.size w w' := by
  obtain ⟨i64, hi, hz, hs, hb⟩ := info_parts Try.info_i64
  have HI := hide (And.intro hi (And.intro hz (And.intro hs hb)))
  have HH := hide h
  clear h hi hz hs hb
  go_enter Try.func15, Try.ntmps15
  have hown : (w.alloc (Obj.cells #[Value.int IntKind.i64 0] 3)).ownsRow w.heap.size 3 1 (.slice (some ⟨w.heap.size, 0, none⟩) 1 1) 1 [.int .i64 0] := ⟨rfl, .inr ⟨w.heap.size, 1, #[.int .i64 0], rfl, Nat.le_refl _, alloc_block _ _, Nat.le_refl _, by unfold maxLen; omega, rfl, rfl⟩⟩
  have HOW := hide hown
  have hone : ∀ u ∈ valsI ((List.range R).map (fun i => (f i : Int))), u.oneCell' = true := one_valsI _
  have hmx : 1 + R ≤ maxLen := by unfold maxLen; omega
  have hby : (1 + R) * 8 ≤ 140737488355328 := by omega
  have HNW := hide (show ∀ j u, (valsI ((List.range R).map (fun i => (f i : Int))))[j]? = some u → (w.alloc (Obj.cells #[Value.int IntKind.i64 0] 3)).cell? ((⟨g, 0, none⟩ : Addr).add j) = some u from fun j u hj => by
    obtain ⟨hl, rfl⟩ := val_of hj
    have hj2 : j < R := by simpa using hl
    rw [Addr.add_lit, Nat.zero_add]
    have hc := (unhide HH j hj2).1
    rw [World.cell?_alloc_lt _ _ _ (World.block_lt_of_cell? _ _ hc), hc]
    simp [List.getD, hj2])
  clear hown
  go_wp2_with (at_builtin; refine wpList_append_lies _ rfl _ _ 22 rfl w.heap.size 3 i64 (.int .i64 0) 1 8 Try.underlying22 (unhide HI).1 (unhide HI).2.1 (unhide HI).2.2.1 (unhide HI).2.2.2 rfl (by decide) (.slice (some ⟨w.heap.size, 0, none⟩) 1 1) 1 [.int .i64 0] rfl (unhide HOW) ⟨g, 0, none⟩ R R (valsI ((List.range R).map (fun i => (f i : Int)))) rfl (by simp [valsI]) (unhide HNW) hone h0 hmx hby (by simp) (w.heap.size + 1) (by simp) ?_)
  intro g' cap' w9 hown9 hgrow9 hat9 hlt9
  obtain ⟨a9, c9, e9, s9⟩ := (BkR.of_owns (xs := 0 :: (List.range R).map (fun i => (f i : Int))) (v := .slice (some ⟨g', 0, none⟩) (1 + R) cap') (by
    have e : (0 :: (List.range R).map (fun i => (f i : Int))).length = 1 + R := by simp; omega
    rw [e]
    exact hown9)).sli
  have e : (0 :: (List.range R).map (fun i => (f i : Int))).length = R + 1 := by simp
  rw [e] at e9 s9
  have K := hide (smax_any a9 (R + 1) c9 _ w9 s9 (by omega) (by omega))
  have hB9 : Below w.heap.size w w9 := Below.grown ((Below.refl w.heap.size w).alloc (Nat.le_refl _) _) hgrow9 (by simp) (fun j hj => by have : w.heap.size = j := (by simpa [Value.ownBlock] using hj); omega)
  have HB9 := hide hB9
  rw [e9]
  clear hown9 hgrow9 hat9 hlt9 e9 s9 e hB9 HNW HOW
  go_wp2_with fail
  refine (unhide K).mono ?_
  rintro _ w10 ⟨v, rfl, hm, b10⟩
  clear K
  have HF := hide (And.intro hm ((unhide HB9).trans (b10.mono (unhide HB9).size)))
  clear hm b10
  go_wp2_with fail
  try go_ret
  exact ⟨v, rfl, (unhide HF).1, (unhide HF).2⟩
set_option maxRecDepth 100000 in
set_option maxHeartbeats 16000000 in
/-- order.Degeneracy of a graph. -/
theorem odegen_any (R : Nat) (a1 a2 : Option Addr) (n1 c1 n2 c2 : Nat) (st cols : List Int) (w : World) (h1 : SlI w a1 n1 c1 st) (h2 : SlI w a2 n2 c2 cols) (hb1 : n1 ≤ 17592186044000) (hb2 : n2 ≤ 17592186044000) (hm : MayP (R : Int) (R : Int) st cols) (hg : GraP st cols R R) (hdg : ∀ v, v < R → (rowL st cols v).length < R) (hok : ∀ k, k < R → PeO R (nbL st cols) (fun v => (rowL st cols v).length) k) (h0 : 0 < R) :
    Calls Try.prog 5 #[patV (R : Int) (R : Int) a1 n1 c1 a2 n2 c2] w fun e w' => ∃ (v : Int) (g : Nat), w.heap.size ≤ g ∧ e = .returned (.tuple #[.int .i64 v, .slice (some ⟨g, 0, none⟩) R R, .int .i64 0]) ∧ RoV w' g R (fun v => .int .i64 (coF (peV R (nbL st cols) (fun v => (rowL st cols v).length)) (peC R (nbL st cols) (fun v => (rowL st cols v).length)) R v : Int)) ∧ MaxTo (0 :: (List.range R).map (fun i => (coF (peV R (nbL st cols) (fun v => (rowL st cols v).length)) (peC R (nbL st cols) (fun v => (rowL st cols v).length)) R i : Int))) (R + 1) v ∧ Below w.heap.size w w' := by
  have hR : R ≤ 128 := by have := hm.head.fit; omega
  obtain ⟨wb, hwb⟩ : ∃ x, w.alloc (.cells #[.int .i64 (R : Int), .int .i64 (R : Int), .slice a1 n1 c1, .slice a2 n2 c2] 24) = x := ⟨_, rfl⟩
  have bb : Below w.heap.size w wb := by rw [← hwb]; exact (Below.refl _ _).alloc (Nat.le_refl _) _
  have hT := BoxP.made w #[.int .i64 (R : Int), .int .i64 (R : Int), .slice a1 n1 c1, .slice a2 n2 c2] 24
  rw [hwb] at hT
  have p0 := (hT.all 0 _ rfl).1
  have p1 := (hT.all 1 _ rfl).1
  have p2 := (hT.all 2 _ rfl).1
  have p3 := (hT.all 3 _ rfl).1
  have K1 := hide (oisGraph_yes R a1 a2 n1 c1 n2 c2 st cols wb (h1.below bb) (h2.below bb) hb1 hb2 hm hg)
  have K2 := hide (fun (W : World) (b : Below w.heap.size w W) => ocores_any R a1 a2 n1 c1 n2 c2 st cols W (h1.below b) (h2.below b) hb1 hb2 hm hdg hok)
  generalize coF (peV R (nbL st cols) (fun v => (rowL st cols v).length)) (peC R (nbL st cols) (fun v => (rowL st cols v).length)) R = co at *
  unfold patV at K1 K2
  have HB := hide bb
  have HT := hide hT
  clear hT bb h1 h2 hm hg hdg hok
  unfold patV
  go_enter Try.func5, Try.ntmps5
  go_wp2_with fail
  refine (unhide K1).mono ?_
  rintro _ w2 ⟨rfl, b2⟩
  have HB2 := hide ((unhide HB).trans (b2.mono (unhide HB).size))
  have hT2 := (unhide HT).below b2
  have K3 := hide (unhide K2 w2 (unhide HB2))
  clear K1 K2 b2 p0 p1 p2 p3
  have p0 := (hT2.all 0 _ rfl).1
  have p1 := (hT2.all 1 _ rfl).1
  have p2 := (hT2.all 2 _ rfl).1
  have p3 := (hT2.all 3 _ rfl).1
  clear hT2
  go_wp2_with fail
  refine (unhide K3).mono ?_
  rintro _ w3 ⟨g, hg, rfl, hr, hl, b3⟩
  have K4 := hide (ogreatest_any g R co w3 hr hR h0)
  have HB3 := hide ((unhide HB2).trans (b3.mono (unhide HB2).size))
  have HR3 := hide (And.intro hr (And.intro hg hl))
  clear K3 hg hr hl b3 p0 p1 p2 p3
  go_wp2_with fail
  refine (unhide K4).mono ?_
  rintro _ w4 ⟨v, rfl, hm, b4⟩
  have HF := hide (And.intro hm (And.intro ((unhide HR3).1.below b4) ((unhide HB3).trans (b4.mono (unhide HB3).size))))
  clear K4 hm b4
  go_wp2_with fail
  refine bodyPost_ret (by simp [results, Try.results5, go_sem]; try rfl) rfl ?_
  exact ⟨v, g, Nat.le_trans (unhide HB2).size (unhide HR3).2.1, rfl, (unhide HF).2.1, (unhide HF).1, (unhide HF).2.2⟩
end Go.Proofs.Ytdcdgojcboinaaa

namespace Go.Proofs.Ytdcdgojcboinaaa
open Go.RowKit Go.Deep
set_option linter.unusedVariables false

set_option maxRecDepth 100000 in
set_option maxHeartbeats 16000000 in
/-- sparse.squareFault, of a pattern that may not be. -/
theorem ssquare_bad (rows width : Int) (a1 a2 : Option Addr) (n1 c1 n2 c2 : Nat) (st cols : List Int) (w : World) (h1 : SlI w a1 n1 c1 st) (h2 : SlI w a2 n2 c2 cols) (hb1 : n1 ≤ 17592186044416) (hb2 : n2 ≤ 17592186044416) (hm : ¬ MayP rows width st cols) :
    Calls Try.prog 32 #[patV rows width a1 n1 c1 a2 n2 c2] w fun e w' => e = .returned (.int .i64 180) ∧ Below w.heap.size w w' := by
  obtain ⟨wb, hwb⟩ : ∃ x, w.alloc (.cells #[.int .i64 rows, .int .i64 width, .slice a1 n1 c1, .slice a2 n2 c2] 24) = x := ⟨_, rfl⟩
  have bb : Below w.heap.size w wb := by rw [← hwb]; exact (Below.refl _ _).alloc (Nat.le_refl _) _
  have hT := BoxP.made w #[.int .i64 rows, .int .i64 width, .slice a1 n1 c1, .slice a2 n2 c2] 24
  rw [hwb] at hT
  have p0 := (hT.all 0 _ rfl).1
  have p1 := (hT.all 1 _ rfl).1
  have p2 := (hT.all 2 _ rfl).1
  have p3 := (hT.all 3 _ rfl).1
  have KM := hide (smay_any rows width a1 a2 n1 c1 n2 c2 st cols wb (h1.below bb) (h2.below bb) hb1 hb2)
  have HTQ := hide (show TruQ false (MayP rows width st cols) from ⟨fun e => absurd e (by decide), fun h => absurd h hm⟩)
  have HB := hide bb
  clear hT bb h1 h2 hm
  unfold patV
  unfold patV at KM
  go_enter Try.func32, Try.ntmps32
  go_wp2_with fail
  refine (unhide KM).mono ?_
  intro e w2 hq
  obtain ⟨rfl, b2⟩ := hq.known (unhide HTQ)
  have HB2 := hide ((unhide HB).trans (b2.mono (unhide HB).size))
  clear b2 hq KM p0 p1 p2 p3
  go_wp2_with fail
  try go_quiet (fail)
  all_goals (try go_wp2_with fail)
  all_goals (try go_ret)
  all_goals exact ⟨rfl, by first | exact unhide HB2 | exact bel_drewN (unhide HB2) _⟩
set_option maxRecDepth 100000 in
set_option maxHeartbeats 16000000 in
/-- sparse.Symmetric, of a pattern that may not be. -/
theorem ssym_bad (rows width : Int) (a1 a2 : Option Addr) (n1 c1 n2 c2 : Nat) (st cols : List Int) (w : World) (h1 : SlI w a1 n1 c1 st) (h2 : SlI w a2 n2 c2 cols) (hb1 : n1 ≤ 17592186044000) (hb2 : n2 ≤ 17592186044000) (hm : ¬ MayP rows width st cols) :
    Calls Try.prog 23 #[patV rows width a1 n1 c1 a2 n2 c2] w fun e w' => e = .returned (.bool false) ∧ Below w.heap.size w w' := by
  obtain ⟨wb, hwb⟩ : ∃ x, w.alloc (.cells #[.int .i64 rows, .int .i64 width, .slice a1 n1 c1, .slice a2 n2 c2] 24) = x := ⟨_, rfl⟩
  have bb : Below w.heap.size w wb := by rw [← hwb]; exact (Below.refl _ _).alloc (Nat.le_refl _) _
  have hT := BoxP.made w #[.int .i64 rows, .int .i64 width, .slice a1 n1 c1, .slice a2 n2 c2] 24
  rw [hwb] at hT
  have hO0 := BoxP.made wb #[.bool false] 4
  obtain ⟨wo, hwo⟩ : ∃ x, wb.alloc (.cells #[.bool false] 4) = x := ⟨_, rfl⟩
  have bo : Below wb.heap.size wb wo := by rw [← hwo]; exact (Below.refl _ _).alloc (Nat.le_refl _) _
  rw [hwo] at hO0
  have hT1 := hT.below bo
  have p0 := (hT1.all 0 _ rfl).1
  have p1 := (hT1.all 1 _ rfl).1
  have p2 := (hT1.all 2 _ rfl).1
  have p3 := (hT1.all 3 _ rfl).1
  have bw := bb.trans (bo.mono bb.size)
  have KM := hide (ssquare_bad rows width a1 a2 n1 c1 n2 c2 st cols wo (h1.below bw) (h2.below bw) (by omega) (by omega) hm)
  have HO := hide hO0
  have HB := hide bw
  have HWB := hide bb.size
  clear hT hT1 hO0 bb bo bw h1 h2 hm
  unfold patV
  unfold patV at KM
  go_enter Try.func23, Try.ntmps23
  go_wp2_with fail
  refine (unhide KM).mono ?_
  rintro _ w2 ⟨rfl, b2⟩
  have hO2 := (unhide HO).below b2
  have o0 := (hO2.all 0 _ rfl).1
  have r0 := (hO2.all 0 _ rfl).2
  have HB2 := hide ((unhide HB).trans (b2.mono (unhide HB).size))
  have HO2 := hide hO2
  clear b2 hO2 KM p0 p1 p2 p3
  go_wp2_with fail
  have hf := (unhide HO2).put 0 (.bool false)
  have t0 := (hf.all 0 _ rfl).1
  have cc : Chg (fun j => j = wb.heap.size) w2 (w2.setCell ⟨wb.heap.size, 0, none⟩ (.bool false)) := Chg.of_set _ _ _ _ rfl
  generalize w2.setCell ⟨wb.heap.size, 0, none⟩ (.bool false) = wf at *
  refine bodyPost_ret (by simp [results, Try.results23, go_sem, t0]; try rfl) rfl ?_
  exact ⟨rfl, (unhide HB2).trans (cc.below (unhide HB2).size (fun j hj e => by have := unhide HWB; omega))⟩
set_option maxRecDepth 100000 in
set_option maxHeartbeats 8000000 in
/-- order.isGraph where Symmetric says no. -/
theorem oisGraph_asym (rows width : Int) (a1 a2 : Option Addr) (n1 c1 n2 c2 : Nat) (w : World) (KS : ∀ W, Below w.heap.size w W → Calls Try.prog 23 #[patV rows width a1 n1 c1 a2 n2 c2] W fun e w' => e = .returned (.bool false) ∧ Below W.heap.size W w') :
    Calls Try.prog 13 #[patV rows width a1 n1 c1 a2 n2 c2] w fun e w' => e = .returned (.bool false) ∧ Below w.heap.size w w' := by
  obtain ⟨wb, hwb⟩ : ∃ x, w.alloc (.cells #[.int .i64 rows, .int .i64 width, .slice a1 n1 c1, .slice a2 n2 c2] 24) = x := ⟨_, rfl⟩
  have bb : Below w.heap.size w wb := by rw [← hwb]; exact (Below.refl _ _).alloc (Nat.le_refl _) _
  have hT := BoxP.made w #[.int .i64 rows, .int .i64 width, .slice a1 n1 c1, .slice a2 n2 c2] 24
  rw [hwb] at hT
  have p0 := (hT.all 0 _ rfl).1
  have p1 := (hT.all 1 _ rfl).1
  have p2 := (hT.all 2 _ rfl).1
  have p3 := (hT.all 3 _ rfl).1
  have K := hide (KS wb bb)
  unfold patV at K
  have HB := hide bb
  clear hT bb KS
  unfold patV
  go_enter Try.func13, Try.ntmps13
  go_wp2_with fail
  refine (unhide K).mono ?_
  rintro _ w2 ⟨rfl, b2⟩
  have HB2 := hide ((unhide HB).trans (b2.mono (unhide HB).size))
  clear K b2 p0 p1 p2 p3
  go_wp2_with fail
  try go_ret
  exact ⟨rfl, unhide HB2⟩
set_option maxRecDepth 100000 in
set_option maxHeartbeats 8000000 in
/-- order.isGraph where a vertex is its own neighbour. -/
theorem oisGraph_diag (R : Nat) (a1 a2 : Option Addr) (n1 c1 n2 c2 : Nat) (st cols : List Int) (w : World) (h1 : SlI w a1 n1 c1 st) (h2 : SlI w a2 n2 c2 cols) (hb1 : n1 ≤ 17592186044000) (hb2 : n2 ≤ 17592186044000) (hm : MayP (R : Int) (R : Int) st cols) (hs : SyP st cols R) (hd : DiP st cols R) :
    Calls Try.prog 13 #[patV (R : Int) (R : Int) a1 n1 c1 a2 n2 c2] w fun e w' => e = .returned (.bool false) ∧ Below w.heap.size w w' := by
  have hR : R ≤ 128 := by have := hm.head.fit; omega
  obtain ⟨wb, hwb⟩ : ∃ x, w.alloc (.cells #[.int .i64 (R : Int), .int .i64 (R : Int), .slice a1 n1 c1, .slice a2 n2 c2] 24) = x := ⟨_, rfl⟩
  have bb : Below w.heap.size w wb := by rw [← hwb]; exact (Below.refl _ _).alloc (Nat.le_refl _) _
  have hT := BoxP.made w #[.int .i64 (R : Int), .int .i64 (R : Int), .slice a1 n1 c1, .slice a2 n2 c2] 24
  rw [hwb] at hT
  have p0 := (hT.all 0 _ rfl).1
  have p1 := (hT.all 1 _ rfl).1
  have p2 := (hT.all 2 _ rfl).1
  have p3 := (hT.all 3 _ rfl).1
  have KS := hide (ssym_any R a1 a2 n1 c1 n2 c2 st cols wb (h1.below bb) (h2.below bb) hb1 hb2 hm true ⟨fun _ => hs, fun _ => rfl⟩)
  unfold patV at KS
  have HB := hide bb
  have HT := hide hT
  have HS := hide (And.intro h1 h2)
  have HM := hide hm
  have HD := hide hd
  clear hT bb h1 h2 hm hs hd
  unfold patV
  go_enter Try.func13, Try.ntmps13
  go_wp2_with fail
  refine (unhide KS).mono ?_
  rintro _ w2 ⟨rfl, b2⟩
  have HT2 := hide ((unhide HT).below b2)
  have HB2 := hide ((unhide HB).trans (b2.mono (unhide HB).size))
  clear KS b2 p0 p1 p2 p3
  have p0 := ((unhide HT2).all 0 _ rfl).1
  go_wp2_with fail
  go_loopw [9, 3] (fun kv _ wr => ∃ k : Nat, k ≤ R ∧ kv = .int .i64 (k : Int) ∧ Hid (∀ r, r < k → ¬ InC st cols r r) ∧ Hid (Below w2.heap.size w2 wr)) (fun kv _ _ => R - (intOf kv).toNat)
  case atStart => exact ⟨0, Nat.zero_le _, rfl, hide (fun r hr => absurd hr (Nat.not_lt_zero r)), hide (Below.refl _ _)⟩
  case round =>
    obtain ⟨k, hk, rfl, HN, HW⟩ := hrel
    by_cases hlt : k < R
    · have hlt' : (k : Int) < (R : Int) := by omega
      have hTr := (unhide HT2).below (unhide HW)
      have q0 := (hTr.all 0 _ rfl).1
      have q1 := (hTr.all 1 _ rfl).1
      have q2 := (hTr.all 2 _ rfl).1
      have q3 := (hTr.all 3 _ rfl).1
      have KN := hide (oneigh_list R (R : Int) a1 a2 n1 c1 n2 c2 st cols k wr (((unhide HS).1.below (unhide HB2)).below (unhide HW)) (((unhide HS).2.below (unhide HB2)).below (unhide HW)) hb1 hb2 (unhide HM) hlt)
      unfold patV at KN
      clear hTr p0
      obtain ⟨ok, hok⟩ : ∃ ok : Bool, TruQ ok (InC st cols k k) := by
        by_cases hh : InC st cols k k
        · exact ⟨true, ⟨fun _ => hh, fun _ => rfl⟩⟩
        · exact ⟨false, ⟨fun e => absurd e (by decide), fun e => absurd e hh⟩⟩
      have HOK := hide hok
      clear hok
      go_wp2_with fail
      refine (unhide KN).mono ?_
      rintro _ w4 ⟨a4, c4, rfl, hs4, hl4, _, b4⟩
      have KC := hide (scontains_any a4 _ c4 _ (k : Int) w4 hs4 (by omega) ok ⟨fun e => by
        obtain ⟨i, hi, e2⟩ := mem_getD.1 ((rowL_mem (unhide HM) hlt).2 (Iff.mp (unhide HOK) e))
        exact ⟨i, hi, e2⟩, fun hh => Iff.mpr (unhide HOK) ((rowL_mem (unhide HM) hlt).1 (mem_getD.2 (by obtain ⟨i, hi, e⟩ := hh; exact ⟨i, hi, e⟩)))⟩)
      have HW4 := hide ((unhide HW).trans (b4.mono (unhide HW).size))
      clear KN hs4 b4 q0 q1 q2 q3
      go_wp2_with fail
      refine (unhide KC).mono ?_
      rintro _ w5 ⟨rfl, b5⟩
      have HW5 := hide ((unhide HW4).trans (b5.mono (unhide HW4).size))
      clear KC b5
      cases ok
      · have HN2 := hide (show ∀ r, r < k + 1 → ¬ InC st cols r r from fun r hr => by
          by_cases e : r = k
          · subst e
            exact fun h => absurd (Iff.mpr (unhide HOK) h) (by decide)
          · exact unhide HN r (by omega))
        go_wp2_with fail
        exact ⟨⟨k + 1, by omega, by (first | rfl | go_num), HN2, HW5⟩, by simp [intOf]; omega⟩
      · go_wp2_with fail
        try go_ret
        exact ⟨rfl, (unhide HB2).trans ((unhide HW5).mono (unhide HB2).size)⟩
    · exfalso
      obtain ⟨r, hr, h⟩ := unhide HD
      exact unhide HN r (by omega) h
/-- A pattern is a graph. -/
def IsGr (rows width : Int) (st cols : List Int) : Prop := ∃ R : Nat, rows = (R : Int) ∧ width = (R : Int) ∧ MayP (R : Int) (R : Int) st cols ∧ GraP st cols R R
/-- order.isGraph of what is no graph. -/
theorem oisGraph_no (rows width : Int) (a1 a2 : Option Addr) (n1 c1 n2 c2 : Nat) (st cols : List Int) (w : World) (h1 : SlI w a1 n1 c1 st) (h2 : SlI w a2 n2 c2 cols) (hb1 : n1 ≤ 17592186044000) (hb2 : n2 ≤ 17592186044000) (hno : ¬ IsGr rows width st cols) :
    Calls Try.prog 13 #[patV rows width a1 n1 c1 a2 n2 c2] w fun e w' => e = .returned (.bool false) ∧ Below w.heap.size w w' := by
  by_cases hm : MayP rows width st cols
  · have hf := hm.head.fit
    obtain ⟨R, rfl⟩ : ∃ R : Nat, rows = (R : Int) := ⟨rows.toNat, by omega⟩
    obtain ⟨M, rfl⟩ : ∃ M : Nat, width = (M : Int) := ⟨width.toNat, by omega⟩
    by_cases hRM : R = M
    · subst hRM
      by_cases hs : SyP st cols R
      · by_cases hd : DiP st cols R
        · exact oisGraph_diag R a1 a2 n1 c1 n2 c2 st cols w h1 h2 hb1 hb2 hm hs hd
        · exact absurd ⟨R, rfl, rfl, hm, rfl, hs, hd⟩ hno
      · exact oisGraph_asym _ _ a1 a2 n1 c1 n2 c2 w (fun W b => ssym_any R a1 a2 n1 c1 n2 c2 st cols W (h1.below b) (h2.below b) hb1 hb2 hm false ⟨fun e => absurd e (by decide), fun h => absurd h hs⟩)
    · exact oisGraph_asym _ _ a1 a2 n1 c1 n2 c2 w (fun W b => ssym_no R M a1 a2 n1 c1 n2 c2 st cols W (h1.below b) (h2.below b) hb1 hb2 hm hRM)
  · exact oisGraph_asym _ _ a1 a2 n1 c1 n2 c2 w (fun W b => ssym_bad rows width a1 a2 n1 c1 n2 c2 st cols W (h1.below b) (h2.below b) hb1 hb2 hm)
end Go.Proofs.Ytdcdgojcboinaaa
