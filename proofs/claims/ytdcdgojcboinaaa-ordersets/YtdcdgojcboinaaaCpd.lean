/-
  ORDERS: order.greatest and order.Degeneracy: contracts.
-/
import Derived.Test.YtdcdgojcboinaaaCpc
import Derived.Test.YtdcdgojcboinaaaCg9
namespace Go.Proofs.Ytdcdgojcboinaaa
open Go.Shelf Go.RowKit Go.Deep
set_option linter.unusedVariables false

set_option maxRecDepth 100000 in
set_option maxHeartbeats 16000000 in
/-- order.greatest. -/
theorem ogreatest_any (g R : Nat) (f : Nat → Nat) (w : World) (h : RoV w g R (fun i => .int .i64 (f i : Int))) (hR : R ≤ 128) (h0 : 0 < R) :
    Calls Try.prog 15 #[.slice (some ⟨g, 0, none⟩) R R] w fun e w' => ∃ v : Int, e = .returned (.int .i64 v) ∧ MaxTo (0 :: (List.range R).map (fun i => (f i : Int))) (R + 1) v ∧ Below w.heap.size w w' := by
  obtain ⟨i64, hi, hz, hs, hb⟩ := info_parts Try.info_i64
  have HI := hide (And.intro hi (And.intro hz (And.intro hs hb)))
  have HH := hide h
  clear h hi hz hs hb
  go_enter Try.func15, Try.ntmps15
  have hown : (w.alloc (Obj.cells #[Value.int IntKind.i64 0] 3)).ownsRow w.heap.size 3 1 (.slice (some ⟨w.heap.size, 0, none⟩) 1 1) 1 [.int .i64 0] := ⟨rfl, .inr ⟨w.heap.size, 1, #[.int .i64 0], rfl, Nat.le_refl _, alloc_block _ _, Nat.le_refl _, by unfold maxLen; omega, rfl, rfl⟩⟩
  have HOW := hide hown
  have hone : ∀ u ∈ valsI ((List.range R).map (fun i => (f i : Int))), u.oneCell' = true := one_valsI _
  have hmx : 1 + R ≤ maxLen := by unfold maxLen; omega
  have hby : (1 + R) * 8 ≤ 140737488355328 := by omega
  have HNW := hide (show ∀ j u, (valsI ((List.range R).map (fun i => (f i : Int))))[j]? = some u → (w.alloc (Obj.cells #[Value.int IntKind.i64 0] 3)).cell? ((⟨g, 0, none⟩ : Addr).add j) = some u from fun j u hj => by
    obtain ⟨hl, rfl⟩ := val_of hj
    have hj2 : j < R := by simpa using hl
    rw [Addr.add_lit, Nat.zero_add]
    have hc := (unhide HH j hj2).1
    rw [World.cell?_alloc_lt _ _ _ (World.block_lt_of_cell? _ _ hc), hc]
    simp [List.getD, hj2])
  clear hown
  go_wp2_with (at_builtin; refine wpList_append_lies _ rfl _ _ 22 rfl w.heap.size 3 i64 (.int .i64 0) 1 8 Try.underlying22 (unhide HI).1 (unhide HI).2.1 (unhide HI).2.2.1 (unhide HI).2.2.2 rfl (by decide) (.slice (some ⟨w.heap.size, 0, none⟩) 1 1) 1 [.int .i64 0] rfl (unhide HOW) ⟨g, 0, none⟩ R R (valsI ((List.range R).map (fun i => (f i : Int)))) rfl (by simp [valsI]) (unhide HNW) hone h0 hmx hby (by simp) (w.heap.size + 1) (by simp) ?_)
  intro g' cap' w9 hown9 hgrow9 hat9 hlt9
  obtain ⟨a9, c9, e9, s9⟩ := (BkR.of_owns (xs := 0 :: (List.range R).map (fun i => (f i : Int))) (v := .slice (some ⟨g', 0, none⟩) (1 + R) cap') (by
    have e : (0 :: (List.range R).map (fun i => (f i : Int))).length = 1 + R := by simp; omega
    rw [e]
    exact hown9)).sli
  have e : (0 :: (List.range R).map (fun i => (f i : Int))).length = R + 1 := by simp
  rw [e] at e9 s9
  have K := hide (smax_any a9 (R + 1) c9 _ w9 s9 (by omega) (by omega))
  have hB9 : Below w.heap.size w w9 := Below.grown ((Below.refl w.heap.size w).alloc (Nat.le_refl _) _) hgrow9 (by simp) (fun j hj => by have : w.heap.size = j := (by simpa [Value.ownBlock] using hj); omega)
  have HB9 := hide hB9
  rw [e9]
  clear hown9 hgrow9 hat9 hlt9 e9 s9 e hB9 HNW HOW
  go_wp2_with fail
  refine (unhide K).mono ?_
  rintro _ w10 ⟨v, rfl, hm, b10⟩
  clear K
  have HF := hide (And.intro hm ((unhide HB9).trans (b10.mono (unhide HB9).size)))
  clear hm b10
  go_wp2_with fail
  try go_ret
  exact ⟨v, rfl, (unhide HF).1, (unhide HF).2⟩
set_option maxRecDepth 100000 in
set_option maxHeartbeats 16000000 in
/-- order.Degeneracy of a graph. -/
theorem odegen_any (R : Nat) (a1 a2 : Option Addr) (n1 c1 n2 c2 : Nat) (st cols : List Int) (w : World) (h1 : SlI w a1 n1 c1 st) (h2 : SlI w a2 n2 c2 cols) (hb1 : n1 ≤ 17592186044000) (hb2 : n2 ≤ 17592186044000) (hm : MayP (R : Int) (R : Int) st cols) (hg : GraP st cols R R) (hdg : ∀ v, v < R → (rowL st cols v).length < R) (hok : ∀ k, k < R → PeO R (nbL st cols) (fun v => (rowL st cols v).length) k) (h0 : 0 < R) :
    Calls Try.prog 5 #[patV (R : Int) (R : Int) a1 n1 c1 a2 n2 c2] w fun e w' => ∃ (v : Int) (g : Nat), w.heap.size ≤ g ∧ e = .returned (.tuple #[.int .i64 v, .slice (some ⟨g, 0, none⟩) R R, .int .i64 0]) ∧ RoV w' g R (fun v => .int .i64 (coF (peV R (nbL st cols) (fun v => (rowL st cols v).length)) (peC R (nbL st cols) (fun v => (rowL st cols v).length)) R v : Int)) ∧ MaxTo (0 :: (List.range R).map (fun i => (coF (peV R (nbL st cols) (fun v => (rowL st cols v).length)) (peC R (nbL st cols) (fun v => (rowL st cols v).length)) R i : Int))) (R + 1) v ∧ Below w.heap.size w w' := by
  have hR : R ≤ 128 := by have := hm.head.fit; omega
  obtain ⟨wb, hwb⟩ : ∃ x, w.alloc (.cells #[.int .i64 (R : Int), .int .i64 (R : Int), .slice a1 n1 c1, .slice a2 n2 c2] 24) = x := ⟨_, rfl⟩
  have bb : Below w.heap.size w wb := by rw [← hwb]; exact (Below.refl _ _).alloc (Nat.le_refl _) _
  have hT := BoxP.made w #[.int .i64 (R : Int), .int .i64 (R : Int), .slice a1 n1 c1, .slice a2 n2 c2] 24
  rw [hwb] at hT
  have p0 := (hT.all 0 _ rfl).1
  have p1 := (hT.all 1 _ rfl).1
  have p2 := (hT.all 2 _ rfl).1
  have p3 := (hT.all 3 _ rfl).1
  have K1 := hide (oisGraph_yes R a1 a2 n1 c1 n2 c2 st cols wb (h1.below bb) (h2.below bb) hb1 hb2 hm hg)
  have K2 := hide (fun (W : World) (b : Below w.heap.size w W) => ocores_any R a1 a2 n1 c1 n2 c2 st cols W (h1.below b) (h2.below b) hb1 hb2 hm hdg hok)
  generalize coF (peV R (nbL st cols) (fun v => (rowL st cols v).length)) (peC R (nbL st cols) (fun v => (rowL st cols v).length)) R = co at *
  unfold patV at K1 K2
  have HB := hide bb
  have HT := hide hT
  clear hT bb h1 h2 hm hg hdg hok
  unfold patV
  go_enter Try.func5, Try.ntmps5
  go_wp2_with fail
  refine (unhide K1).mono ?_
  rintro _ w2 ⟨rfl, b2⟩
  have HB2 := hide ((unhide HB).trans (b2.mono (unhide HB).size))
  have hT2 := (unhide HT).below b2
  have K3 := hide (unhide K2 w2 (unhide HB2))
  clear K1 K2 b2 p0 p1 p2 p3
  have p0 := (hT2.all 0 _ rfl).1
  have p1 := (hT2.all 1 _ rfl).1
  have p2 := (hT2.all 2 _ rfl).1
  have p3 := (hT2.all 3 _ rfl).1
  clear hT2
  go_wp2_with fail
  refine (unhide K3).mono ?_
  rintro _ w3 ⟨g, hg, rfl, hr, hl, b3⟩
  have K4 := hide (ogreatest_any g R co w3 hr hR h0)
  have HB3 := hide ((unhide HB2).trans (b3.mono (unhide HB2).size))
  have HR3 := hide (And.intro hr (And.intro hg hl))
  clear K3 hg hr hl b3 p0 p1 p2 p3
  go_wp2_with fail
  refine (unhide K4).mono ?_
  rintro _ w4 ⟨v, rfl, hm, b4⟩
  have HF := hide (And.intro hm (And.intro ((unhide HR3).1.below b4) ((unhide HB3).trans (b4.mono (unhide HB3).size))))
  clear K4 hm b4
  go_wp2_with fail
  refine bodyPost_ret (by simp [results, Try.results5, go_sem]; try rfl) rfl ?_
  exact ⟨v, g, Nat.le_trans (unhide HB2).size (unhide HR3).2.1, rfl, (unhide HF).2.1, (unhide HF).1, (unhide HF).2.2⟩
end Go.Proofs.Ytdcdgojcboinaaa
