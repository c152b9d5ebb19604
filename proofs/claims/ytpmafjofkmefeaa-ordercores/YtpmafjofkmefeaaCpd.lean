/-
  ORDERS: order.cores: contract.
-/
import Derived.Test.YtpmafjofkmefeaaCpb
import Derived.Lib.MinMax
import Derived.Test.YtpmafjofkmefeaaCg9
namespace Go.Proofs.Ytpmafjofkmefeaa
open Go.Shelf Go.RowKit Go.Deep
set_option linter.unusedVariables false

/-- The greatest of the first k counts. -/
def moF (C : Nat → Nat) : Nat → Nat
  | 0 => 0
  | k + 1 => max (moF C k) (C k)
/-- The cores, behind k steps. -/
def coF (V C : Nat → Nat) : Nat → Nat → Nat
  | 0, _ => 0
  | k + 1, v => if v = V k then moF C (k + 1) else coF V C k v
theorem peL_at (f : Nat → Nat) {R k : Nat} (h : k < R) : (peL f R).getD k 0 = (f k : Int) := by simp [peL, List.getD, h]
set_option maxRecDepth 100000 in
set_option maxHeartbeats 16000000 in
/-- order.cores. -/
theorem ocores_any (R : Nat) (a1 a2 : Option Addr) (n1 c1 n2 c2 : Nat) (st cols : List Int) (w : World) (h1 : SlI w a1 n1 c1 st) (h2 : SlI w a2 n2 c2 cols) (hb1 : n1 ≤ 17592186044000) (hb2 : n2 ≤ 17592186044000) (hm : MayP (R : Int) (R : Int) st cols) (hdg : ∀ v, v < R → (rowL st cols v).length < R) (hok : ∀ k, k < R → PeO R (nbL st cols) (fun v => (rowL st cols v).length) k) :
    Calls Try.prog 29 #[patV (R : Int) (R : Int) a1 n1 c1 a2 n2 c2] w fun e w' => ∃ g, w.heap.size ≤ g ∧ e = .returned (.slice (some ⟨g, 0, none⟩) R R) ∧ RoV w' g R (fun v => .int .i64 (coF (peV R (nbL st cols) (fun v => (rowL st cols v).length)) (peC R (nbL st cols) (fun v => (rowL st cols v).length)) R v : Int)) ∧ g < w'.heap.size ∧ Below w.heap.size w w' := by
  have hR : R ≤ 128 := by have := hm.head.fit; omega
  have hV : ∀ k, k < R → peV R (nbL st cols) (fun v => (rowL st cols v).length) k < R := fun k hk => by
    have hl := low_is (hok k hk).ex
    exact brF_lt R _ hl.rn
  have hC : ∀ k, k < R → peC R (nbL st cols) (fun v => (rowL st cols v).length) k < R := fun k hk => (low_is (hok k hk).ex).cn
  obtain ⟨wb, hwb⟩ : ∃ x, w.alloc (.cells #[.int .i64 (R : Int), .int .i64 (R : Int), .slice a1 n1 c1, .slice a2 n2 c2] 24) = x := ⟨_, rfl⟩
  have bb : Below w.heap.size w wb := by rw [← hwb]; exact (Below.refl _ _).alloc (Nat.le_refl _) _
  have hT := BoxP.made w #[.int .i64 (R : Int), .int .i64 (R : Int), .slice a1 n1 c1, .slice a2 n2 c2] 24
  rw [hwb] at hT
  have p0 := (hT.all 0 _ rfl).1
  have hmk := make_intsR R (by omega) wb
  have hRo := RoV.made wb R 3 (.int .i64 0)
  obtain ⟨wm, hwm⟩ : ∃ x, wb.alloc (.cells (madeCells #[.int .i64 0] R) 3) = x := ⟨_, rfl⟩
  have bm : Below wb.heap.size wb wm := by rw [← hwm]; exact (Below.refl _ _).alloc (Nat.le_refl _) _
  have hgl : wb.heap.size < wm.heap.size := by rw [← hwm]; simp
  rw [hwm] at hmk hRo
  have bwm := bb.trans (bm.mono bb.size)
  have hTm := hT.below bm
  have q0 := (hTm.all 0 _ rfl).1
  have q1 := (hTm.all 1 _ rfl).1
  have q2 := (hTm.all 2 _ rfl).1
  have q3 := (hTm.all 3 _ rfl).1
  have K := hide (opeel_any R a1 a2 n1 c1 n2 c2 st cols wm (h1.below bwm) (h2.below bwm) hb1 hb2 hm hdg hok)
  unfold patV at K
  obtain ⟨g, hg⟩ : ∃ g, wb.heap.size = g := ⟨_, rfl⟩
  have HG := hide (And.intro (show w.heap.size ≤ g by have := hT.lt; omega) (show g < wm.heap.size by omega))
  rw [hg] at hmk hRo
  have HRo := hide hRo
  have HB := hide bwm
  obtain ⟨V, hVe⟩ : ∃ V : Nat → Nat, peV R (nbL st cols) (fun v => (rowL st cols v).length) = V := ⟨_, rfl⟩
  obtain ⟨C, hCe⟩ : ∃ C : Nat → Nat, peC R (nbL st cols) (fun v => (rowL st cols v).length) = C := ⟨_, rfl⟩
  unfold PeP at K
  rw [hVe] at hV
  rw [hCe] at hC
  simp only [hVe, hCe] at K ⊢
  clear hT bb bm hRo hwm hgl h1 h2 hm hdg hok hVe hCe bwm hTm
  unfold patV
  go_enter Try.func29, Try.ntmps29
  go_wp2_with fail
  refine (unhide K).mono ?_
  rintro _ w2 ⟨b1, d1, b2, d2, rfl, s1, s2, b3, n1', n2'⟩
  have HS := hide (And.intro s1 s2)
  have HR2 := hide ((unhide HRo).below b3)
  have HB2 := hide ((unhide HB).trans (b3.mono (unhide HB).size))
  have HG2 := hide (Nat.lt_of_lt_of_le (unhide HG).2 b3.size)
  have HNE := hide (And.intro (fun y (hy : b1 = some y) => Nat.ne_of_gt (Nat.lt_of_lt_of_le (unhide HG).2 (n1' y hy))) (fun y (hy : b2 = some y) => Nat.ne_of_gt (Nat.lt_of_lt_of_le (unhide HG).2 (n2' y hy))))
  clear K s1 s2 b3 n1' n2' hmk p0 q0 q1 q2 q3 HRo HB
  go_wp2_with fail
  go_loopw [19, 4] (fun kv mv wr => ∃ k : Nat, k ≤ R ∧ kv = .int .i64 (k : Int) ∧ mv = .int .i64 (moF C k : Int) ∧ Hid (RoV wr g R (fun v => .int .i64 (coF V C k v : Int))) ∧ Hid (Chg (fun j => j = g) w2 wr)) (fun kv _ _ => R - (intOf kv).toNat)
  case atStart => exact ⟨0, Nat.zero_le _, rfl, rfl, HR2, hide (Chg.refl _ _)⟩
  case round =>
    obtain ⟨k, hk, rfl, rfl, HV, HC⟩ := hrel
    by_cases hlt : k < R
    · have hlt' : (k : Int) < (R : Int) := by omega
      obtain ⟨bb1, o1, rfl, e1⟩ := ((unhide HS).1.chg (unhide HC) (fun y hy _ => (unhide HNE).1 y hy)).at (by omega)
      obtain ⟨bb2, o2, rfl, e2⟩ := ((unhide HS).2.chg (unhide HC) (fun y hy _ => (unhide HNE).2 y hy)).at (by omega)
      have s1 := e1 k hlt
      have s2 := e2 k hlt
      rw [peL_at V hlt] at s1
      rw [peL_at C hlt] at s2
      have hvk := hV k hlt
      obtain ⟨x, hx⟩ : ∃ x, V k = x := ⟨_, rfl⟩
      obtain ⟨y, hy⟩ : ∃ y, C k = y := ⟨_, rfl⟩
      rw [hx] at s1 hvk
      rw [hy] at s2
      obtain ⟨z, hz⟩ : ∃ z, moF C (k + 1) = z := ⟨_, rfl⟩
      obtain ⟨m, hm⟩ : ∃ m, moF C k = m := ⟨_, rfl⟩
      have hz' : max (m : Int) (y : Int) = (z : Int) := by
        have hq : max m y = z := (by rw [← hz, ← hm, ← hy]; rfl)
        omega
      have hvk' : (x : Int) < (R : Int) := by omega
      have r0 := (unhide HV x hvk).1
      have r1 := (unhide HV x hvk).2
      have HN := hide (show RoV (wr.setCell ⟨g, x, none⟩ (.int .i64 (z : Int))) g R (fun v => .int .i64 (coF V C (k + 1) v : Int)) from ((unhide HV).put x _ hvk).congr (fun v hv => by
        simp only [coF]
        rw [hx, hz]
        by_cases e : v = x
        · simp [e]
        · simp [e]))
      have HC2 := hide ((unhide HC).trans (Chg.of_set (S := fun j => j = g) wr g x (.int .i64 (z : Int)) rfl))
      have HZ := hide hz
      clear e1 e2 hx hy hz
      rw [hm]
      clear hm
      go_wp2_with fail
      exact ⟨⟨k + 1, by omega, by (first | rfl | go_num), by rw [unhide HZ], HN, HC2⟩, by simp [intOf]; omega⟩
    · obtain rfl : k = R := by omega
      have hlt' : ¬ (k : Int) < (k : Int) := by omega
      go_wp2_with fail
      try go_ret
      exact ⟨g, (unhide HG).1, rfl, unhide HV, Nat.lt_of_lt_of_le (unhide HG2) (unhide HC).size, (unhide HB2).trans ((unhide HC).below (unhide HB2).size (fun j hj e => by have e' : j = g := e; have := (unhide HG).1; omega))⟩
end Go.Proofs.Ytpmafjofkmefeaa

namespace Go.Proofs.Ytpmafjofkmefeaa
open Go.Shelf Go.RowKit Go.Deep
set_option linter.unusedVariables false

set_option maxRecDepth 100000 in
set_option maxHeartbeats 16000000 in
/-- order.greatest. -/
theorem ogreatest_any (g R : Nat) (f : Nat → Nat) (w : World) (h : RoV w g R (fun i => .int .i64 (f i : Int))) (hR : R ≤ 128) (h0 : 0 < R) :
    Calls Try.prog 30 #[.slice (some ⟨g, 0, none⟩) R R] w fun e w' => ∃ v : Int, e = .returned (.int .i64 v) ∧ MaxTo (0 :: (List.range R).map (fun i => (f i : Int))) (R + 1) v ∧ Below w.heap.size w w' := by
  obtain ⟨i64, hi, hz, hs, hb⟩ := info_parts Try.info_i64
  have HI := hide (And.intro hi (And.intro hz (And.intro hs hb)))
  have HH := hide h
  clear h hi hz hs hb
  go_enter Try.func30, Try.ntmps30
  have hown : (w.alloc (Obj.cells #[Value.int IntKind.i64 0] 3)).ownsRow w.heap.size 3 1 (.slice (some ⟨w.heap.size, 0, none⟩) 1 1) 1 [.int .i64 0] := ⟨rfl, .inr ⟨w.heap.size, 1, #[.int .i64 0], rfl, Nat.le_refl _, alloc_block _ _, Nat.le_refl _, by unfold maxLen; omega, rfl, rfl⟩⟩
  have HOW := hide hown
  have hone : ∀ u ∈ valsI ((List.range R).map (fun i => (f i : Int))), u.oneCell' = true := one_valsI _
  have hmx : 1 + R ≤ maxLen := by unfold maxLen; omega
  have hby : (1 + R) * 8 ≤ 140737488355328 := by omega
  have HNW := hide (show ∀ j u, (valsI ((List.range R).map (fun i => (f i : Int))))[j]? = some u → (w.alloc (Obj.cells #[Value.int IntKind.i64 0] 3)).cell? ((⟨g, 0, none⟩ : Addr).add j) = some u from fun j u hj => by
    obtain ⟨hl, rfl⟩ := val_of hj
    have hj2 : j < R := by simpa using hl
    rw [Addr.add_lit, Nat.zero_add]
    have hc := (unhide HH j hj2).1
    rw [World.cell?_alloc_lt _ _ _ (World.block_lt_of_cell? _ _ hc), hc]
    simp [List.getD, hj2])
  clear hown
  go_wp2_with (at_builtin; refine wpList_append_lies _ rfl _ _ 22 rfl w.heap.size 3 i64 (.int .i64 0) 1 8 Try.underlying22 (unhide HI).1 (unhide HI).2.1 (unhide HI).2.2.1 (unhide HI).2.2.2 rfl (by decide) (.slice (some ⟨w.heap.size, 0, none⟩) 1 1) 1 [.int .i64 0] rfl (unhide HOW) ⟨g, 0, none⟩ R R (valsI ((List.range R).map (fun i => (f i : Int)))) rfl (by simp [valsI]) (unhide HNW) hone h0 hmx hby (by simp) (w.heap.size + 1) (by simp) ?_)
  intro g' cap' w9 hown9 hgrow9 hat9 hlt9
  obtain ⟨a9, c9, e9, s9⟩ := (BkR.of_owns (xs := 0 :: (List.range R).map (fun i => (f i : Int))) (v := .slice (some ⟨g', 0, none⟩) (1 + R) cap') (by
    have e : (0 :: (List.range R).map (fun i => (f i : Int))).length = 1 + R := by simp; omega
    rw [e]
    exact hown9)).sli
  have e : (0 :: (List.range R).map (fun i => (f i : Int))).length = R + 1 := by simp
  rw [e] at e9 s9
  have K := hide (smax_any a9 (R + 1) c9 _ w9 s9 (by omega) (by omega))
  have hB9 : Below w.heap.size w w9 := Below.grown ((Below.refl w.heap.size w).alloc (Nat.le_refl _) _) hgrow9 (by simp) (fun j hj => by have : w.heap.size = j := (by simpa [Value.ownBlock] using hj); omega)
  have HB9 := hide hB9
  rw [e9]
  clear hown9 hgrow9 hat9 hlt9 e9 s9 e hB9 HNW HOW
  go_wp2_with fail
  refine (unhide K).mono ?_
  rintro _ w10 ⟨v, rfl, hm, b10⟩
  clear K
  have HF := hide (And.intro hm ((unhide HB9).trans (b10.mono (unhide HB9).size)))
  clear hm b10
  go_wp2_with fail
  try go_ret
  exact ⟨v, rfl, (unhide HF).1, (unhide HF).2⟩
set_option maxRecDepth 100000 in
set_option maxHeartbeats 16000000 in
/-- order.Degeneracy of a graph. -/
theorem odegen_any (R : Nat) (a1 a2 : Option Addr) (n1 c1 n2 c2 : Nat) (st cols : List Int) (w : World) (h1 : SlI w a1 n1 c1 st) (h2 : SlI w a2 n2 c2 cols) (hb1 : n1 ≤ 17592186044000) (hb2 : n2 ≤ 17592186044000) (hm : MayP (R : Int) (R : Int) st cols) (hg : GraP st cols R R) (hdg : ∀ v, v < R → (rowL st cols v).length < R) (hok : ∀ k, k < R → PeO R (nbL st cols) (fun v => (rowL st cols v).length) k) (h0 : 0 < R) :
    Calls Try.prog 13 #[patV (R : Int) (R : Int) a1 n1 c1 a2 n2 c2] w fun e w' => ∃ (v : Int) (g : Nat), w.heap.size ≤ g ∧ e = .returned (.tuple #[.int .i64 v, .slice (some ⟨g, 0, none⟩) R R, .int .i64 0]) ∧ RoV w' g R (fun v => .int .i64 (coF (peV R (nbL st cols) (fun v => (rowL st cols v).length)) (peC R (nbL st cols) (fun v => (rowL st cols v).length)) R v : Int)) ∧ MaxTo (0 :: (List.range R).map (fun i => (coF (peV R (nbL st cols) (fun v => (rowL st cols v).length)) (peC R (nbL st cols) (fun v => (rowL st cols v).length)) R i : Int))) (R + 1) v ∧ Below w.heap.size w w' := by
  have hR : R ≤ 128 := by have := hm.head.fit; omega
  obtain ⟨wb, hwb⟩ : ∃ x, w.alloc (.cells #[.int .i64 (R : Int), .int .i64 (R : Int), .slice a1 n1 c1, .slice a2 n2 c2] 24) = x := ⟨_, rfl⟩
  have bb : Below w.heap.size w wb := by rw [← hwb]; exact (Below.refl _ _).alloc (Nat.le_refl _) _
  have hT := BoxP.made w #[.int .i64 (R : Int), .int .i64 (R : Int), .slice a1 n1 c1, .slice a2 n2 c2] 24
  rw [hwb] at hT
  have p0 := (hT.all 0 _ rfl).1
  have p1 := (hT.all 1 _ rfl).1
  have p2 := (hT.all 2 _ rfl).1
  have p3 := (hT.all 3 _ rfl).1
  have K1 := hide (oisGraph_yes R a1 a2 n1 c1 n2 c2 st cols wb (h1.below bb) (h2.below bb) hb1 hb2 hm hg)
  have K2 := hide (fun (W : World) (b : Below w.heap.size w W) => ocores_any R a1 a2 n1 c1 n2 c2 st cols W (h1.below b) (h2.below b) hb1 hb2 hm hdg hok)
  generalize coF (peV R (nbL st cols) (fun v => (rowL st cols v).length)) (peC R (nbL st cols) (fun v => (rowL st cols v).length)) R = co at *
  unfold patV at K1 K2
  have HB := hide bb
  have HT := hide hT
  clear hT bb h1 h2 hm hg hdg hok
  unfold patV
  go_enter Try.func13, Try.ntmps13
  go_wp2_with fail
  refine (unhide K1).mono ?_
  rintro _ w2 ⟨rfl, b2⟩
  have HB2 := hide ((unhide HB).trans (b2.mono (unhide HB).size))
  have hT2 := (unhide HT).below b2
  have K3 := hide (unhide K2 w2 (unhide HB2))
  clear K1 K2 b2 p0 p1 p2 p3
  have p0 := (hT2.all 0 _ rfl).1
  have p1 := (hT2.all 1 _ rfl).1
  have p2 := (hT2.all 2 _ rfl).1
  have p3 := (hT2.all 3 _ rfl).1
  clear hT2
  go_wp2_with fail
  refine (unhide K3).mono ?_
  rintro _ w3 ⟨g, hg, rfl, hr, hl, b3⟩
  have K4 := hide (ogreatest_any g R co w3 hr hR h0)
  have HB3 := hide ((unhide HB2).trans (b3.mono (unhide HB2).size))
  have HR3 := hide (And.intro hr (And.intro hg hl))
  clear K3 hg hr hl b3 p0 p1 p2 p3
  go_wp2_with fail
  refine (unhide K4).mono ?_
  rintro _ w4 ⟨v, rfl, hm, b4⟩
  have HF := hide (And.intro hm (And.intro ((unhide HR3).1.below b4) ((unhide HB3).trans (b4.mono (unhide HB3).size))))
  clear K4 hm b4
  go_wp2_with fail
  refine bodyPost_ret (by simp [results, Try.results13, go_sem]; try rfl) rfl ?_
  exact ⟨v, g, Nat.le_trans (unhide HB2).size (unhide HR3).2.1, rfl, (unhide HF).2.1, (unhide HF).1, (unhide HF).2.2⟩
end Go.Proofs.Ytpmafjofkmefeaa
