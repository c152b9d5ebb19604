/- Va3 -/
import Derived.Test.YtiadccaaoenccaaDoorVa2
namespace Go.Proofs.YtiadccaaoenccaaDoor
open Go.RowKit Go.Deep
set_option linter.unusedVariables false
set_option linter.unusedSimpArgs false
def ObA (w : World) (N : Nat) (ys : List Int) (o : On) (e : Ending) (w' : World) : Prop := ∃ q : On, e = .returned (opV q) ∧ conO q = conO (bhO N ys o) ∧ NqL w' q.p ∧ (∀ k, nqB q.p k → w.heap.size ≤ k) ∧ Below w.heap.size w w'
set_option maxRecDepth 100000 in
set_option maxHeartbeats 16000000 in
theorem ebehind_1 (A B : Nat) (n : Int) (p : Nq) (ii : Int) (ta : Option Addr) (N tc : Nat) (tb : Option Addr) (tm td : Nat) (ys : List Int) (w : World) (ho : NqL w p) (hx : p.x.length ≤ 2048) (hy : p.y.length ≤ 2048) (hys : SlI w tb tm td ys) (hN : N ≤ 2048) (hAm : A ≤ 2048) (hBm : B ≤ 2048) (hA : A < tm) :
    Calls Tryd.prog 35 #[opV ⟨1, (A : Int), (B : Int), n, p⟩, tapV ii ta N tc tb tm td] w (ObA w N ys ⟨1, (A : Int), (B : Int), n, p⟩) := by
  obtain ⟨wo, hwo⟩ : ∃ x, w.alloc (.cells #[.int .i64 1, .int .i64 (A : Int), .int .i64 (B : Int), .int .i64 n, .bool p.g, .slice p.a p.n p.c, .slice p.b p.m p.d] 54) = x := ⟨_, rfl⟩
  have br : BoxP wo w.heap.size [.int .i64 1, .int .i64 (A : Int), .int .i64 (B : Int), .int .i64 n, .bool p.g, .slice p.a p.n p.c, .slice p.b p.m p.d] := by rw [← hwo]; exact BoxP.made _ _ _
  have hbo : Below w.heap.size w wo := by rw [← hwo]; exact (Below.refl _ _).alloc (Nat.le_refl _) _
  obtain ⟨wt, hwt⟩ : ∃ x, wo.alloc (.cells #[.int .i64 ii, .slice ta N tc, .slice tb tm td] 25) = x := ⟨_, rfl⟩
  have bt : BoxP wt wo.heap.size [.int .i64 ii, .slice ta N tc, .slice tb tm td] := by rw [← hwt]; exact BoxP.made _ _ _
  have hbt : Below wo.heap.size wo wt := by rw [← hwt]; exact (Below.refl _ _).alloc (Nat.le_refl _) _
  obtain ⟨wR, hwR⟩ : ∃ x, wt.alloc (.cells #[.int .i64 0, .int .i64 0, .int .i64 0, .int .i64 0, .bool false, .slice none 0 0, .slice none 0 0] 54) = x := ⟨_, rfl⟩
  have bR : BoxP wR wt.heap.size [.int .i64 0, .int .i64 0, .int .i64 0, .int .i64 0, .bool false, .slice none 0 0, .slice none 0 0] := by rw [← hwR]; exact BoxP.made _ _ _
  have hbR : Below wt.heap.size wt wR := by rw [← hwR]; exact (Below.refl _ _).alloc (Nat.le_refl _) _
  have hB2 := hbo.trans (hbt.mono hbo.size)
  have hB3 := hB2.trans (hbR.mono hB2.size)
  have HB := hide hB3
  have HBX := hide ((br.below hbt).below hbR)
  have HBT := hide (bt.below hbR)
  have HBR := hide bR
  have HY := hide (hys.below hB3)
  have HLE := hide (And.intro hbo.size hbt.size)
  have HLT := hide (And.intro br.lt bt.lt)
  have KC := ecopyOp_any ⟨1, (A : Int), (B : Int), n, p⟩ wR (ho.below hB3) hx hy
  unfold OcA at KC
  unfold opV at KC
  have HKC := hide KC
  have y0 := (((br.below hbt).below hbR).all 0 _ rfl).1
  have y1 := (((br.below hbt).below hbR).all 1 _ rfl).1
  have y2 := (((br.below hbt).below hbR).all 2 _ rfl).1
  have y3 := (((br.below hbt).below hbR).all 3 _ rfl).1
  have y4 := (((br.below hbt).below hbR).all 4 _ rfl).1
  have y5 := (((br.below hbt).below hbR).all 5 _ rfl).1
  have y6 := (((br.below hbt).below hbR).all 6 _ rfl).1
  have t0 := ((bt.below hbR).all 0 _ rfl).1
  have t1 := ((bt.below hbR).all 1 _ rfl).1
  have t2 := ((bt.below hbR).all 2 _ rfl).1
  unfold opV tapV
  clear br hbo bt hbt bR hbR hB2 hB3 ho hys KC
  go_enter Tryd.func35, Tryd.ntmps35
  go_wp2_with fail
  refine (unhide HKC).mono ?_
  rintro _ w1 ⟨⟨qk, qa, qb, qn, qp⟩, rfl, ⟨e0, e1, e2, e3⟩, hcon, hnq, hfr, b1⟩
  simp only at e0 e1 e2 e3 hnq hfr
  subst e0 e1 e2 e3
  have HCO := hide hcon
  have HNQ := hide (And.intro hnq hfr)
  have HB1 := hide b1
  clear hcon hnq hfr b1 HKC
  try dsimp only
  repeat ((fail_if_success (with_reducible (show Code.wp _ _ _ _ (World.alloc w1 (Obj.cells #[_, _, _, _, _, _, .slice qp.b qp.m qp.d] _))))); (first | go_values | go_skip | go_guarded | go_step | go_upon | go_back))
  have bM : BoxP (w1.alloc (.cells #[.int .i64 1, .int .i64 (A : Int), .int .i64 (B : Int), .int .i64 qn, .bool qp.g, .slice qp.a qp.n qp.c, .slice qp.b qp.m qp.d] 54)) w1.heap.size [.int .i64 1, .int .i64 (A : Int), .int .i64 (B : Int), .int .i64 qn, .bool qp.g, .slice qp.a qp.n qp.c, .slice qp.b qp.m qp.d] := BoxP.made _ _ _
  have hbM : Below w1.heap.size w1 (w1.alloc (.cells #[.int .i64 1, .int .i64 (A : Int), .int .i64 (B : Int), .int .i64 qn, .bool qp.g, .slice qp.a qp.n qp.c, .slice qp.b qp.m qp.d] 54)) := (Below.refl _ _).alloc (Nat.le_refl _) _
  generalize w1.alloc (.cells #[.int .i64 1, .int .i64 (A : Int), .int .i64 (B : Int), .int .i64 qn, .bool qp.g, .slice qp.a qp.n qp.c, .slice qp.b qp.m qp.d] 54) = W2 at *
  have hb2 := (unhide HB1).trans (hbM.mono (unhide HB1).size)
  have y0 := (hb2.cell (World.block_lt_of_cell? _ _ y0)).trans y0
  have y1 := (hb2.cell (World.block_lt_of_cell? _ _ y1)).trans y1
  have y2 := (hb2.cell (World.block_lt_of_cell? _ _ y2)).trans y2
  have y3 := (hb2.cell (World.block_lt_of_cell? _ _ y3)).trans y3
  have y4 := (hb2.cell (World.block_lt_of_cell? _ _ y4)).trans y4
  have y5 := (hb2.cell (World.block_lt_of_cell? _ _ y5)).trans y5
  have y6 := (hb2.cell (World.block_lt_of_cell? _ _ y6)).trans y6
  have t0 := (hb2.cell (World.block_lt_of_cell? _ _ t0)).trans t0
  have t1 := (hb2.cell (World.block_lt_of_cell? _ _ t1)).trans t1
  have t2 := (hb2.cell (World.block_lt_of_cell? _ _ t2)).trans t2
  have HB2 := hide hb2
  have HNW := hide hbM
  have HBM := hide bM
  obtain ⟨X, hX⟩ : ∃ X, w1.heap.size = X := ⟨_, rfl⟩
  rw [hX] at HBM ⊢
  have HX := hide hX
  have HXR := hide (show wR.heap.size ≤ X from by rw [← hX]; exact (unhide HB1).size)
  have bM := unhide HBM
  have m0 := (bM.all 0 _ rfl).1
  have z0 := (bM.all 0 _ rfl).2
  have m1 := (bM.all 1 _ rfl).1
  have z1 := (bM.all 1 _ rfl).2
  have m2 := (bM.all 2 _ rfl).1
  have z2 := (bM.all 2 _ rfl).2
  have m3 := (bM.all 3 _ rfl).1
  have z3 := (bM.all 3 _ rfl).2
  have m4 := (bM.all 4 _ rfl).1
  have z4 := (bM.all 4 _ rfl).2
  have m5 := (bM.all 5 _ rfl).1
  have z5 := (bM.all 5 _ rfl).2
  have m6 := (bM.all 6 _ rfl).1
  have z6 := (bM.all 6 _ rfl).2
  have bR2 := (unhide HBR).below hb2
  have r0 := (bR2.all 0 _ rfl).1
  have u0 := (bR2.all 0 _ rfl).2
  have r1 := (bR2.all 1 _ rfl).1
  have u1 := (bR2.all 1 _ rfl).2
  have r2 := (bR2.all 2 _ rfl).1
  have u2 := (bR2.all 2 _ rfl).2
  have r3 := (bR2.all 3 _ rfl).1
  have u3 := (bR2.all 3 _ rfl).2
  have r4 := (bR2.all 4 _ rfl).1
  have u4 := (bR2.all 4 _ rfl).2
  have r5 := (bR2.all 5 _ rfl).1
  have u5 := (bR2.all 5 _ rfl).2
  have r6 := (bR2.all 6 _ rfl).1
  have u6 := (bR2.all 6 _ rfl).2
  clear bM hbM hb2 bR2 hX
  obtain ⟨R, hR⟩ : ∃ R, wt.heap.size = R := ⟨_, rfl⟩
  have hlt := unhide HLT
  have hXR := unhide HXR
  have hRl := (unhide HBR).lt
  have hne1 : X ≠ wo.heap.size := by omega
  have hne2 : wo.heap.size ≠ X := by omega
  have hne3 : X ≠ w.heap.size := by have := (unhide HLE).1; have := (unhide HLE).2; have := hR; omega
  have hne4 : w.heap.size ≠ X := by omega
  rw [hR] at hRl r0 u0 r1 u1 r2 u2 r3 u3 r4 u4 r5 u5 r6 u6 ⊢
  have hne5 : X ≠ R := by omega
  have hne6 : R ≠ X := by omega
  have hwR : w.heap.size ≤ R := by have := (unhide HLE).1; have := (unhide HLE).2; have := hR; omega
  have hwX : w.heap.size ≤ X := by omega
  have hcq : conQ qp = conQ p := by have := unhide HCO; unfold conO at this; simpa using this
  obtain ⟨yb, yo, rfl, hyc⟩ := (((unhide HY).below (unhide HB2))).at (by omega)
  have yA := hyc A hA
  have hA' : (A : Int) < (tm : Int) := by omega
  obtain ⟨V, hV⟩ : ∃ V, ys.getD A 0 = V := ⟨_, rfl⟩
  rw [hV] at yA
  have HV := hide hV
  clear hyc hV
  have hcX : Chg (fun j => j = X) W2 W2 := (Chg.refl (fun j => j = X) W2)
  have bR3 : BoxP W2 R [.int .i64 0, .int .i64 0, .int .i64 0, .int .i64 0, .bool false, .slice none 0 0, .slice none 0 0] := by
    have h := ((unhide HBR).below (unhide HB2))
    rw [hR] at h
    exact h.chg hcX hne6
  obtain ⟨bR4, hc4⟩ := seven_set bR3 (.int .i64 8) (.int .i64 V) (.int .i64 0) (.int .i64 1) (.bool false) (.slice none 0 0) (.slice none 0 0)
  have p0 := (bR4.all 0 _ rfl).1
  have p1 := (bR4.all 1 _ rfl).1
  have p2 := (bR4.all 2 _ rfl).1
  have p3 := (bR4.all 3 _ rfl).1
  have p4 := (bR4.all 4 _ rfl).1
  have p5 := (bR4.all 5 _ rfl).1
  have p6 := (bR4.all 6 _ rfl).1
  have HCX := hide hcX
  have HC4 := hide hc4
  have HRR := hide hR
  clear hcX bR3 bR4 hc4 hlt hXR
  go_wp2_with fail
  refine bodyPost_ret (v := opV ⟨8, V, 0, 1, blQ⟩) (by simp [opV, blQ, results, Tryd.results35, go_sem, p0, p1, p2, p3, p4, p5, p6]; try rfl) rfl ?_
  have hb := (unhide HB).trans ((unhide HB2).mono (unhide HB).size)
  have hE := (hb.trans ((unhide HCX).below (B := w.heap.size) hb.size (fun k hk e => by omega))).trans ((unhide HC4).below (B := w.heap.size) (by have := (unhide HCX).size; have := hb.size; omega) (fun k hk e => by omega))
  refine ⟨_, rfl, ?_, ⟨⟨rfl, Nat.le_refl _, Nat.zero_le _, .inl rfl⟩, ⟨rfl, Nat.le_refl _, Nat.zero_le _, .inl rfl⟩, Ok.nil, Ok.nil⟩, fun k hk => ?_, hE⟩
  · unfold bhO
    rw [if_pos rfl, Int.toNat_natCast, unhide HV]
  · rcases hk with ⟨z, _, h, _⟩ | ⟨z, _, h, _⟩
    · exact absurd rfl h
    · exact absurd rfl h
set_option maxRecDepth 100000 in
set_option maxHeartbeats 16000000 in
theorem ebehind_2 (A B : Nat) (n : Int) (p : Nq) (ii : Int) (ta : Option Addr) (N tc : Nat) (tb : Option Addr) (tm td : Nat) (ys : List Int) (w : World) (ho : NqL w p) (hx : p.x.length ≤ 2048) (hy : p.y.length ≤ 2048) (hys : SlI w tb tm td ys) (hN : N ≤ 2048) (hAm : A ≤ 2048) (hBm : B ≤ 2048) :
    Calls Tryd.prog 35 #[opV ⟨2, (A : Int), (B : Int), n, p⟩, tapV ii ta N tc tb tm td] w (ObA w N ys ⟨2, (A : Int), (B : Int), n, p⟩) := by
  obtain ⟨wo, hwo⟩ : ∃ x, w.alloc (.cells #[.int .i64 2, .int .i64 (A : Int), .int .i64 (B : Int), .int .i64 n, .bool p.g, .slice p.a p.n p.c, .slice p.b p.m p.d] 54) = x := ⟨_, rfl⟩
  have br : BoxP wo w.heap.size [.int .i64 2, .int .i64 (A : Int), .int .i64 (B : Int), .int .i64 n, .bool p.g, .slice p.a p.n p.c, .slice p.b p.m p.d] := by rw [← hwo]; exact BoxP.made _ _ _
  have hbo : Below w.heap.size w wo := by rw [← hwo]; exact (Below.refl _ _).alloc (Nat.le_refl _) _
  obtain ⟨wt, hwt⟩ : ∃ x, wo.alloc (.cells #[.int .i64 ii, .slice ta N tc, .slice tb tm td] 25) = x := ⟨_, rfl⟩
  have bt : BoxP wt wo.heap.size [.int .i64 ii, .slice ta N tc, .slice tb tm td] := by rw [← hwt]; exact BoxP.made _ _ _
  have hbt : Below wo.heap.size wo wt := by rw [← hwt]; exact (Below.refl _ _).alloc (Nat.le_refl _) _
  obtain ⟨wR, hwR⟩ : ∃ x, wt.alloc (.cells #[.int .i64 0, .int .i64 0, .int .i64 0, .int .i64 0, .bool false, .slice none 0 0, .slice none 0 0] 54) = x := ⟨_, rfl⟩
  have bR : BoxP wR wt.heap.size [.int .i64 0, .int .i64 0, .int .i64 0, .int .i64 0, .bool false, .slice none 0 0, .slice none 0 0] := by rw [← hwR]; exact BoxP.made _ _ _
  have hbR : Below wt.heap.size wt wR := by rw [← hwR]; exact (Below.refl _ _).alloc (Nat.le_refl _) _
  have hB2 := hbo.trans (hbt.mono hbo.size)
  have hB3 := hB2.trans (hbR.mono hB2.size)
  have HB := hide hB3
  have HBX := hide ((br.below hbt).below hbR)
  have HBT := hide (bt.below hbR)
  have HBR := hide bR
  have HY := hide (hys.below hB3)
  have HLE := hide (And.intro hbo.size hbt.size)
  have HLT := hide (And.intro br.lt bt.lt)
  have KC := ecopyOp_any ⟨2, (A : Int), (B : Int), n, p⟩ wR (ho.below hB3) hx hy
  unfold OcA at KC
  unfold opV at KC
  have HKC := hide KC
  have y0 := (((br.below hbt).below hbR).all 0 _ rfl).1
  have y1 := (((br.below hbt).below hbR).all 1 _ rfl).1
  have y2 := (((br.below hbt).below hbR).all 2 _ rfl).1
  have y3 := (((br.below hbt).below hbR).all 3 _ rfl).1
  have y4 := (((br.below hbt).below hbR).all 4 _ rfl).1
  have y5 := (((br.below hbt).below hbR).all 5 _ rfl).1
  have y6 := (((br.below hbt).below hbR).all 6 _ rfl).1
  have t0 := ((bt.below hbR).all 0 _ rfl).1
  have t1 := ((bt.below hbR).all 1 _ rfl).1
  have t2 := ((bt.below hbR).all 2 _ rfl).1
  unfold opV tapV
  clear br hbo bt hbt bR hbR hB2 hB3 ho hys KC
  go_enter Tryd.func35, Tryd.ntmps35
  go_wp2_with fail
  refine (unhide HKC).mono ?_
  rintro _ w1 ⟨⟨qk, qa, qb, qn, qp⟩, rfl, ⟨e0, e1, e2, e3⟩, hcon, hnq, hfr, b1⟩
  simp only at e0 e1 e2 e3 hnq hfr
  subst e0 e1 e2 e3
  have HCO := hide hcon
  have HNQ := hide (And.intro hnq hfr)
  have HB1 := hide b1
  clear hcon hnq hfr b1 HKC
  try dsimp only
  repeat ((fail_if_success (with_reducible (show Code.wp _ _ _ _ (World.alloc w1 (Obj.cells #[_, _, _, _, _, _, .slice qp.b qp.m qp.d] _))))); (first | go_values | go_skip | go_guarded | go_step | go_upon | go_back))
  have bM : BoxP (w1.alloc (.cells #[.int .i64 2, .int .i64 (A : Int), .int .i64 (B : Int), .int .i64 qn, .bool qp.g, .slice qp.a qp.n qp.c, .slice qp.b qp.m qp.d] 54)) w1.heap.size [.int .i64 2, .int .i64 (A : Int), .int .i64 (B : Int), .int .i64 qn, .bool qp.g, .slice qp.a qp.n qp.c, .slice qp.b qp.m qp.d] := BoxP.made _ _ _
  have hbM : Below w1.heap.size w1 (w1.alloc (.cells #[.int .i64 2, .int .i64 (A : Int), .int .i64 (B : Int), .int .i64 qn, .bool qp.g, .slice qp.a qp.n qp.c, .slice qp.b qp.m qp.d] 54)) := (Below.refl _ _).alloc (Nat.le_refl _) _
  generalize w1.alloc (.cells #[.int .i64 2, .int .i64 (A : Int), .int .i64 (B : Int), .int .i64 qn, .bool qp.g, .slice qp.a qp.n qp.c, .slice qp.b qp.m qp.d] 54) = W2 at *
  have hb2 := (unhide HB1).trans (hbM.mono (unhide HB1).size)
  have y0 := (hb2.cell (World.block_lt_of_cell? _ _ y0)).trans y0
  have y1 := (hb2.cell (World.block_lt_of_cell? _ _ y1)).trans y1
  have y2 := (hb2.cell (World.block_lt_of_cell? _ _ y2)).trans y2
  have y3 := (hb2.cell (World.block_lt_of_cell? _ _ y3)).trans y3
  have y4 := (hb2.cell (World.block_lt_of_cell? _ _ y4)).trans y4
  have y5 := (hb2.cell (World.block_lt_of_cell? _ _ y5)).trans y5
  have y6 := (hb2.cell (World.block_lt_of_cell? _ _ y6)).trans y6
  have t0 := (hb2.cell (World.block_lt_of_cell? _ _ t0)).trans t0
  have t1 := (hb2.cell (World.block_lt_of_cell? _ _ t1)).trans t1
  have t2 := (hb2.cell (World.block_lt_of_cell? _ _ t2)).trans t2
  have HB2 := hide hb2
  have HNW := hide hbM
  have HBM := hide bM
  obtain ⟨X, hX⟩ : ∃ X, w1.heap.size = X := ⟨_, rfl⟩
  rw [hX] at HBM ⊢
  have HX := hide hX
  have HXR := hide (show wR.heap.size ≤ X from by rw [← hX]; exact (unhide HB1).size)
  have bM := unhide HBM
  have m0 := (bM.all 0 _ rfl).1
  have z0 := (bM.all 0 _ rfl).2
  have m1 := (bM.all 1 _ rfl).1
  have z1 := (bM.all 1 _ rfl).2
  have m2 := (bM.all 2 _ rfl).1
  have z2 := (bM.all 2 _ rfl).2
  have m3 := (bM.all 3 _ rfl).1
  have z3 := (bM.all 3 _ rfl).2
  have m4 := (bM.all 4 _ rfl).1
  have z4 := (bM.all 4 _ rfl).2
  have m5 := (bM.all 5 _ rfl).1
  have z5 := (bM.all 5 _ rfl).2
  have m6 := (bM.all 6 _ rfl).1
  have z6 := (bM.all 6 _ rfl).2
  have bR2 := (unhide HBR).below hb2
  have r0 := (bR2.all 0 _ rfl).1
  have u0 := (bR2.all 0 _ rfl).2
  have r1 := (bR2.all 1 _ rfl).1
  have u1 := (bR2.all 1 _ rfl).2
  have r2 := (bR2.all 2 _ rfl).1
  have u2 := (bR2.all 2 _ rfl).2
  have r3 := (bR2.all 3 _ rfl).1
  have u3 := (bR2.all 3 _ rfl).2
  have r4 := (bR2.all 4 _ rfl).1
  have u4 := (bR2.all 4 _ rfl).2
  have r5 := (bR2.all 5 _ rfl).1
  have u5 := (bR2.all 5 _ rfl).2
  have r6 := (bR2.all 6 _ rfl).1
  have u6 := (bR2.all 6 _ rfl).2
  clear bM hbM hb2 bR2 hX
  obtain ⟨R, hR⟩ : ∃ R, wt.heap.size = R := ⟨_, rfl⟩
  have hlt := unhide HLT
  have hXR := unhide HXR
  have hRl := (unhide HBR).lt
  have hne1 : X ≠ wo.heap.size := by omega
  have hne2 : wo.heap.size ≠ X := by omega
  have hne3 : X ≠ w.heap.size := by have := (unhide HLE).1; have := (unhide HLE).2; have := hR; omega
  have hne4 : w.heap.size ≠ X := by omega
  rw [hR] at hRl r0 u0 r1 u1 r2 u2 r3 u3 r4 u4 r5 u5 r6 u6 ⊢
  have hne5 : X ≠ R := by omega
  have hne6 : R ≠ X := by omega
  have hwR : w.heap.size ≤ R := by have := (unhide HLE).1; have := (unhide HLE).2; have := hR; omega
  have hwX : w.heap.size ≤ X := by omega
  have hcq : conQ qp = conQ p := by have := unhide HCO; unfold conO at this; simpa using this
  have hcX : Chg (fun j => j = X) W2 W2 := (Chg.refl (fun j => j = X) W2)
  have bR3 : BoxP W2 R [.int .i64 0, .int .i64 0, .int .i64 0, .int .i64 0, .bool false, .slice none 0 0, .slice none 0 0] := by
    have h := ((unhide HBR).below (unhide HB2))
    rw [hR] at h
    exact h.chg hcX hne6
  obtain ⟨bR4, hc4⟩ := seven_set bR3 (.int .i64 2) (.int .i64 (A : Int)) (.int .i64 (B : Int)) (.int .i64 qn) (.bool qp.g) (.slice qp.a qp.n qp.c) (.slice qp.b qp.m qp.d)
  have p0 := (bR4.all 0 _ rfl).1
  have p1 := (bR4.all 1 _ rfl).1
  have p2 := (bR4.all 2 _ rfl).1
  have p3 := (bR4.all 3 _ rfl).1
  have p4 := (bR4.all 4 _ rfl).1
  have p5 := (bR4.all 5 _ rfl).1
  have p6 := (bR4.all 6 _ rfl).1
  have HCX := hide hcX
  have HC4 := hide hc4
  have HRR := hide hR
  clear hcX bR3 bR4 hc4 hlt hXR
  go_wp2_with fail
  refine bodyPost_ret (v := opV ⟨2, (A : Int), (B : Int), qn, qp⟩) (by simp [opV, blQ, results, Tryd.results35, go_sem, p0, p1, p2, p3, p4, p5, p6]; try rfl) rfl ?_
  have hb := (unhide HB).trans ((unhide HB2).mono (unhide HB).size)
  have hE := (hb.trans ((unhide HCX).below (B := w.heap.size) hb.size (fun k hk e => by omega))).trans ((unhide HC4).below (B := w.heap.size) (by have := (unhide HCX).size; have := hb.size; omega) (fun k hk e => by omega))
  have hlk : ∀ k, nqB qp k → wR.heap.size ≤ k ∧ k < X := fun k hk => ⟨(unhide HNQ).2 k hk, by have := (unhide HNQ).1.lt k hk; have := unhide HX; omega⟩
  refine ⟨_, rfl, ?_, ((((unhide HNQ).1.below (unhide HNW)).st (unhide HCX) (fun k hk e => by have := (hlk k hk).2; omega)).st (unhide HC4) (fun k hk e => by have := (hlk k hk).1; omega)), fun k hk => by have := (hlk k hk).1; have := (unhide HB).size; omega, hE⟩
  unfold bhO
  simp [conO, hcq]
set_option maxRecDepth 100000 in
set_option maxHeartbeats 16000000 in
theorem ebehind_3 (A B : Nat) (n : Int) (p : Nq) (ii : Int) (ta : Option Addr) (N tc : Nat) (tb : Option Addr) (tm td : Nat) (ys : List Int) (w : World) (ho : NqL w p) (hx : p.x.length ≤ 2048) (hy : p.y.length ≤ 2048) (hys : SlI w tb tm td ys) (hN : N ≤ 2048) (hAm : A ≤ 2048) (hBm : B ≤ 2048) :
    Calls Tryd.prog 35 #[opV ⟨3, (A : Int), (B : Int), n, p⟩, tapV ii ta N tc tb tm td] w (ObA w N ys ⟨3, (A : Int), (B : Int), n, p⟩) := by
  obtain ⟨wo, hwo⟩ : ∃ x, w.alloc (.cells #[.int .i64 3, .int .i64 (A : Int), .int .i64 (B : Int), .int .i64 n, .bool p.g, .slice p.a p.n p.c, .slice p.b p.m p.d] 54) = x := ⟨_, rfl⟩
  have br : BoxP wo w.heap.size [.int .i64 3, .int .i64 (A : Int), .int .i64 (B : Int), .int .i64 n, .bool p.g, .slice p.a p.n p.c, .slice p.b p.m p.d] := by rw [← hwo]; exact BoxP.made _ _ _
  have hbo : Below w.heap.size w wo := by rw [← hwo]; exact (Below.refl _ _).alloc (Nat.le_refl _) _
  obtain ⟨wt, hwt⟩ : ∃ x, wo.alloc (.cells #[.int .i64 ii, .slice ta N tc, .slice tb tm td] 25) = x := ⟨_, rfl⟩
  have bt : BoxP wt wo.heap.size [.int .i64 ii, .slice ta N tc, .slice tb tm td] := by rw [← hwt]; exact BoxP.made _ _ _
  have hbt : Below wo.heap.size wo wt := by rw [← hwt]; exact (Below.refl _ _).alloc (Nat.le_refl _) _
  obtain ⟨wR, hwR⟩ : ∃ x, wt.alloc (.cells #[.int .i64 0, .int .i64 0, .int .i64 0, .int .i64 0, .bool false, .slice none 0 0, .slice none 0 0] 54) = x := ⟨_, rfl⟩
  have bR : BoxP wR wt.heap.size [.int .i64 0, .int .i64 0, .int .i64 0, .int .i64 0, .bool false, .slice none 0 0, .slice none 0 0] := by rw [← hwR]; exact BoxP.made _ _ _
  have hbR : Below wt.heap.size wt wR := by rw [← hwR]; exact (Below.refl _ _).alloc (Nat.le_refl _) _
  have hB2 := hbo.trans (hbt.mono hbo.size)
  have hB3 := hB2.trans (hbR.mono hB2.size)
  have HB := hide hB3
  have HBX := hide ((br.below hbt).below hbR)
  have HBT := hide (bt.below hbR)
  have HBR := hide bR
  have HY := hide (hys.below hB3)
  have HLE := hide (And.intro hbo.size hbt.size)
  have HLT := hide (And.intro br.lt bt.lt)
  have KC := ecopyOp_any ⟨3, (A : Int), (B : Int), n, p⟩ wR (ho.below hB3) hx hy
  unfold OcA at KC
  unfold opV at KC
  have HKC := hide KC
  have y0 := (((br.below hbt).below hbR).all 0 _ rfl).1
  have y1 := (((br.below hbt).below hbR).all 1 _ rfl).1
  have y2 := (((br.below hbt).below hbR).all 2 _ rfl).1
  have y3 := (((br.below hbt).below hbR).all 3 _ rfl).1
  have y4 := (((br.below hbt).below hbR).all 4 _ rfl).1
  have y5 := (((br.below hbt).below hbR).all 5 _ rfl).1
  have y6 := (((br.below hbt).below hbR).all 6 _ rfl).1
  have t0 := ((bt.below hbR).all 0 _ rfl).1
  have t1 := ((bt.below hbR).all 1 _ rfl).1
  have t2 := ((bt.below hbR).all 2 _ rfl).1
  unfold opV tapV
  clear br hbo bt hbt bR hbR hB2 hB3 ho hys KC
  go_enter Tryd.func35, Tryd.ntmps35
  go_wp2_with fail
  refine (unhide HKC).mono ?_
  rintro _ w1 ⟨⟨qk, qa, qb, qn, qp⟩, rfl, ⟨e0, e1, e2, e3⟩, hcon, hnq, hfr, b1⟩
  simp only at e0 e1 e2 e3 hnq hfr
  subst e0 e1 e2 e3
  have HCO := hide hcon
  have HNQ := hide (And.intro hnq hfr)
  have HB1 := hide b1
  clear hcon hnq hfr b1 HKC
  try dsimp only
  repeat ((fail_if_success (with_reducible (show Code.wp _ _ _ _ (World.alloc w1 (Obj.cells #[_, _, _, _, _, _, .slice qp.b qp.m qp.d] _))))); (first | go_values | go_skip | go_guarded | go_step | go_upon | go_back))
  have bM : BoxP (w1.alloc (.cells #[.int .i64 3, .int .i64 (A : Int), .int .i64 (B : Int), .int .i64 qn, .bool qp.g, .slice qp.a qp.n qp.c, .slice qp.b qp.m qp.d] 54)) w1.heap.size [.int .i64 3, .int .i64 (A : Int), .int .i64 (B : Int), .int .i64 qn, .bool qp.g, .slice qp.a qp.n qp.c, .slice qp.b qp.m qp.d] := BoxP.made _ _ _
  have hbM : Below w1.heap.size w1 (w1.alloc (.cells #[.int .i64 3, .int .i64 (A : Int), .int .i64 (B : Int), .int .i64 qn, .bool qp.g, .slice qp.a qp.n qp.c, .slice qp.b qp.m qp.d] 54)) := (Below.refl _ _).alloc (Nat.le_refl _) _
  generalize w1.alloc (.cells #[.int .i64 3, .int .i64 (A : Int), .int .i64 (B : Int), .int .i64 qn, .bool qp.g, .slice qp.a qp.n qp.c, .slice qp.b qp.m qp.d] 54) = W2 at *
  have hb2 := (unhide HB1).trans (hbM.mono (unhide HB1).size)
  have y0 := (hb2.cell (World.block_lt_of_cell? _ _ y0)).trans y0
  have y1 := (hb2.cell (World.block_lt_of_cell? _ _ y1)).trans y1
  have y2 := (hb2.cell (World.block_lt_of_cell? _ _ y2)).trans y2
  have y3 := (hb2.cell (World.block_lt_of_cell? _ _ y3)).trans y3
  have y4 := (hb2.cell (World.block_lt_of_cell? _ _ y4)).trans y4
  have y5 := (hb2.cell (World.block_lt_of_cell? _ _ y5)).trans y5
  have y6 := (hb2.cell (World.block_lt_of_cell? _ _ y6)).trans y6
  have t0 := (hb2.cell (World.block_lt_of_cell? _ _ t0)).trans t0
  have t1 := (hb2.cell (World.block_lt_of_cell? _ _ t1)).trans t1
  have t2 := (hb2.cell (World.block_lt_of_cell? _ _ t2)).trans t2
  have HB2 := hide hb2
  have HNW := hide hbM
  have HBM := hide bM
  obtain ⟨X, hX⟩ : ∃ X, w1.heap.size = X := ⟨_, rfl⟩
  rw [hX] at HBM ⊢
  have HX := hide hX
  have HXR := hide (show wR.heap.size ≤ X from by rw [← hX]; exact (unhide HB1).size)
  have bM := unhide HBM
  have m0 := (bM.all 0 _ rfl).1
  have z0 := (bM.all 0 _ rfl).2
  have m1 := (bM.all 1 _ rfl).1
  have z1 := (bM.all 1 _ rfl).2
  have m2 := (bM.all 2 _ rfl).1
  have z2 := (bM.all 2 _ rfl).2
  have m3 := (bM.all 3 _ rfl).1
  have z3 := (bM.all 3 _ rfl).2
  have m4 := (bM.all 4 _ rfl).1
  have z4 := (bM.all 4 _ rfl).2
  have m5 := (bM.all 5 _ rfl).1
  have z5 := (bM.all 5 _ rfl).2
  have m6 := (bM.all 6 _ rfl).1
  have z6 := (bM.all 6 _ rfl).2
  have bR2 := (unhide HBR).below hb2
  have r0 := (bR2.all 0 _ rfl).1
  have u0 := (bR2.all 0 _ rfl).2
  have r1 := (bR2.all 1 _ rfl).1
  have u1 := (bR2.all 1 _ rfl).2
  have r2 := (bR2.all 2 _ rfl).1
  have u2 := (bR2.all 2 _ rfl).2
  have r3 := (bR2.all 3 _ rfl).1
  have u3 := (bR2.all 3 _ rfl).2
  have r4 := (bR2.all 4 _ rfl).1
  have u4 := (bR2.all 4 _ rfl).2
  have r5 := (bR2.all 5 _ rfl).1
  have u5 := (bR2.all 5 _ rfl).2
  have r6 := (bR2.all 6 _ rfl).1
  have u6 := (bR2.all 6 _ rfl).2
  clear bM hbM hb2 bR2 hX
  obtain ⟨R, hR⟩ : ∃ R, wt.heap.size = R := ⟨_, rfl⟩
  have hlt := unhide HLT
  have hXR := unhide HXR
  have hRl := (unhide HBR).lt
  have hne1 : X ≠ wo.heap.size := by omega
  have hne2 : wo.heap.size ≠ X := by omega
  have hne3 : X ≠ w.heap.size := by have := (unhide HLE).1; have := (unhide HLE).2; have := hR; omega
  have hne4 : w.heap.size ≠ X := by omega
  rw [hR] at hRl r0 u0 r1 u1 r2 u2 r3 u3 r4 u4 r5 u5 r6 u6 ⊢
  have hne5 : X ≠ R := by omega
  have hne6 : R ≠ X := by omega
  have hwR : w.heap.size ≤ R := by have := (unhide HLE).1; have := (unhide HLE).2; have := hR; omega
  have hwX : w.heap.size ≤ X := by omega
  have hcq : conQ qp = conQ p := by have := unhide HCO; unfold conO at this; simpa using this
  have hcX : Chg (fun j => j = X) W2 ((W2.setCell ⟨X, 1, none⟩ (.int .i64 ((A : Int) + (N : Int)))).setCell ⟨X, 2, none⟩ (.int .i64 ((B : Int) + (N : Int)))) := (((Chg.refl (fun j => j = X) W2).trans (Chg.of_set (S := fun j => j = X) _ X 1 (.int .i64 ((A : Int) + (N : Int))) rfl)).trans (Chg.of_set (S := fun j => j = X) _ X 2 (.int .i64 ((B : Int) + (N : Int))) rfl))
  have bR3 : BoxP ((W2.setCell ⟨X, 1, none⟩ (.int .i64 ((A : Int) + (N : Int)))).setCell ⟨X, 2, none⟩ (.int .i64 ((B : Int) + (N : Int)))) R [.int .i64 0, .int .i64 0, .int .i64 0, .int .i64 0, .bool false, .slice none 0 0, .slice none 0 0] := by
    have h := ((unhide HBR).below (unhide HB2))
    rw [hR] at h
    exact h.chg hcX hne6
  obtain ⟨bR4, hc4⟩ := seven_set bR3 (.int .i64 3) (.int .i64 ((A : Int) + (N : Int))) (.int .i64 ((B : Int) + (N : Int))) (.int .i64 qn) (.bool qp.g) (.slice qp.a qp.n qp.c) (.slice qp.b qp.m qp.d)
  have p0 := (bR4.all 0 _ rfl).1
  have p1 := (bR4.all 1 _ rfl).1
  have p2 := (bR4.all 2 _ rfl).1
  have p3 := (bR4.all 3 _ rfl).1
  have p4 := (bR4.all 4 _ rfl).1
  have p5 := (bR4.all 5 _ rfl).1
  have p6 := (bR4.all 6 _ rfl).1
  have HCX := hide hcX
  have HC4 := hide hc4
  have HRR := hide hR
  clear hcX bR3 bR4 hc4 hlt hXR
  go_wp2_with fail
  refine bodyPost_ret (v := opV ⟨3, ((A : Int) + (N : Int)), ((B : Int) + (N : Int)), qn, qp⟩) (by simp [opV, blQ, results, Tryd.results35, go_sem, p0, p1, p2, p3, p4, p5, p6]; try rfl) rfl ?_
  have hb := (unhide HB).trans ((unhide HB2).mono (unhide HB).size)
  have hE := (hb.trans ((unhide HCX).below (B := w.heap.size) hb.size (fun k hk e => by omega))).trans ((unhide HC4).below (B := w.heap.size) (by have := (unhide HCX).size; have := hb.size; omega) (fun k hk e => by omega))
  have hlk : ∀ k, nqB qp k → wR.heap.size ≤ k ∧ k < X := fun k hk => ⟨(unhide HNQ).2 k hk, by have := (unhide HNQ).1.lt k hk; have := unhide HX; omega⟩
  refine ⟨_, rfl, ?_, ((((unhide HNQ).1.below (unhide HNW)).st (unhide HCX) (fun k hk e => by have := (hlk k hk).2; omega)).st (unhide HC4) (fun k hk e => by have := (hlk k hk).1; omega)), fun k hk => by have := (hlk k hk).1; have := (unhide HB).size; omega, hE⟩
  unfold bhO
  simp [conO, hcq]
set_option maxRecDepth 100000 in
set_option maxHeartbeats 16000000 in
theorem ebehind_4 (A B : Nat) (n : Int) (p : Nq) (ii : Int) (ta : Option Addr) (N tc : Nat) (tb : Option Addr) (tm td : Nat) (ys : List Int) (w : World) (ho : NqL w p) (hx : p.x.length ≤ 2048) (hy : p.y.length ≤ 2048) (hys : SlI w tb tm td ys) (hN : N ≤ 2048) (hAm : A ≤ 2048) (hBm : B ≤ 2048) :
    Calls Tryd.prog 35 #[opV ⟨4, (A : Int), (B : Int), n, p⟩, tapV ii ta N tc tb tm td] w (ObA w N ys ⟨4, (A : Int), (B : Int), n, p⟩) := by
  obtain ⟨wo, hwo⟩ : ∃ x, w.alloc (.cells #[.int .i64 4, .int .i64 (A : Int), .int .i64 (B : Int), .int .i64 n, .bool p.g, .slice p.a p.n p.c, .slice p.b p.m p.d] 54) = x := ⟨_, rfl⟩
  have br : BoxP wo w.heap.size [.int .i64 4, .int .i64 (A : Int), .int .i64 (B : Int), .int .i64 n, .bool p.g, .slice p.a p.n p.c, .slice p.b p.m p.d] := by rw [← hwo]; exact BoxP.made _ _ _
  have hbo : Below w.heap.size w wo := by rw [← hwo]; exact (Below.refl _ _).alloc (Nat.le_refl _) _
  obtain ⟨wt, hwt⟩ : ∃ x, wo.alloc (.cells #[.int .i64 ii, .slice ta N tc, .slice tb tm td] 25) = x := ⟨_, rfl⟩
  have bt : BoxP wt wo.heap.size [.int .i64 ii, .slice ta N tc, .slice tb tm td] := by rw [← hwt]; exact BoxP.made _ _ _
  have hbt : Below wo.heap.size wo wt := by rw [← hwt]; exact (Below.refl _ _).alloc (Nat.le_refl _) _
  obtain ⟨wR, hwR⟩ : ∃ x, wt.alloc (.cells #[.int .i64 0, .int .i64 0, .int .i64 0, .int .i64 0, .bool false, .slice none 0 0, .slice none 0 0] 54) = x := ⟨_, rfl⟩
  have bR : BoxP wR wt.heap.size [.int .i64 0, .int .i64 0, .int .i64 0, .int .i64 0, .bool false, .slice none 0 0, .slice none 0 0] := by rw [← hwR]; exact BoxP.made _ _ _
  have hbR : Below wt.heap.size wt wR := by rw [← hwR]; exact (Below.refl _ _).alloc (Nat.le_refl _) _
  have hB2 := hbo.trans (hbt.mono hbo.size)
  have hB3 := hB2.trans (hbR.mono hB2.size)
  have HB := hide hB3
  have HBX := hide ((br.below hbt).below hbR)
  have HBT := hide (bt.below hbR)
  have HBR := hide bR
  have HY := hide (hys.below hB3)
  have HLE := hide (And.intro hbo.size hbt.size)
  have HLT := hide (And.intro br.lt bt.lt)
  have KC := ecopyOp_any ⟨4, (A : Int), (B : Int), n, p⟩ wR (ho.below hB3) hx hy
  unfold OcA at KC
  unfold opV at KC
  have HKC := hide KC
  have y0 := (((br.below hbt).below hbR).all 0 _ rfl).1
  have y1 := (((br.below hbt).below hbR).all 1 _ rfl).1
  have y2 := (((br.below hbt).below hbR).all 2 _ rfl).1
  have y3 := (((br.below hbt).below hbR).all 3 _ rfl).1
  have y4 := (((br.below hbt).below hbR).all 4 _ rfl).1
  have y5 := (((br.below hbt).below hbR).all 5 _ rfl).1
  have y6 := (((br.below hbt).below hbR).all 6 _ rfl).1
  have t0 := ((bt.below hbR).all 0 _ rfl).1
  have t1 := ((bt.below hbR).all 1 _ rfl).1
  have t2 := ((bt.below hbR).all 2 _ rfl).1
  unfold opV tapV
  clear br hbo bt hbt bR hbR hB2 hB3 ho hys KC
  go_enter Tryd.func35, Tryd.ntmps35
  go_wp2_with fail
  refine (unhide HKC).mono ?_
  rintro _ w1 ⟨⟨qk, qa, qb, qn, qp⟩, rfl, ⟨e0, e1, e2, e3⟩, hcon, hnq, hfr, b1⟩
  simp only at e0 e1 e2 e3 hnq hfr
  subst e0 e1 e2 e3
  have HCO := hide hcon
  have HNQ := hide (And.intro hnq hfr)
  have HB1 := hide b1
  clear hcon hnq hfr b1 HKC
  try dsimp only
  repeat ((fail_if_success (with_reducible (show Code.wp _ _ _ _ (World.alloc w1 (Obj.cells #[_, _, _, _, _, _, .slice qp.b qp.m qp.d] _))))); (first | go_values | go_skip | go_guarded | go_step | go_upon | go_back))
  have bM : BoxP (w1.alloc (.cells #[.int .i64 4, .int .i64 (A : Int), .int .i64 (B : Int), .int .i64 qn, .bool qp.g, .slice qp.a qp.n qp.c, .slice qp.b qp.m qp.d] 54)) w1.heap.size [.int .i64 4, .int .i64 (A : Int), .int .i64 (B : Int), .int .i64 qn, .bool qp.g, .slice qp.a qp.n qp.c, .slice qp.b qp.m qp.d] := BoxP.made _ _ _
  have hbM : Below w1.heap.size w1 (w1.alloc (.cells #[.int .i64 4, .int .i64 (A : Int), .int .i64 (B : Int), .int .i64 qn, .bool qp.g, .slice qp.a qp.n qp.c, .slice qp.b qp.m qp.d] 54)) := (Below.refl _ _).alloc (Nat.le_refl _) _
  generalize w1.alloc (.cells #[.int .i64 4, .int .i64 (A : Int), .int .i64 (B : Int), .int .i64 qn, .bool qp.g, .slice qp.a qp.n qp.c, .slice qp.b qp.m qp.d] 54) = W2 at *
  have hb2 := (unhide HB1).trans (hbM.mono (unhide HB1).size)
  have y0 := (hb2.cell (World.block_lt_of_cell? _ _ y0)).trans y0
  have y1 := (hb2.cell (World.block_lt_of_cell? _ _ y1)).trans y1
  have y2 := (hb2.cell (World.block_lt_of_cell? _ _ y2)).trans y2
  have y3 := (hb2.cell (World.block_lt_of_cell? _ _ y3)).trans y3
  have y4 := (hb2.cell (World.block_lt_of_cell? _ _ y4)).trans y4
  have y5 := (hb2.cell (World.block_lt_of_cell? _ _ y5)).trans y5
  have y6 := (hb2.cell (World.block_lt_of_cell? _ _ y6)).trans y6
  have t0 := (hb2.cell (World.block_lt_of_cell? _ _ t0)).trans t0
  have t1 := (hb2.cell (World.block_lt_of_cell? _ _ t1)).trans t1
  have t2 := (hb2.cell (World.block_lt_of_cell? _ _ t2)).trans t2
  have HB2 := hide hb2
  have HNW := hide hbM
  have HBM := hide bM
  obtain ⟨X, hX⟩ : ∃ X, w1.heap.size = X := ⟨_, rfl⟩
  rw [hX] at HBM ⊢
  have HX := hide hX
  have HXR := hide (show wR.heap.size ≤ X from by rw [← hX]; exact (unhide HB1).size)
  have bM := unhide HBM
  have m0 := (bM.all 0 _ rfl).1
  have z0 := (bM.all 0 _ rfl).2
  have m1 := (bM.all 1 _ rfl).1
  have z1 := (bM.all 1 _ rfl).2
  have m2 := (bM.all 2 _ rfl).1
  have z2 := (bM.all 2 _ rfl).2
  have m3 := (bM.all 3 _ rfl).1
  have z3 := (bM.all 3 _ rfl).2
  have m4 := (bM.all 4 _ rfl).1
  have z4 := (bM.all 4 _ rfl).2
  have m5 := (bM.all 5 _ rfl).1
  have z5 := (bM.all 5 _ rfl).2
  have m6 := (bM.all 6 _ rfl).1
  have z6 := (bM.all 6 _ rfl).2
  have bR2 := (unhide HBR).below hb2
  have r0 := (bR2.all 0 _ rfl).1
  have u0 := (bR2.all 0 _ rfl).2
  have r1 := (bR2.all 1 _ rfl).1
  have u1 := (bR2.all 1 _ rfl).2
  have r2 := (bR2.all 2 _ rfl).1
  have u2 := (bR2.all 2 _ rfl).2
  have r3 := (bR2.all 3 _ rfl).1
  have u3 := (bR2.all 3 _ rfl).2
  have r4 := (bR2.all 4 _ rfl).1
  have u4 := (bR2.all 4 _ rfl).2
  have r5 := (bR2.all 5 _ rfl).1
  have u5 := (bR2.all 5 _ rfl).2
  have r6 := (bR2.all 6 _ rfl).1
  have u6 := (bR2.all 6 _ rfl).2
  clear bM hbM hb2 bR2 hX
  obtain ⟨R, hR⟩ : ∃ R, wt.heap.size = R := ⟨_, rfl⟩
  have hlt := unhide HLT
  have hXR := unhide HXR
  have hRl := (unhide HBR).lt
  have hne1 : X ≠ wo.heap.size := by omega
  have hne2 : wo.heap.size ≠ X := by omega
  have hne3 : X ≠ w.heap.size := by have := (unhide HLE).1; have := (unhide HLE).2; have := hR; omega
  have hne4 : w.heap.size ≠ X := by omega
  rw [hR] at hRl r0 u0 r1 u1 r2 u2 r3 u3 r4 u4 r5 u5 r6 u6 ⊢
  have hne5 : X ≠ R := by omega
  have hne6 : R ≠ X := by omega
  have hwR : w.heap.size ≤ R := by have := (unhide HLE).1; have := (unhide HLE).2; have := hR; omega
  have hwX : w.heap.size ≤ X := by omega
  have hcq : conQ qp = conQ p := by have := unhide HCO; unfold conO at this; simpa using this
  have hcX : Chg (fun j => j = X) W2 ((W2.setCell ⟨X, 1, none⟩ (.int .i64 ((A : Int) + (N : Int)))).setCell ⟨X, 2, none⟩ (.int .i64 ((B : Int) + (N : Int)))) := (((Chg.refl (fun j => j = X) W2).trans (Chg.of_set (S := fun j => j = X) _ X 1 (.int .i64 ((A : Int) + (N : Int))) rfl)).trans (Chg.of_set (S := fun j => j = X) _ X 2 (.int .i64 ((B : Int) + (N : Int))) rfl))
  have bR3 : BoxP ((W2.setCell ⟨X, 1, none⟩ (.int .i64 ((A : Int) + (N : Int)))).setCell ⟨X, 2, none⟩ (.int .i64 ((B : Int) + (N : Int)))) R [.int .i64 0, .int .i64 0, .int .i64 0, .int .i64 0, .bool false, .slice none 0 0, .slice none 0 0] := by
    have h := ((unhide HBR).below (unhide HB2))
    rw [hR] at h
    exact h.chg hcX hne6
  obtain ⟨bR4, hc4⟩ := seven_set bR3 (.int .i64 4) (.int .i64 ((A : Int) + (N : Int))) (.int .i64 ((B : Int) + (N : Int))) (.int .i64 qn) (.bool qp.g) (.slice qp.a qp.n qp.c) (.slice qp.b qp.m qp.d)
  have p0 := (bR4.all 0 _ rfl).1
  have p1 := (bR4.all 1 _ rfl).1
  have p2 := (bR4.all 2 _ rfl).1
  have p3 := (bR4.all 3 _ rfl).1
  have p4 := (bR4.all 4 _ rfl).1
  have p5 := (bR4.all 5 _ rfl).1
  have p6 := (bR4.all 6 _ rfl).1
  have HCX := hide hcX
  have HC4 := hide hc4
  have HRR := hide hR
  clear hcX bR3 bR4 hc4 hlt hXR
  go_wp2_with fail
  refine bodyPost_ret (v := opV ⟨4, ((A : Int) + (N : Int)), ((B : Int) + (N : Int)), qn, qp⟩) (by simp [opV, blQ, results, Tryd.results35, go_sem, p0, p1, p2, p3, p4, p5, p6]; try rfl) rfl ?_
  have hb := (unhide HB).trans ((unhide HB2).mono (unhide HB).size)
  have hE := (hb.trans ((unhide HCX).below (B := w.heap.size) hb.size (fun k hk e => by omega))).trans ((unhide HC4).below (B := w.heap.size) (by have := (unhide HCX).size; have := hb.size; omega) (fun k hk e => by omega))
  have hlk : ∀ k, nqB qp k → wR.heap.size ≤ k ∧ k < X := fun k hk => ⟨(unhide HNQ).2 k hk, by have := (unhide HNQ).1.lt k hk; have := unhide HX; omega⟩
  refine ⟨_, rfl, ?_, ((((unhide HNQ).1.below (unhide HNW)).st (unhide HCX) (fun k hk e => by have := (hlk k hk).2; omega)).st (unhide HC4) (fun k hk e => by have := (hlk k hk).1; omega)), fun k hk => by have := (hlk k hk).1; have := (unhide HB).size; omega, hE⟩
  unfold bhO
  simp [conO, hcq]
set_option maxRecDepth 100000 in
set_option maxHeartbeats 16000000 in
theorem ebehind_5 (A B : Nat) (n : Int) (p : Nq) (ii : Int) (ta : Option Addr) (N tc : Nat) (tb : Option Addr) (tm td : Nat) (ys : List Int) (w : World) (ho : NqL w p) (hx : p.x.length ≤ 2048) (hy : p.y.length ≤ 2048) (hys : SlI w tb tm td ys) (hN : N ≤ 2048) (hAm : A ≤ 2048) (hBm : B ≤ 2048) :
    Calls Tryd.prog 35 #[opV ⟨5, (A : Int), (B : Int), n, p⟩, tapV ii ta N tc tb tm td] w (ObA w N ys ⟨5, (A : Int), (B : Int), n, p⟩) := by
  obtain ⟨wo, hwo⟩ : ∃ x, w.alloc (.cells #[.int .i64 5, .int .i64 (A : Int), .int .i64 (B : Int), .int .i64 n, .bool p.g, .slice p.a p.n p.c, .slice p.b p.m p.d] 54) = x := ⟨_, rfl⟩
  have br : BoxP wo w.heap.size [.int .i64 5, .int .i64 (A : Int), .int .i64 (B : Int), .int .i64 n, .bool p.g, .slice p.a p.n p.c, .slice p.b p.m p.d] := by rw [← hwo]; exact BoxP.made _ _ _
  have hbo : Below w.heap.size w wo := by rw [← hwo]; exact (Below.refl _ _).alloc (Nat.le_refl _) _
  obtain ⟨wt, hwt⟩ : ∃ x, wo.alloc (.cells #[.int .i64 ii, .slice ta N tc, .slice tb tm td] 25) = x := ⟨_, rfl⟩
  have bt : BoxP wt wo.heap.size [.int .i64 ii, .slice ta N tc, .slice tb tm td] := by rw [← hwt]; exact BoxP.made _ _ _
  have hbt : Below wo.heap.size wo wt := by rw [← hwt]; exact (Below.refl _ _).alloc (Nat.le_refl _) _
  obtain ⟨wR, hwR⟩ : ∃ x, wt.alloc (.cells #[.int .i64 0, .int .i64 0, .int .i64 0, .int .i64 0, .bool false, .slice none 0 0, .slice none 0 0] 54) = x := ⟨_, rfl⟩
  have bR : BoxP wR wt.heap.size [.int .i64 0, .int .i64 0, .int .i64 0, .int .i64 0, .bool false, .slice none 0 0, .slice none 0 0] := by rw [← hwR]; exact BoxP.made _ _ _
  have hbR : Below wt.heap.size wt wR := by rw [← hwR]; exact (Below.refl _ _).alloc (Nat.le_refl _) _
  have hB2 := hbo.trans (hbt.mono hbo.size)
  have hB3 := hB2.trans (hbR.mono hB2.size)
  have HB := hide hB3
  have HBX := hide ((br.below hbt).below hbR)
  have HBT := hide (bt.below hbR)
  have HBR := hide bR
  have HY := hide (hys.below hB3)
  have HLE := hide (And.intro hbo.size hbt.size)
  have HLT := hide (And.intro br.lt bt.lt)
  have KC := ecopyOp_any ⟨5, (A : Int), (B : Int), n, p⟩ wR (ho.below hB3) hx hy
  unfold OcA at KC
  unfold opV at KC
  have HKC := hide KC
  have y0 := (((br.below hbt).below hbR).all 0 _ rfl).1
  have y1 := (((br.below hbt).below hbR).all 1 _ rfl).1
  have y2 := (((br.below hbt).below hbR).all 2 _ rfl).1
  have y3 := (((br.below hbt).below hbR).all 3 _ rfl).1
  have y4 := (((br.below hbt).below hbR).all 4 _ rfl).1
  have y5 := (((br.below hbt).below hbR).all 5 _ rfl).1
  have y6 := (((br.below hbt).below hbR).all 6 _ rfl).1
  have t0 := ((bt.below hbR).all 0 _ rfl).1
  have t1 := ((bt.below hbR).all 1 _ rfl).1
  have t2 := ((bt.below hbR).all 2 _ rfl).1
  unfold opV tapV
  clear br hbo bt hbt bR hbR hB2 hB3 ho hys KC
  go_enter Tryd.func35, Tryd.ntmps35
  go_wp2_with fail
  refine (unhide HKC).mono ?_
  rintro _ w1 ⟨⟨qk, qa, qb, qn, qp⟩, rfl, ⟨e0, e1, e2, e3⟩, hcon, hnq, hfr, b1⟩
  simp only at e0 e1 e2 e3 hnq hfr
  subst e0 e1 e2 e3
  have HCO := hide hcon
  have HNQ := hide (And.intro hnq hfr)
  have HB1 := hide b1
  clear hcon hnq hfr b1 HKC
  try dsimp only
  repeat ((fail_if_success (with_reducible (show Code.wp _ _ _ _ (World.alloc w1 (Obj.cells #[_, _, _, _, _, _, .slice qp.b qp.m qp.d] _))))); (first | go_values | go_skip | go_guarded | go_step | go_upon | go_back))
  have bM : BoxP (w1.alloc (.cells #[.int .i64 5, .int .i64 (A : Int), .int .i64 (B : Int), .int .i64 qn, .bool qp.g, .slice qp.a qp.n qp.c, .slice qp.b qp.m qp.d] 54)) w1.heap.size [.int .i64 5, .int .i64 (A : Int), .int .i64 (B : Int), .int .i64 qn, .bool qp.g, .slice qp.a qp.n qp.c, .slice qp.b qp.m qp.d] := BoxP.made _ _ _
  have hbM : Below w1.heap.size w1 (w1.alloc (.cells #[.int .i64 5, .int .i64 (A : Int), .int .i64 (B : Int), .int .i64 qn, .bool qp.g, .slice qp.a qp.n qp.c, .slice qp.b qp.m qp.d] 54)) := (Below.refl _ _).alloc (Nat.le_refl _) _
  generalize w1.alloc (.cells #[.int .i64 5, .int .i64 (A : Int), .int .i64 (B : Int), .int .i64 qn, .bool qp.g, .slice qp.a qp.n qp.c, .slice qp.b qp.m qp.d] 54) = W2 at *
  have hb2 := (unhide HB1).trans (hbM.mono (unhide HB1).size)
  have y0 := (hb2.cell (World.block_lt_of_cell? _ _ y0)).trans y0
  have y1 := (hb2.cell (World.block_lt_of_cell? _ _ y1)).trans y1
  have y2 := (hb2.cell (World.block_lt_of_cell? _ _ y2)).trans y2
  have y3 := (hb2.cell (World.block_lt_of_cell? _ _ y3)).trans y3
  have y4 := (hb2.cell (World.block_lt_of_cell? _ _ y4)).trans y4
  have y5 := (hb2.cell (World.block_lt_of_cell? _ _ y5)).trans y5
  have y6 := (hb2.cell (World.block_lt_of_cell? _ _ y6)).trans y6
  have t0 := (hb2.cell (World.block_lt_of_cell? _ _ t0)).trans t0
  have t1 := (hb2.cell (World.block_lt_of_cell? _ _ t1)).trans t1
  have t2 := (hb2.cell (World.block_lt_of_cell? _ _ t2)).trans t2
  have HB2 := hide hb2
  have HNW := hide hbM
  have HBM := hide bM
  obtain ⟨X, hX⟩ : ∃ X, w1.heap.size = X := ⟨_, rfl⟩
  rw [hX] at HBM ⊢
  have HX := hide hX
  have HXR := hide (show wR.heap.size ≤ X from by rw [← hX]; exact (unhide HB1).size)
  have bM := unhide HBM
  have m0 := (bM.all 0 _ rfl).1
  have z0 := (bM.all 0 _ rfl).2
  have m1 := (bM.all 1 _ rfl).1
  have z1 := (bM.all 1 _ rfl).2
  have m2 := (bM.all 2 _ rfl).1
  have z2 := (bM.all 2 _ rfl).2
  have m3 := (bM.all 3 _ rfl).1
  have z3 := (bM.all 3 _ rfl).2
  have m4 := (bM.all 4 _ rfl).1
  have z4 := (bM.all 4 _ rfl).2
  have m5 := (bM.all 5 _ rfl).1
  have z5 := (bM.all 5 _ rfl).2
  have m6 := (bM.all 6 _ rfl).1
  have z6 := (bM.all 6 _ rfl).2
  have bR2 := (unhide HBR).below hb2
  have r0 := (bR2.all 0 _ rfl).1
  have u0 := (bR2.all 0 _ rfl).2
  have r1 := (bR2.all 1 _ rfl).1
  have u1 := (bR2.all 1 _ rfl).2
  have r2 := (bR2.all 2 _ rfl).1
  have u2 := (bR2.all 2 _ rfl).2
  have r3 := (bR2.all 3 _ rfl).1
  have u3 := (bR2.all 3 _ rfl).2
  have r4 := (bR2.all 4 _ rfl).1
  have u4 := (bR2.all 4 _ rfl).2
  have r5 := (bR2.all 5 _ rfl).1
  have u5 := (bR2.all 5 _ rfl).2
  have r6 := (bR2.all 6 _ rfl).1
  have u6 := (bR2.all 6 _ rfl).2
  clear bM hbM hb2 bR2 hX
  obtain ⟨R, hR⟩ : ∃ R, wt.heap.size = R := ⟨_, rfl⟩
  have hlt := unhide HLT
  have hXR := unhide HXR
  have hRl := (unhide HBR).lt
  have hne1 : X ≠ wo.heap.size := by omega
  have hne2 : wo.heap.size ≠ X := by omega
  have hne3 : X ≠ w.heap.size := by have := (unhide HLE).1; have := (unhide HLE).2; have := hR; omega
  have hne4 : w.heap.size ≠ X := by omega
  rw [hR] at hRl r0 u0 r1 u1 r2 u2 r3 u3 r4 u4 r5 u5 r6 u6 ⊢
  have hne5 : X ≠ R := by omega
  have hne6 : R ≠ X := by omega
  have hwR : w.heap.size ≤ R := by have := (unhide HLE).1; have := (unhide HLE).2; have := hR; omega
  have hwX : w.heap.size ≤ X := by omega
  have hcq : conQ qp = conQ p := by have := unhide HCO; unfold conO at this; simpa using this
  have hcX : Chg (fun j => j = X) W2 ((W2.setCell ⟨X, 1, none⟩ (.int .i64 ((A : Int) + (N : Int)))).setCell ⟨X, 2, none⟩ (.int .i64 ((B : Int) + (N : Int)))) := (((Chg.refl (fun j => j = X) W2).trans (Chg.of_set (S := fun j => j = X) _ X 1 (.int .i64 ((A : Int) + (N : Int))) rfl)).trans (Chg.of_set (S := fun j => j = X) _ X 2 (.int .i64 ((B : Int) + (N : Int))) rfl))
  have bR3 : BoxP ((W2.setCell ⟨X, 1, none⟩ (.int .i64 ((A : Int) + (N : Int)))).setCell ⟨X, 2, none⟩ (.int .i64 ((B : Int) + (N : Int)))) R [.int .i64 0, .int .i64 0, .int .i64 0, .int .i64 0, .bool false, .slice none 0 0, .slice none 0 0] := by
    have h := ((unhide HBR).below (unhide HB2))
    rw [hR] at h
    exact h.chg hcX hne6
  obtain ⟨bR4, hc4⟩ := seven_set bR3 (.int .i64 5) (.int .i64 ((A : Int) + (N : Int))) (.int .i64 ((B : Int) + (N : Int))) (.int .i64 qn) (.bool qp.g) (.slice qp.a qp.n qp.c) (.slice qp.b qp.m qp.d)
  have p0 := (bR4.all 0 _ rfl).1
  have p1 := (bR4.all 1 _ rfl).1
  have p2 := (bR4.all 2 _ rfl).1
  have p3 := (bR4.all 3 _ rfl).1
  have p4 := (bR4.all 4 _ rfl).1
  have p5 := (bR4.all 5 _ rfl).1
  have p6 := (bR4.all 6 _ rfl).1
  have HCX := hide hcX
  have HC4 := hide hc4
  have HRR := hide hR
  clear hcX bR3 bR4 hc4 hlt hXR
  go_wp2_with fail
  refine bodyPost_ret (v := opV ⟨5, ((A : Int) + (N : Int)), ((B : Int) + (N : Int)), qn, qp⟩) (by simp [opV, blQ, results, Tryd.results35, go_sem, p0, p1, p2, p3, p4, p5, p6]; try rfl) rfl ?_
  have hb := (unhide HB).trans ((unhide HB2).mono (unhide HB).size)
  have hE := (hb.trans ((unhide HCX).below (B := w.heap.size) hb.size (fun k hk e => by omega))).trans ((unhide HC4).below (B := w.heap.size) (by have := (unhide HCX).size; have := hb.size; omega) (fun k hk e => by omega))
  have hlk : ∀ k, nqB qp k → wR.heap.size ≤ k ∧ k < X := fun k hk => ⟨(unhide HNQ).2 k hk, by have := (unhide HNQ).1.lt k hk; have := unhide HX; omega⟩
  refine ⟨_, rfl, ?_, ((((unhide HNQ).1.below (unhide HNW)).st (unhide HCX) (fun k hk e => by have := (hlk k hk).2; omega)).st (unhide HC4) (fun k hk e => by have := (hlk k hk).1; omega)), fun k hk => by have := (hlk k hk).1; have := (unhide HB).size; omega, hE⟩
  unfold bhO
  simp [conO, hcq]
set_option maxRecDepth 100000 in
set_option maxHeartbeats 16000000 in
theorem ebehind_6 (A B : Nat) (n : Int) (p : Nq) (ii : Int) (ta : Option Addr) (N tc : Nat) (tb : Option Addr) (tm td : Nat) (ys : List Int) (w : World) (ho : NqL w p) (hx : p.x.length ≤ 2048) (hy : p.y.length ≤ 2048) (hys : SlI w tb tm td ys) (hN : N ≤ 2048) (hAm : A ≤ 2048) (hBm : B ≤ 2048) :
    Calls Tryd.prog 35 #[opV ⟨6, (A : Int), (B : Int), n, p⟩, tapV ii ta N tc tb tm td] w (ObA w N ys ⟨6, (A : Int), (B : Int), n, p⟩) := by
  obtain ⟨wo, hwo⟩ : ∃ x, w.alloc (.cells #[.int .i64 6, .int .i64 (A : Int), .int .i64 (B : Int), .int .i64 n, .bool p.g, .slice p.a p.n p.c, .slice p.b p.m p.d] 54) = x := ⟨_, rfl⟩
  have br : BoxP wo w.heap.size [.int .i64 6, .int .i64 (A : Int), .int .i64 (B : Int), .int .i64 n, .bool p.g, .slice p.a p.n p.c, .slice p.b p.m p.d] := by rw [← hwo]; exact BoxP.made _ _ _
  have hbo : Below w.heap.size w wo := by rw [← hwo]; exact (Below.refl _ _).alloc (Nat.le_refl _) _
  obtain ⟨wt, hwt⟩ : ∃ x, wo.alloc (.cells #[.int .i64 ii, .slice ta N tc, .slice tb tm td] 25) = x := ⟨_, rfl⟩
  have bt : BoxP wt wo.heap.size [.int .i64 ii, .slice ta N tc, .slice tb tm td] := by rw [← hwt]; exact BoxP.made _ _ _
  have hbt : Below wo.heap.size wo wt := by rw [← hwt]; exact (Below.refl _ _).alloc (Nat.le_refl _) _
  obtain ⟨wR, hwR⟩ : ∃ x, wt.alloc (.cells #[.int .i64 0, .int .i64 0, .int .i64 0, .int .i64 0, .bool false, .slice none 0 0, .slice none 0 0] 54) = x := ⟨_, rfl⟩
  have bR : BoxP wR wt.heap.size [.int .i64 0, .int .i64 0, .int .i64 0, .int .i64 0, .bool false, .slice none 0 0, .slice none 0 0] := by rw [← hwR]; exact BoxP.made _ _ _
  have hbR : Below wt.heap.size wt wR := by rw [← hwR]; exact (Below.refl _ _).alloc (Nat.le_refl _) _
  have hB2 := hbo.trans (hbt.mono hbo.size)
  have hB3 := hB2.trans (hbR.mono hB2.size)
  have HB := hide hB3
  have HBX := hide ((br.below hbt).below hbR)
  have HBT := hide (bt.below hbR)
  have HBR := hide bR
  have HY := hide (hys.below hB3)
  have HLE := hide (And.intro hbo.size hbt.size)
  have HLT := hide (And.intro br.lt bt.lt)
  have KC := ecopyOp_any ⟨6, (A : Int), (B : Int), n, p⟩ wR (ho.below hB3) hx hy
  unfold OcA at KC
  unfold opV at KC
  have HKC := hide KC
  have y0 := (((br.below hbt).below hbR).all 0 _ rfl).1
  have y1 := (((br.below hbt).below hbR).all 1 _ rfl).1
  have y2 := (((br.below hbt).below hbR).all 2 _ rfl).1
  have y3 := (((br.below hbt).below hbR).all 3 _ rfl).1
  have y4 := (((br.below hbt).below hbR).all 4 _ rfl).1
  have y5 := (((br.below hbt).below hbR).all 5 _ rfl).1
  have y6 := (((br.below hbt).below hbR).all 6 _ rfl).1
  have t0 := ((bt.below hbR).all 0 _ rfl).1
  have t1 := ((bt.below hbR).all 1 _ rfl).1
  have t2 := ((bt.below hbR).all 2 _ rfl).1
  unfold opV tapV
  clear br hbo bt hbt bR hbR hB2 hB3 ho hys KC
  go_enter Tryd.func35, Tryd.ntmps35
  go_wp2_with fail
  refine (unhide HKC).mono ?_
  rintro _ w1 ⟨⟨qk, qa, qb, qn, qp⟩, rfl, ⟨e0, e1, e2, e3⟩, hcon, hnq, hfr, b1⟩
  simp only at e0 e1 e2 e3 hnq hfr
  subst e0 e1 e2 e3
  have HCO := hide hcon
  have HNQ := hide (And.intro hnq hfr)
  have HB1 := hide b1
  clear hcon hnq hfr b1 HKC
  try dsimp only
  repeat ((fail_if_success (with_reducible (show Code.wp _ _ _ _ (World.alloc w1 (Obj.cells #[_, _, _, _, _, _, .slice qp.b qp.m qp.d] _))))); (first | go_values | go_skip | go_guarded | go_step | go_upon | go_back))
  have bM : BoxP (w1.alloc (.cells #[.int .i64 6, .int .i64 (A : Int), .int .i64 (B : Int), .int .i64 qn, .bool qp.g, .slice qp.a qp.n qp.c, .slice qp.b qp.m qp.d] 54)) w1.heap.size [.int .i64 6, .int .i64 (A : Int), .int .i64 (B : Int), .int .i64 qn, .bool qp.g, .slice qp.a qp.n qp.c, .slice qp.b qp.m qp.d] := BoxP.made _ _ _
  have hbM : Below w1.heap.size w1 (w1.alloc (.cells #[.int .i64 6, .int .i64 (A : Int), .int .i64 (B : Int), .int .i64 qn, .bool qp.g, .slice qp.a qp.n qp.c, .slice qp.b qp.m qp.d] 54)) := (Below.refl _ _).alloc (Nat.le_refl _) _
  generalize w1.alloc (.cells #[.int .i64 6, .int .i64 (A : Int), .int .i64 (B : Int), .int .i64 qn, .bool qp.g, .slice qp.a qp.n qp.c, .slice qp.b qp.m qp.d] 54) = W2 at *
  have hb2 := (unhide HB1).trans (hbM.mono (unhide HB1).size)
  have y0 := (hb2.cell (World.block_lt_of_cell? _ _ y0)).trans y0
  have y1 := (hb2.cell (World.block_lt_of_cell? _ _ y1)).trans y1
  have y2 := (hb2.cell (World.block_lt_of_cell? _ _ y2)).trans y2
  have y3 := (hb2.cell (World.block_lt_of_cell? _ _ y3)).trans y3
  have y4 := (hb2.cell (World.block_lt_of_cell? _ _ y4)).trans y4
  have y5 := (hb2.cell (World.block_lt_of_cell? _ _ y5)).trans y5
  have y6 := (hb2.cell (World.block_lt_of_cell? _ _ y6)).trans y6
  have t0 := (hb2.cell (World.block_lt_of_cell? _ _ t0)).trans t0
  have t1 := (hb2.cell (World.block_lt_of_cell? _ _ t1)).trans t1
  have t2 := (hb2.cell (World.block_lt_of_cell? _ _ t2)).trans t2
  have HB2 := hide hb2
  have HNW := hide hbM
  have HBM := hide bM
  obtain ⟨X, hX⟩ : ∃ X, w1.heap.size = X := ⟨_, rfl⟩
  rw [hX] at HBM ⊢
  have HX := hide hX
  have HXR := hide (show wR.heap.size ≤ X from by rw [← hX]; exact (unhide HB1).size)
  have bM := unhide HBM
  have m0 := (bM.all 0 _ rfl).1
  have z0 := (bM.all 0 _ rfl).2
  have m1 := (bM.all 1 _ rfl).1
  have z1 := (bM.all 1 _ rfl).2
  have m2 := (bM.all 2 _ rfl).1
  have z2 := (bM.all 2 _ rfl).2
  have m3 := (bM.all 3 _ rfl).1
  have z3 := (bM.all 3 _ rfl).2
  have m4 := (bM.all 4 _ rfl).1
  have z4 := (bM.all 4 _ rfl).2
  have m5 := (bM.all 5 _ rfl).1
  have z5 := (bM.all 5 _ rfl).2
  have m6 := (bM.all 6 _ rfl).1
  have z6 := (bM.all 6 _ rfl).2
  have bR2 := (unhide HBR).below hb2
  have r0 := (bR2.all 0 _ rfl).1
  have u0 := (bR2.all 0 _ rfl).2
  have r1 := (bR2.all 1 _ rfl).1
  have u1 := (bR2.all 1 _ rfl).2
  have r2 := (bR2.all 2 _ rfl).1
  have u2 := (bR2.all 2 _ rfl).2
  have r3 := (bR2.all 3 _ rfl).1
  have u3 := (bR2.all 3 _ rfl).2
  have r4 := (bR2.all 4 _ rfl).1
  have u4 := (bR2.all 4 _ rfl).2
  have r5 := (bR2.all 5 _ rfl).1
  have u5 := (bR2.all 5 _ rfl).2
  have r6 := (bR2.all 6 _ rfl).1
  have u6 := (bR2.all 6 _ rfl).2
  clear bM hbM hb2 bR2 hX
  obtain ⟨R, hR⟩ : ∃ R, wt.heap.size = R := ⟨_, rfl⟩
  have hlt := unhide HLT
  have hXR := unhide HXR
  have hRl := (unhide HBR).lt
  have hne1 : X ≠ wo.heap.size := by omega
  have hne2 : wo.heap.size ≠ X := by omega
  have hne3 : X ≠ w.heap.size := by have := (unhide HLE).1; have := (unhide HLE).2; have := hR; omega
  have hne4 : w.heap.size ≠ X := by omega
  rw [hR] at hRl r0 u0 r1 u1 r2 u2 r3 u3 r4 u4 r5 u5 r6 u6 ⊢
  have hne5 : X ≠ R := by omega
  have hne6 : R ≠ X := by omega
  have hwR : w.heap.size ≤ R := by have := (unhide HLE).1; have := (unhide HLE).2; have := hR; omega
  have hwX : w.heap.size ≤ X := by omega
  have hcq : conQ qp = conQ p := by have := unhide HCO; unfold conO at this; simpa using this
  have hcX : Chg (fun j => j = X) W2 ((W2.setCell ⟨X, 1, none⟩ (.int .i64 ((A : Int) + (N : Int)))).setCell ⟨X, 2, none⟩ (.int .i64 ((B : Int) + (N : Int)))) := (((Chg.refl (fun j => j = X) W2).trans (Chg.of_set (S := fun j => j = X) _ X 1 (.int .i64 ((A : Int) + (N : Int))) rfl)).trans (Chg.of_set (S := fun j => j = X) _ X 2 (.int .i64 ((B : Int) + (N : Int))) rfl))
  have bR3 : BoxP ((W2.setCell ⟨X, 1, none⟩ (.int .i64 ((A : Int) + (N : Int)))).setCell ⟨X, 2, none⟩ (.int .i64 ((B : Int) + (N : Int)))) R [.int .i64 0, .int .i64 0, .int .i64 0, .int .i64 0, .bool false, .slice none 0 0, .slice none 0 0] := by
    have h := ((unhide HBR).below (unhide HB2))
    rw [hR] at h
    exact h.chg hcX hne6
  obtain ⟨bR4, hc4⟩ := seven_set bR3 (.int .i64 6) (.int .i64 ((A : Int) + (N : Int))) (.int .i64 ((B : Int) + (N : Int))) (.int .i64 qn) (.bool qp.g) (.slice qp.a qp.n qp.c) (.slice qp.b qp.m qp.d)
  have p0 := (bR4.all 0 _ rfl).1
  have p1 := (bR4.all 1 _ rfl).1
  have p2 := (bR4.all 2 _ rfl).1
  have p3 := (bR4.all 3 _ rfl).1
  have p4 := (bR4.all 4 _ rfl).1
  have p5 := (bR4.all 5 _ rfl).1
  have p6 := (bR4.all 6 _ rfl).1
  have HCX := hide hcX
  have HC4 := hide hc4
  have HRR := hide hR
  clear hcX bR3 bR4 hc4 hlt hXR
  go_wp2_with fail
  refine bodyPost_ret (v := opV ⟨6, ((A : Int) + (N : Int)), ((B : Int) + (N : Int)), qn, qp⟩) (by simp [opV, blQ, results, Tryd.results35, go_sem, p0, p1, p2, p3, p4, p5, p6]; try rfl) rfl ?_
  have hb := (unhide HB).trans ((unhide HB2).mono (unhide HB).size)
  have hE := (hb.trans ((unhide HCX).below (B := w.heap.size) hb.size (fun k hk e => by omega))).trans ((unhide HC4).below (B := w.heap.size) (by have := (unhide HCX).size; have := hb.size; omega) (fun k hk e => by omega))
  have hlk : ∀ k, nqB qp k → wR.heap.size ≤ k ∧ k < X := fun k hk => ⟨(unhide HNQ).2 k hk, by have := (unhide HNQ).1.lt k hk; have := unhide HX; omega⟩
  refine ⟨_, rfl, ?_, ((((unhide HNQ).1.below (unhide HNW)).st (unhide HCX) (fun k hk e => by have := (hlk k hk).2; omega)).st (unhide HC4) (fun k hk e => by have := (hlk k hk).1; omega)), fun k hk => by have := (hlk k hk).1; have := (unhide HB).size; omega, hE⟩
  unfold bhO
  simp [conO, hcq]
set_option maxRecDepth 100000 in
set_option maxHeartbeats 16000000 in
theorem ebehind_7 (A B : Nat) (n : Int) (p : Nq) (ii : Int) (ta : Option Addr) (N tc : Nat) (tb : Option Addr) (tm td : Nat) (ys : List Int) (w : World) (ho : NqL w p) (hx : p.x.length ≤ 2048) (hy : p.y.length ≤ 2048) (hys : SlI w tb tm td ys) (hN : N ≤ 2048) (hAm : A ≤ 2048) (hBm : B ≤ 2048) :
    Calls Tryd.prog 35 #[opV ⟨7, (A : Int), (B : Int), n, p⟩, tapV ii ta N tc tb tm td] w (ObA w N ys ⟨7, (A : Int), (B : Int), n, p⟩) := by
  obtain ⟨wo, hwo⟩ : ∃ x, w.alloc (.cells #[.int .i64 7, .int .i64 (A : Int), .int .i64 (B : Int), .int .i64 n, .bool p.g, .slice p.a p.n p.c, .slice p.b p.m p.d] 54) = x := ⟨_, rfl⟩
  have br : BoxP wo w.heap.size [.int .i64 7, .int .i64 (A : Int), .int .i64 (B : Int), .int .i64 n, .bool p.g, .slice p.a p.n p.c, .slice p.b p.m p.d] := by rw [← hwo]; exact BoxP.made _ _ _
  have hbo : Below w.heap.size w wo := by rw [← hwo]; exact (Below.refl _ _).alloc (Nat.le_refl _) _
  obtain ⟨wt, hwt⟩ : ∃ x, wo.alloc (.cells #[.int .i64 ii, .slice ta N tc, .slice tb tm td] 25) = x := ⟨_, rfl⟩
  have bt : BoxP wt wo.heap.size [.int .i64 ii, .slice ta N tc, .slice tb tm td] := by rw [← hwt]; exact BoxP.made _ _ _
  have hbt : Below wo.heap.size wo wt := by rw [← hwt]; exact (Below.refl _ _).alloc (Nat.le_refl _) _
  obtain ⟨wR, hwR⟩ : ∃ x, wt.alloc (.cells #[.int .i64 0, .int .i64 0, .int .i64 0, .int .i64 0, .bool false, .slice none 0 0, .slice none 0 0] 54) = x := ⟨_, rfl⟩
  have bR : BoxP wR wt.heap.size [.int .i64 0, .int .i64 0, .int .i64 0, .int .i64 0, .bool false, .slice none 0 0, .slice none 0 0] := by rw [← hwR]; exact BoxP.made _ _ _
  have hbR : Below wt.heap.size wt wR := by rw [← hwR]; exact (Below.refl _ _).alloc (Nat.le_refl _) _
  have hB2 := hbo.trans (hbt.mono hbo.size)
  have hB3 := hB2.trans (hbR.mono hB2.size)
  have HB := hide hB3
  have HBX := hide ((br.below hbt).below hbR)
  have HBT := hide (bt.below hbR)
  have HBR := hide bR
  have HY := hide (hys.below hB3)
  have HLE := hide (And.intro hbo.size hbt.size)
  have HLT := hide (And.intro br.lt bt.lt)
  have KC := ecopyOp_any ⟨7, (A : Int), (B : Int), n, p⟩ wR (ho.below hB3) hx hy
  unfold OcA at KC
  unfold opV at KC
  have HKC := hide KC
  have y0 := (((br.below hbt).below hbR).all 0 _ rfl).1
  have y1 := (((br.below hbt).below hbR).all 1 _ rfl).1
  have y2 := (((br.below hbt).below hbR).all 2 _ rfl).1
  have y3 := (((br.below hbt).below hbR).all 3 _ rfl).1
  have y4 := (((br.below hbt).below hbR).all 4 _ rfl).1
  have y5 := (((br.below hbt).below hbR).all 5 _ rfl).1
  have y6 := (((br.below hbt).below hbR).all 6 _ rfl).1
  have t0 := ((bt.below hbR).all 0 _ rfl).1
  have t1 := ((bt.below hbR).all 1 _ rfl).1
  have t2 := ((bt.below hbR).all 2 _ rfl).1
  unfold opV tapV
  clear br hbo bt hbt bR hbR hB2 hB3 ho hys KC
  go_enter Tryd.func35, Tryd.ntmps35
  go_wp2_with fail
  refine (unhide HKC).mono ?_
  rintro _ w1 ⟨⟨qk, qa, qb, qn, qp⟩, rfl, ⟨e0, e1, e2, e3⟩, hcon, hnq, hfr, b1⟩
  simp only at e0 e1 e2 e3 hnq hfr
  subst e0 e1 e2 e3
  have HCO := hide hcon
  have HNQ := hide (And.intro hnq hfr)
  have HB1 := hide b1
  clear hcon hnq hfr b1 HKC
  try dsimp only
  repeat ((fail_if_success (with_reducible (show Code.wp _ _ _ _ (World.alloc w1 (Obj.cells #[_, _, _, _, _, _, .slice qp.b qp.m qp.d] _))))); (first | go_values | go_skip | go_guarded | go_step | go_upon | go_back))
  have bM : BoxP (w1.alloc (.cells #[.int .i64 7, .int .i64 (A : Int), .int .i64 (B : Int), .int .i64 qn, .bool qp.g, .slice qp.a qp.n qp.c, .slice qp.b qp.m qp.d] 54)) w1.heap.size [.int .i64 7, .int .i64 (A : Int), .int .i64 (B : Int), .int .i64 qn, .bool qp.g, .slice qp.a qp.n qp.c, .slice qp.b qp.m qp.d] := BoxP.made _ _ _
  have hbM : Below w1.heap.size w1 (w1.alloc (.cells #[.int .i64 7, .int .i64 (A : Int), .int .i64 (B : Int), .int .i64 qn, .bool qp.g, .slice qp.a qp.n qp.c, .slice qp.b qp.m qp.d] 54)) := (Below.refl _ _).alloc (Nat.le_refl _) _
  generalize w1.alloc (.cells #[.int .i64 7, .int .i64 (A : Int), .int .i64 (B : Int), .int .i64 qn, .bool qp.g, .slice qp.a qp.n qp.c, .slice qp.b qp.m qp.d] 54) = W2 at *
  have hb2 := (unhide HB1).trans (hbM.mono (unhide HB1).size)
  have y0 := (hb2.cell (World.block_lt_of_cell? _ _ y0)).trans y0
  have y1 := (hb2.cell (World.block_lt_of_cell? _ _ y1)).trans y1
  have y2 := (hb2.cell (World.block_lt_of_cell? _ _ y2)).trans y2
  have y3 := (hb2.cell (World.block_lt_of_cell? _ _ y3)).trans y3
  have y4 := (hb2.cell (World.block_lt_of_cell? _ _ y4)).trans y4
  have y5 := (hb2.cell (World.block_lt_of_cell? _ _ y5)).trans y5
  have y6 := (hb2.cell (World.block_lt_of_cell? _ _ y6)).trans y6
  have t0 := (hb2.cell (World.block_lt_of_cell? _ _ t0)).trans t0
  have t1 := (hb2.cell (World.block_lt_of_cell? _ _ t1)).trans t1
  have t2 := (hb2.cell (World.block_lt_of_cell? _ _ t2)).trans t2
  have HB2 := hide hb2
  have HNW := hide hbM
  have HBM := hide bM
  obtain ⟨X, hX⟩ : ∃ X, w1.heap.size = X := ⟨_, rfl⟩
  rw [hX] at HBM ⊢
  have HX := hide hX
  have HXR := hide (show wR.heap.size ≤ X from by rw [← hX]; exact (unhide HB1).size)
  have bM := unhide HBM
  have m0 := (bM.all 0 _ rfl).1
  have z0 := (bM.all 0 _ rfl).2
  have m1 := (bM.all 1 _ rfl).1
  have z1 := (bM.all 1 _ rfl).2
  have m2 := (bM.all 2 _ rfl).1
  have z2 := (bM.all 2 _ rfl).2
  have m3 := (bM.all 3 _ rfl).1
  have z3 := (bM.all 3 _ rfl).2
  have m4 := (bM.all 4 _ rfl).1
  have z4 := (bM.all 4 _ rfl).2
  have m5 := (bM.all 5 _ rfl).1
  have z5 := (bM.all 5 _ rfl).2
  have m6 := (bM.all 6 _ rfl).1
  have z6 := (bM.all 6 _ rfl).2
  have bR2 := (unhide HBR).below hb2
  have r0 := (bR2.all 0 _ rfl).1
  have u0 := (bR2.all 0 _ rfl).2
  have r1 := (bR2.all 1 _ rfl).1
  have u1 := (bR2.all 1 _ rfl).2
  have r2 := (bR2.all 2 _ rfl).1
  have u2 := (bR2.all 2 _ rfl).2
  have r3 := (bR2.all 3 _ rfl).1
  have u3 := (bR2.all 3 _ rfl).2
  have r4 := (bR2.all 4 _ rfl).1
  have u4 := (bR2.all 4 _ rfl).2
  have r5 := (bR2.all 5 _ rfl).1
  have u5 := (bR2.all 5 _ rfl).2
  have r6 := (bR2.all 6 _ rfl).1
  have u6 := (bR2.all 6 _ rfl).2
  clear bM hbM hb2 bR2 hX
  obtain ⟨R, hR⟩ : ∃ R, wt.heap.size = R := ⟨_, rfl⟩
  have hlt := unhide HLT
  have hXR := unhide HXR
  have hRl := (unhide HBR).lt
  have hne1 : X ≠ wo.heap.size := by omega
  have hne2 : wo.heap.size ≠ X := by omega
  have hne3 : X ≠ w.heap.size := by have := (unhide HLE).1; have := (unhide HLE).2; have := hR; omega
  have hne4 : w.heap.size ≠ X := by omega
  rw [hR] at hRl r0 u0 r1 u1 r2 u2 r3 u3 r4 u4 r5 u5 r6 u6 ⊢
  have hne5 : X ≠ R := by omega
  have hne6 : R ≠ X := by omega
  have hwR : w.heap.size ≤ R := by have := (unhide HLE).1; have := (unhide HLE).2; have := hR; omega
  have hwX : w.heap.size ≤ X := by omega
  have hcq : conQ qp = conQ p := by have := unhide HCO; unfold conO at this; simpa using this
  have hcX : Chg (fun j => j = X) W2 (W2.setCell ⟨X, 1, none⟩ (.int .i64 ((A : Int) + (N : Int)))) := ((Chg.refl (fun j => j = X) W2).trans (Chg.of_set (S := fun j => j = X) _ X 1 (.int .i64 ((A : Int) + (N : Int))) rfl))
  have bR3 : BoxP (W2.setCell ⟨X, 1, none⟩ (.int .i64 ((A : Int) + (N : Int)))) R [.int .i64 0, .int .i64 0, .int .i64 0, .int .i64 0, .bool false, .slice none 0 0, .slice none 0 0] := by
    have h := ((unhide HBR).below (unhide HB2))
    rw [hR] at h
    exact h.chg hcX hne6
  obtain ⟨bR4, hc4⟩ := seven_set bR3 (.int .i64 7) (.int .i64 ((A : Int) + (N : Int))) (.int .i64 (B : Int)) (.int .i64 qn) (.bool qp.g) (.slice qp.a qp.n qp.c) (.slice qp.b qp.m qp.d)
  have p0 := (bR4.all 0 _ rfl).1
  have p1 := (bR4.all 1 _ rfl).1
  have p2 := (bR4.all 2 _ rfl).1
  have p3 := (bR4.all 3 _ rfl).1
  have p4 := (bR4.all 4 _ rfl).1
  have p5 := (bR4.all 5 _ rfl).1
  have p6 := (bR4.all 6 _ rfl).1
  have HCX := hide hcX
  have HC4 := hide hc4
  have HRR := hide hR
  clear hcX bR3 bR4 hc4 hlt hXR
  go_wp2_with fail
  refine bodyPost_ret (v := opV ⟨7, ((A : Int) + (N : Int)), (B : Int), qn, qp⟩) (by simp [opV, blQ, results, Tryd.results35, go_sem, p0, p1, p2, p3, p4, p5, p6]; try rfl) rfl ?_
  have hb := (unhide HB).trans ((unhide HB2).mono (unhide HB).size)
  have hE := (hb.trans ((unhide HCX).below (B := w.heap.size) hb.size (fun k hk e => by omega))).trans ((unhide HC4).below (B := w.heap.size) (by have := (unhide HCX).size; have := hb.size; omega) (fun k hk e => by omega))
  have hlk : ∀ k, nqB qp k → wR.heap.size ≤ k ∧ k < X := fun k hk => ⟨(unhide HNQ).2 k hk, by have := (unhide HNQ).1.lt k hk; have := unhide HX; omega⟩
  refine ⟨_, rfl, ?_, ((((unhide HNQ).1.below (unhide HNW)).st (unhide HCX) (fun k hk e => by have := (hlk k hk).2; omega)).st (unhide HC4) (fun k hk e => by have := (hlk k hk).1; omega)), fun k hk => by have := (hlk k hk).1; have := (unhide HB).size; omega, hE⟩
  unfold bhO
  simp [conO, hcq]
set_option maxRecDepth 100000 in
set_option maxHeartbeats 16000000 in
theorem ebehind_8 (A B : Nat) (n : Int) (p : Nq) (ii : Int) (ta : Option Addr) (N tc : Nat) (tb : Option Addr) (tm td : Nat) (ys : List Int) (w : World) (ho : NqL w p) (hx : p.x.length ≤ 2048) (hy : p.y.length ≤ 2048) (hys : SlI w tb tm td ys) (hN : N ≤ 2048) (hAm : A ≤ 2048) (hBm : B ≤ 2048) :
    Calls Tryd.prog 35 #[opV ⟨8, (A : Int), (B : Int), n, p⟩, tapV ii ta N tc tb tm td] w (ObA w N ys ⟨8, (A : Int), (B : Int), n, p⟩) := by
  obtain ⟨wo, hwo⟩ : ∃ x, w.alloc (.cells #[.int .i64 8, .int .i64 (A : Int), .int .i64 (B : Int), .int .i64 n, .bool p.g, .slice p.a p.n p.c, .slice p.b p.m p.d] 54) = x := ⟨_, rfl⟩
  have br : BoxP wo w.heap.size [.int .i64 8, .int .i64 (A : Int), .int .i64 (B : Int), .int .i64 n, .bool p.g, .slice p.a p.n p.c, .slice p.b p.m p.d] := by rw [← hwo]; exact BoxP.made _ _ _
  have hbo : Below w.heap.size w wo := by rw [← hwo]; exact (Below.refl _ _).alloc (Nat.le_refl _) _
  obtain ⟨wt, hwt⟩ : ∃ x, wo.alloc (.cells #[.int .i64 ii, .slice ta N tc, .slice tb tm td] 25) = x := ⟨_, rfl⟩
  have bt : BoxP wt wo.heap.size [.int .i64 ii, .slice ta N tc, .slice tb tm td] := by rw [← hwt]; exact BoxP.made _ _ _
  have hbt : Below wo.heap.size wo wt := by rw [← hwt]; exact (Below.refl _ _).alloc (Nat.le_refl _) _
  obtain ⟨wR, hwR⟩ : ∃ x, wt.alloc (.cells #[.int .i64 0, .int .i64 0, .int .i64 0, .int .i64 0, .bool false, .slice none 0 0, .slice none 0 0] 54) = x := ⟨_, rfl⟩
  have bR : BoxP wR wt.heap.size [.int .i64 0, .int .i64 0, .int .i64 0, .int .i64 0, .bool false, .slice none 0 0, .slice none 0 0] := by rw [← hwR]; exact BoxP.made _ _ _
  have hbR : Below wt.heap.size wt wR := by rw [← hwR]; exact (Below.refl _ _).alloc (Nat.le_refl _) _
  have hB2 := hbo.trans (hbt.mono hbo.size)
  have hB3 := hB2.trans (hbR.mono hB2.size)
  have HB := hide hB3
  have HBX := hide ((br.below hbt).below hbR)
  have HBT := hide (bt.below hbR)
  have HBR := hide bR
  have HY := hide (hys.below hB3)
  have HLE := hide (And.intro hbo.size hbt.size)
  have HLT := hide (And.intro br.lt bt.lt)
  have KC := ecopyOp_any ⟨8, (A : Int), (B : Int), n, p⟩ wR (ho.below hB3) hx hy
  unfold OcA at KC
  unfold opV at KC
  have HKC := hide KC
  have y0 := (((br.below hbt).below hbR).all 0 _ rfl).1
  have y1 := (((br.below hbt).below hbR).all 1 _ rfl).1
  have y2 := (((br.below hbt).below hbR).all 2 _ rfl).1
  have y3 := (((br.below hbt).below hbR).all 3 _ rfl).1
  have y4 := (((br.below hbt).below hbR).all 4 _ rfl).1
  have y5 := (((br.below hbt).below hbR).all 5 _ rfl).1
  have y6 := (((br.below hbt).below hbR).all 6 _ rfl).1
  have t0 := ((bt.below hbR).all 0 _ rfl).1
  have t1 := ((bt.below hbR).all 1 _ rfl).1
  have t2 := ((bt.below hbR).all 2 _ rfl).1
  unfold opV tapV
  clear br hbo bt hbt bR hbR hB2 hB3 ho hys KC
  go_enter Tryd.func35, Tryd.ntmps35
  go_wp2_with fail
  refine (unhide HKC).mono ?_
  rintro _ w1 ⟨⟨qk, qa, qb, qn, qp⟩, rfl, ⟨e0, e1, e2, e3⟩, hcon, hnq, hfr, b1⟩
  simp only at e0 e1 e2 e3 hnq hfr
  subst e0 e1 e2 e3
  have HCO := hide hcon
  have HNQ := hide (And.intro hnq hfr)
  have HB1 := hide b1
  clear hcon hnq hfr b1 HKC
  try dsimp only
  repeat ((fail_if_success (with_reducible (show Code.wp _ _ _ _ (World.alloc w1 (Obj.cells #[_, _, _, _, _, _, .slice qp.b qp.m qp.d] _))))); (first | go_values | go_skip | go_guarded | go_step | go_upon | go_back))
  have bM : BoxP (w1.alloc (.cells #[.int .i64 8, .int .i64 (A : Int), .int .i64 (B : Int), .int .i64 qn, .bool qp.g, .slice qp.a qp.n qp.c, .slice qp.b qp.m qp.d] 54)) w1.heap.size [.int .i64 8, .int .i64 (A : Int), .int .i64 (B : Int), .int .i64 qn, .bool qp.g, .slice qp.a qp.n qp.c, .slice qp.b qp.m qp.d] := BoxP.made _ _ _
  have hbM : Below w1.heap.size w1 (w1.alloc (.cells #[.int .i64 8, .int .i64 (A : Int), .int .i64 (B : Int), .int .i64 qn, .bool qp.g, .slice qp.a qp.n qp.c, .slice qp.b qp.m qp.d] 54)) := (Below.refl _ _).alloc (Nat.le_refl _) _
  generalize w1.alloc (.cells #[.int .i64 8, .int .i64 (A : Int), .int .i64 (B : Int), .int .i64 qn, .bool qp.g, .slice qp.a qp.n qp.c, .slice qp.b qp.m qp.d] 54) = W2 at *
  have hb2 := (unhide HB1).trans (hbM.mono (unhide HB1).size)
  have y0 := (hb2.cell (World.block_lt_of_cell? _ _ y0)).trans y0
  have y1 := (hb2.cell (World.block_lt_of_cell? _ _ y1)).trans y1
  have y2 := (hb2.cell (World.block_lt_of_cell? _ _ y2)).trans y2
  have y3 := (hb2.cell (World.block_lt_of_cell? _ _ y3)).trans y3
  have y4 := (hb2.cell (World.block_lt_of_cell? _ _ y4)).trans y4
  have y5 := (hb2.cell (World.block_lt_of_cell? _ _ y5)).trans y5
  have y6 := (hb2.cell (World.block_lt_of_cell? _ _ y6)).trans y6
  have t0 := (hb2.cell (World.block_lt_of_cell? _ _ t0)).trans t0
  have t1 := (hb2.cell (World.block_lt_of_cell? _ _ t1)).trans t1
  have t2 := (hb2.cell (World.block_lt_of_cell? _ _ t2)).trans t2
  have HB2 := hide hb2
  have HNW := hide hbM
  have HBM := hide bM
  obtain ⟨X, hX⟩ : ∃ X, w1.heap.size = X := ⟨_, rfl⟩
  rw [hX] at HBM ⊢
  have HX := hide hX
  have HXR := hide (show wR.heap.size ≤ X from by rw [← hX]; exact (unhide HB1).size)
  have bM := unhide HBM
  have m0 := (bM.all 0 _ rfl).1
  have z0 := (bM.all 0 _ rfl).2
  have m1 := (bM.all 1 _ rfl).1
  have z1 := (bM.all 1 _ rfl).2
  have m2 := (bM.all 2 _ rfl).1
  have z2 := (bM.all 2 _ rfl).2
  have m3 := (bM.all 3 _ rfl).1
  have z3 := (bM.all 3 _ rfl).2
  have m4 := (bM.all 4 _ rfl).1
  have z4 := (bM.all 4 _ rfl).2
  have m5 := (bM.all 5 _ rfl).1
  have z5 := (bM.all 5 _ rfl).2
  have m6 := (bM.all 6 _ rfl).1
  have z6 := (bM.all 6 _ rfl).2
  have bR2 := (unhide HBR).below hb2
  have r0 := (bR2.all 0 _ rfl).1
  have u0 := (bR2.all 0 _ rfl).2
  have r1 := (bR2.all 1 _ rfl).1
  have u1 := (bR2.all 1 _ rfl).2
  have r2 := (bR2.all 2 _ rfl).1
  have u2 := (bR2.all 2 _ rfl).2
  have r3 := (bR2.all 3 _ rfl).1
  have u3 := (bR2.all 3 _ rfl).2
  have r4 := (bR2.all 4 _ rfl).1
  have u4 := (bR2.all 4 _ rfl).2
  have r5 := (bR2.all 5 _ rfl).1
  have u5 := (bR2.all 5 _ rfl).2
  have r6 := (bR2.all 6 _ rfl).1
  have u6 := (bR2.all 6 _ rfl).2
  clear bM hbM hb2 bR2 hX
  obtain ⟨R, hR⟩ : ∃ R, wt.heap.size = R := ⟨_, rfl⟩
  have hlt := unhide HLT
  have hXR := unhide HXR
  have hRl := (unhide HBR).lt
  have hne1 : X ≠ wo.heap.size := by omega
  have hne2 : wo.heap.size ≠ X := by omega
  have hne3 : X ≠ w.heap.size := by have := (unhide HLE).1; have := (unhide HLE).2; have := hR; omega
  have hne4 : w.heap.size ≠ X := by omega
  rw [hR] at hRl r0 u0 r1 u1 r2 u2 r3 u3 r4 u4 r5 u5 r6 u6 ⊢
  have hne5 : X ≠ R := by omega
  have hne6 : R ≠ X := by omega
  have hwR : w.heap.size ≤ R := by have := (unhide HLE).1; have := (unhide HLE).2; have := hR; omega
  have hwX : w.heap.size ≤ X := by omega
  have hcq : conQ qp = conQ p := by have := unhide HCO; unfold conO at this; simpa using this
  have hcX : Chg (fun j => j = X) W2 (W2.setCell ⟨X, 1, none⟩ (.int .i64 ((A : Int) + (N : Int)))) := ((Chg.refl (fun j => j = X) W2).trans (Chg.of_set (S := fun j => j = X) _ X 1 (.int .i64 ((A : Int) + (N : Int))) rfl))
  have bR3 : BoxP (W2.setCell ⟨X, 1, none⟩ (.int .i64 ((A : Int) + (N : Int)))) R [.int .i64 0, .int .i64 0, .int .i64 0, .int .i64 0, .bool false, .slice none 0 0, .slice none 0 0] := by
    have h := ((unhide HBR).below (unhide HB2))
    rw [hR] at h
    exact h.chg hcX hne6
  obtain ⟨bR4, hc4⟩ := seven_set bR3 (.int .i64 8) (.int .i64 ((A : Int) + (N : Int))) (.int .i64 (B : Int)) (.int .i64 qn) (.bool qp.g) (.slice qp.a qp.n qp.c) (.slice qp.b qp.m qp.d)
  have p0 := (bR4.all 0 _ rfl).1
  have p1 := (bR4.all 1 _ rfl).1
  have p2 := (bR4.all 2 _ rfl).1
  have p3 := (bR4.all 3 _ rfl).1
  have p4 := (bR4.all 4 _ rfl).1
  have p5 := (bR4.all 5 _ rfl).1
  have p6 := (bR4.all 6 _ rfl).1
  have HCX := hide hcX
  have HC4 := hide hc4
  have HRR := hide hR
  clear hcX bR3 bR4 hc4 hlt hXR
  go_wp2_with fail
  refine bodyPost_ret (v := opV ⟨8, ((A : Int) + (N : Int)), (B : Int), qn, qp⟩) (by simp [opV, blQ, results, Tryd.results35, go_sem, p0, p1, p2, p3, p4, p5, p6]; try rfl) rfl ?_
  have hb := (unhide HB).trans ((unhide HB2).mono (unhide HB).size)
  have hE := (hb.trans ((unhide HCX).below (B := w.heap.size) hb.size (fun k hk e => by omega))).trans ((unhide HC4).below (B := w.heap.size) (by have := (unhide HCX).size; have := hb.size; omega) (fun k hk e => by omega))
  have hlk : ∀ k, nqB qp k → wR.heap.size ≤ k ∧ k < X := fun k hk => ⟨(unhide HNQ).2 k hk, by have := (unhide HNQ).1.lt k hk; have := unhide HX; omega⟩
  refine ⟨_, rfl, ?_, ((((unhide HNQ).1.below (unhide HNW)).st (unhide HCX) (fun k hk e => by have := (hlk k hk).2; omega)).st (unhide HC4) (fun k hk e => by have := (hlk k hk).1; omega)), fun k hk => by have := (hlk k hk).1; have := (unhide HB).size; omega, hE⟩
  unfold bhO
  simp [conO, hcq]
theorem ebehind_any (o : On) (io : Int) (i : Nat) (ii : Int) (ta : Option Addr) (N tc : Nat) (tb : Option Addr) (tm td : Nat) (ys : List Int) (w : World) (ho : NqL w o.p) (hx : o.p.x.length ≤ 2048) (hy : o.p.y.length ≤ 2048) (hys : SlI w tb tm td ys) (hN : N ≤ 2048) (hop : opF io i o = 0) (hi : i ≤ 2048) (hio : io = (tm : Int)) (htm : tm ≤ 64) :
    Calls Tryd.prog 35 #[opV o, tapV ii ta N tc tb tm td] w (ObA w N ys o) := by
  obtain ⟨h1, h2, h3, h4, h5, h6⟩ := op_ok hop
  obtain ⟨kk, a, b, n, p⟩ := o
  simp only at h1 h4 h5 h6 ho hx hy
  have ea : 0 ≤ a ∧ a ≤ 2048 ∧ (kk = 1 → a < tm) := by
    by_cases k1 : kk = 1
    · have := h4 k1; omega
    · by_cases k2 : kk = 2
      · unfold unuO at h3
        simp [k2] at h3
        omega
      · have := h2 a (by
          unfold opsL twoK oneK
          by_cases e : 3 ≤ kk ∧ kk ≤ 6
          · rw [if_pos (by simp; omega)]; simp
          · rw [if_neg (by simp; omega), if_pos (by simp; omega)]; simp)
        omega
  have eb : 0 ≤ b ∧ b ≤ 2048 := by
    by_cases e : 3 ≤ kk ∧ kk ≤ 6
    · have := h2 b (by
        unfold opsL twoK
        rw [if_pos (by simp; omega)]
        simp)
      omega
    · unfold unuO twoK at h3
      simp at h3
      omega
  obtain ⟨A, rfl⟩ : ∃ A : Nat, a = (A : Int) := ⟨a.toNat, by omega⟩
  obtain ⟨B, rfl⟩ : ∃ B : Nat, b = (B : Int) := ⟨b.toNat, by omega⟩
  obtain ⟨j, rfl⟩ : ∃ j : Nat, kk = (j : Int) := ⟨kk.toNat, by omega⟩
  have hA : A ≤ 2048 := by omega
  have hB : B ≤ 2048 := by omega
  match j, (show 1 ≤ j by omega), (show j ≤ 8 by omega), ea with
  | 1, _, _, ea => exact ebehind_1 A B n p ii ta N tc tb tm td ys w ho hx hy hys hN hA hB (by have := ea.2.2 rfl; omega)
  | 2, _, _, _ => exact ebehind_2 A B n p ii ta N tc tb tm td ys w ho hx hy hys hN hA hB
  | 3, _, _, _ => exact ebehind_3 A B n p ii ta N tc tb tm td ys w ho hx hy hys hN hA hB
  | 4, _, _, _ => exact ebehind_4 A B n p ii ta N tc tb tm td ys w ho hx hy hys hN hA hB
  | 5, _, _, _ => exact ebehind_5 A B n p ii ta N tc tb tm td ys w ho hx hy hys hN hA hB
  | 6, _, _, _ => exact ebehind_6 A B n p ii ta N tc tb tm td ys w ho hx hy hys hN hA hB
  | 7, _, _, _ => exact ebehind_7 A B n p ii ta N tc tb tm td ys w ho hx hy hys hN hA hB
  | 8, _, _, _ => exact ebehind_8 A B n p ii ta N tc tb tm td ys w ho hx hy hys hN hA hB
end Go.Proofs.YtiadccaaoenccaaDoor
