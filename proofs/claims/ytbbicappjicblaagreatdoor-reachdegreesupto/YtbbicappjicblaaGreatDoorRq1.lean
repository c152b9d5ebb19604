/- Uba -/
import Derived.Test.YtbbicappjicblaaGreatDoorUb3
import Derived.Test.YtbbicappjicblaaGreatDoorTh1
import Derived.Test.YtbbicappjicblaaGreatDoorTe9
import Derived.Test.YtbbicappjicblaaGreatDoorQGd
import Derived.Test.YtbbicappjicblaaGreatDoorBase
import Derived.OrdersHeld
namespace Go.Proofs.YtbbicappjicblaaGreatDoor
open Go.RowKit Go.Deep
set_option linter.unusedVariables false
set_option linter.unusedSimpArgs false
set_option maxRecDepth 100000 in
set_option maxHeartbeats 4000000 in
theorem rsure_any (s : Int) (a : Option Addr) (n c : Nat) (x : Int) (w : World) : Calls Tryz.prog 70 #[Bs.setV s a n c, .int .i64 x] w fun e w' => e = .returned (Bs.setV s a n c) ∧ Below w.heap.size w w' := by
 obtain ⟨wa, hwa⟩ : ∃ x, w.alloc (.cells #[.int .i64 s, .slice a n c] 82) = x := ⟨_, rfl⟩
 have bx : BoxP wa w.heap.size [.int .i64 s, .slice a n c] := by rw [← hwa]; exact BoxP.made _ _ _
 have hba : Below w.heap.size w wa := by rw [← hwa]; exact (Below.refl _ _).alloc (Nat.le_refl _) _
 have g0 := (bx.all 0 _ rfl).1
 have g1 := (bx.all 1 _ rfl).1
 obtain ⟨wR, hwR⟩ : ∃ x, wa.alloc (.cells #[.int .i64 0, .slice none 0 0] 82) = x := ⟨_, rfl⟩
 have tR : Bs.Two wR wa.heap.size (.int .i64 0) (.slice none 0 0) := by rw [← hwR]; exact Bs.Two.made _ _ _ _
 have hbR : Below wa.heap.size wa wR := by rw [← hwR]; exact (Below.refl _ _).alloc (Nat.le_refl _) _
 have g0 := (hbR.cell (World.block_lt_of_cell? _ _ g0)).trans g0
 have g1 := (hbR.cell (World.block_lt_of_cell? _ _ g1)).trans g1
 have hb2 := hba.trans (hbR.mono hba.size)
 have HE := hide (Bs.two_below hb2 wa.heap.size hba.size (.int .i64 s) (.slice a n c))
 have r0 := tR.c0
 have r1 := tR.c1
 have u0 := tR.f0
 have u1 := tR.f1
 have T3 := tR.set (.int .i64 s) (.slice a n c)
 have p0 := T3.c0
 have p1 := T3.c1
 unfold Bs.setV
 clear hba bx hbR tR hb2 T3
 go_enter Tryz.func70, Tryz.ntmps70
 go_wp2_with fail
 refine bodyPost_ret (v := .agg #[.int .i64 s, .slice a n c]) (by simp [results, Tryz.results70, go_sem, p0, p1]; try rfl) rfl ?_
 exact ⟨rfl, unhide HE⟩
def StA (w : World) (I : Nat) (P : Nat → Bool) (e : Ending) (w' : World) : Prop := ∃ t : Bs.SetC, e = .returned (Bs.setV t.s t.a t.n t.c) ∧ t.s = (I : Int) ∧ Bs.Good I t.xs P ∧ t.Z w' ∧ Below w.heap.size w w'
theorem bs_one (w : World) (x : Int) (e : TypeId) : Bs.SlI (w.alloc (.cells #[.int .i64 x] e)) (some ⟨w.heap.size, 0, none⟩) 1 1 [x] :=
 ⟨rfl, Nat.le_refl _, by unfold maxLen; omega, .inr ⟨w.heap.size, 0, rfl, fun i hi => by
  obtain rfl : i = 0 := by simpa using hi
  simp [Bs.vI]⟩⟩
theorem hgO_zero {I : Nat} {f : Nat → Nat → Bool} {o : On} (hf : ∀ v x, I ≤ x → f v x = false) (h1 : o.k = 1 → 0 ≤ o.a ∧ o.a < (I : Int)) (x : Nat) (hx : I ≤ x) : hgO f o x = false := by
 unfold hgO
 rw [Bool.or_eq_false_iff]
 refine ⟨?_, ?_⟩
 ·rw [Bool.and_eq_false_iff]
  by_cases k1 : o.k = 1
  ·right
   have := h1 k1
   simp
   omega
  ·left
   simpa using k1
 ·rw [List.any_eq_false]
  intro a _
  rw [hf _ x hx]
  decide
set_option maxRecDepth 100000 in
set_option maxHeartbeats 8000000 in
theorem rset_in (I : Nat) (sa : Option Addr) (k sc : Nat) (T : List Bs.SetC) (f : Nat → Nat → Bool) (i : Int) (ta : Option Addr) (tn tc : Nat) (tb : Option Addr) (tm td : Nat) (la : Option Addr) (ln lc : Nat) (o : On) (w : World) (hI : I ≤ 64) (hf : ∀ v x, I ≤ x → f v x = false) (k1 : o.k = 1) (ha : 0 ≤ o.a ∧ o.a < (I : Int)) :
  Calls Tryz.prog 44 #[wkV (I : Int) sa k sc i ta tn tc tb tm td la ln lc, opV o] w (StA w I (hgO f o)) := by
 have hgood : ∀ A : Nat, o.a = (A : Int) → Bs.Good I (Bs.wordsL I (fun x => decide (A = x))) (hgO f o) := fun A hA => ⟨by
   refine Bs.wordsL_congr (fun x _ => ?_)
   unfold hgO opsL twoK oneK
   rw [k1, hA]
   by_cases e : A = x
   ·simp [e]
   ·have : ¬ ((A : Int) = (x : Int)) := by omega
    simp [e, this], hgO_zero hf (fun _ => ha), by omega⟩
 obtain ⟨kk, a, b, n, p⟩ := o
 simp only at k1 ha hgood
 subst k1
 obtain ⟨A, rfl⟩ : ∃ A : Nat, a = (A : Int) := ⟨a.toNat, by omega⟩
 have hg := hgood A rfl
 obtain ⟨wa, hwa⟩ : ∃ x, w.alloc (.cells #[.int .i64 (I : Int), .slice sa k sc, .int .i64 i, .slice ta tn tc, .slice tb tm td, .slice la ln lc] 63) = x := ⟨_, rfl⟩
 have bx : BoxP wa w.heap.size [.int .i64 (I : Int), .slice sa k sc, .int .i64 i, .slice ta tn tc, .slice tb tm td, .slice la ln lc] := by rw [← hwa]; exact BoxP.made _ _ _
 have hba : Below w.heap.size w wa := by rw [← hwa]; exact (Below.refl _ _).alloc (Nat.le_refl _) _
 have x0 := (bx.all 0 _ rfl).1
 have x1 := (bx.all 1 _ rfl).1
 have x2 := (bx.all 2 _ rfl).1
 have x3 := (bx.all 3 _ rfl).1
 have x4 := (bx.all 4 _ rfl).1
 have x5 := (bx.all 5 _ rfl).1
 obtain ⟨wo, hwo⟩ : ∃ x, wa.alloc (.cells #[.int .i64 1, .int .i64 (A : Int), .int .i64 b, .int .i64 n, .bool p.g, .slice p.a p.n p.c, .slice p.b p.m p.d] 73) = x := ⟨_, rfl⟩
 have br : BoxP wo wa.heap.size [.int .i64 1, .int .i64 (A : Int), .int .i64 b, .int .i64 n, .bool p.g, .slice p.a p.n p.c, .slice p.b p.m p.d] := by rw [← hwo]; exact BoxP.made _ _ _
 have hbo : Below wa.heap.size wa wo := by rw [← hwo]; exact (Below.refl _ _).alloc (Nat.le_refl _) _
 have x0 := (hbo.cell (World.block_lt_of_cell? _ _ x0)).trans x0
 have x1 := (hbo.cell (World.block_lt_of_cell? _ _ x1)).trans x1
 have x2 := (hbo.cell (World.block_lt_of_cell? _ _ x2)).trans x2
 have x3 := (hbo.cell (World.block_lt_of_cell? _ _ x3)).trans x3
 have x4 := (hbo.cell (World.block_lt_of_cell? _ _ x4)).trans x4
 have x5 := (hbo.cell (World.block_lt_of_cell? _ _ x5)).trans x5
 have y0 := (br.all 0 _ rfl).1
 have y1 := (br.all 1 _ rfl).1
 have y2 := (br.all 2 _ rfl).1
 have y3 := (br.all 3 _ rfl).1
 have y4 := (br.all 4 _ rfl).1
 have y5 := (br.all 5 _ rfl).1
 have y6 := (br.all 6 _ rfl).1
 have hB2 := hba.trans (hbo.mono hba.size)
 obtain ⟨wR, hwR⟩ : ∃ x, wo.alloc (.cells #[.int .i64 0, .slice none 0 0] 82) = x := ⟨_, rfl⟩
 have tR : Bs.Two wR wo.heap.size (.int .i64 0) (.slice none 0 0) := by rw [← hwR]; exact Bs.Two.made _ _ _ _
 have hbR : Below wo.heap.size wo wR := by rw [← hwR]; exact (Below.refl _ _).alloc (Nat.le_refl _) _
 have HB := hide (hB2.trans (hbR.mono hB2.size))
 have HG := hide hg
 have HTR := hide tR
 have r0 := tR.c0
 have r1 := tR.c1
 have u0 := tR.f0
 have u1 := tR.f1
 have KM := Bs.make_new (I : Int) (some ⟨wR.heap.size, 0, none⟩) 1 1 [(A : Int)] (wR.alloc (.cells #[.int .i64 (A : Int)] 3)) (bs_one wR (A : Int) 3)
 rw [Bs.make_one (by omega) (show A < I by omega)] at KM
 unfold Bs.ResZ at KM
 have HKM := hide KM
 have HSU := hide rsure_any
 unfold Bs.setV at HKM HSU
 have x0 := (hbR.cell (World.block_lt_of_cell? _ _ x0)).trans x0
 have x1 := (hbR.cell (World.block_lt_of_cell? _ _ x1)).trans x1
 have x2 := (hbR.cell (World.block_lt_of_cell? _ _ x2)).trans x2
 have x3 := (hbR.cell (World.block_lt_of_cell? _ _ x3)).trans x3
 have x4 := (hbR.cell (World.block_lt_of_cell? _ _ x4)).trans x4
 have x5 := (hbR.cell (World.block_lt_of_cell? _ _ x5)).trans x5
 have y0 := (hbR.cell (World.block_lt_of_cell? _ _ y0)).trans y0
 have y1 := (hbR.cell (World.block_lt_of_cell? _ _ y1)).trans y1
 have y2 := (hbR.cell (World.block_lt_of_cell? _ _ y2)).trans y2
 have y3 := (hbR.cell (World.block_lt_of_cell? _ _ y3)).trans y3
 have y4 := (hbR.cell (World.block_lt_of_cell? _ _ y4)).trans y4
 have y5 := (hbR.cell (World.block_lt_of_cell? _ _ y5)).trans y5
 have y6 := (hbR.cell (World.block_lt_of_cell? _ _ y6)).trans y6
 unfold wkV opV
 clear bx br hba hbo hf hgood hg KM hbR tR hB2
 go_enter Tryz.func44, Tryz.ntmps44
 go_wp2_with fail
 refine (unhide HKM).mono ?_
 rintro _ w1 ⟨ma, mn, mc, rfl, hw1, b1, ho1⟩
 have b1 := ((Below.refl _ wR).alloc (Nat.le_refl _) (.cells #[.int .i64 (A : Int)] 3)).trans (b1.mono (by simp))
 have HW1 := hide (And.intro hw1 ho1)
 have HB1 := hide b1
 clear hw1 ho1 b1 HKM
 go_wp2_with fail
 refine (unhide HSU _ _ _ _ _ _).mono ?_
 rintro _ w2 ⟨rfl, bs⟩
 have b2 := (unhide HB1).trans (bs.mono (unhide HB1).size)
 have t2 := (unhide HTR).keep b2
 have r0 := t2.c0
 have r1 := t2.c1
 have u0 := t2.f0
 have u1 := t2.f1
 have hle : w.heap.size ≤ wo.heap.size := by rw [← hwo, ← hwa]; simp; omega
 have HE := hide (Bs.two_below ((unhide HB).trans (b2.mono (unhide HB).size)) wo.heap.size hle (.int .i64 (I : Int)) (.slice ma mn mc))
 have T3 := t2.set (.int .i64 (I : Int)) (.slice ma mn mc)
 have p0 := T3.c0
 have p1 := T3.c1
 have HSW := hide (Bs.SlW.two ((unhide HW1).1.below bs) t2 (.int .i64 (I : Int)) (.slice ma mn mc))
 clear bs b2 t2 T3 HSU HB1 HTR
 go_wp2_with fail
 refine bodyPost_ret (v := .agg #[.int .i64 (I : Int), .slice ma mn mc]) (by simp [results, Tryz.results44, go_sem, p0, p1]; try rfl) rfl ?_
 exact ⟨⟨(I : Int), ma, mn, mc, _⟩, rfl, rfl, unhide HG, ⟨⟨unhide HSW, (unhide HG).ok⟩, (unhide HW1).2⟩, unhide HE⟩
theorem Tryz.info_setU : (Tryz.prog.info? 82).map (fun i => (i.zero, i.size, i.bytes)) = some (some (.agg #[.int .i64 0, .slice none 0 0]), 2, 32) := by kernel_rfl
set_option maxRecDepth 100000 in
set_option maxHeartbeats 16000000 in
theorem rset_ops (I : Nat) (sa : Option Addr) (k sc : Nat) (T : List Bs.SetC) (f : Nat → Nat → Bool) (i : Int) (ta : Option Addr) (tn tc : Nat) (tb : Option Addr) (tm td : Nat) (la : Option Addr) (ln lc : Nat) (o : On) (w : World) (hT : WkT I k T f) (hs : Bs.SlS w sa k sc T) (hz : ∀ e ∈ T, e.Z w) (hI : I ≤ 64) (hf : ∀ v x, I ≤ x → f v x = false) (h1 : 1 ≤ o.k) (h8 : o.k ≤ 8) (k1 : o.k ≠ 1) (ho : ∀ v ∈ opsL o, 0 ≤ v ∧ v < (k : Int)) :
  Calls Tryz.prog 44 #[wkV (I : Int) sa k sc i ta tn tc tb tm td la ln lc, opV o] w (StA w I (hgO f o)) := by
 have hgood : Bs.Good I (Bs.wordsL I (fun x => (opsL o).any (fun a => f a.toNat x))) (hgO f o) := ⟨by
   refine Bs.wordsL_congr (fun x _ => ?_)
   unfold hgO
   rw [show decide (o.k = 1) = false from by simpa using k1, Bool.false_and, Bool.false_or], hgO_zero hf (fun h => absurd h k1), by omega⟩
 obtain ⟨wa, hwa⟩ : ∃ x, w.alloc (.cells #[.int .i64 (I : Int), .slice sa k sc, .int .i64 i, .slice ta tn tc, .slice tb tm td, .slice la ln lc] 63) = x := ⟨_, rfl⟩
 have bx : BoxP wa w.heap.size [.int .i64 (I : Int), .slice sa k sc, .int .i64 i, .slice ta tn tc, .slice tb tm td, .slice la ln lc] := by rw [← hwa]; exact BoxP.made _ _ _
 have hba : Below w.heap.size w wa := by rw [← hwa]; exact (Below.refl _ _).alloc (Nat.le_refl _) _
 have x0 := (bx.all 0 _ rfl).1
 have x1 := (bx.all 1 _ rfl).1
 have x2 := (bx.all 2 _ rfl).1
 have x3 := (bx.all 3 _ rfl).1
 have x4 := (bx.all 4 _ rfl).1
 have x5 := (bx.all 5 _ rfl).1
 obtain ⟨wo, hwo⟩ : ∃ x, wa.alloc (.cells #[.int .i64 o.k, .int .i64 o.a, .int .i64 o.b, .int .i64 o.n, .bool o.p.g, .slice o.p.a o.p.n o.p.c, .slice o.p.b o.p.m o.p.d] 73) = x := ⟨_, rfl⟩
 have br : BoxP wo wa.heap.size [.int .i64 o.k, .int .i64 o.a, .int .i64 o.b, .int .i64 o.n, .bool o.p.g, .slice o.p.a o.p.n o.p.c, .slice o.p.b o.p.m o.p.d] := by rw [← hwo]; exact BoxP.made _ _ _
 have hbo : Below wa.heap.size wa wo := by rw [← hwo]; exact (Below.refl _ _).alloc (Nat.le_refl _) _
 have x0 := (hbo.cell (World.block_lt_of_cell? _ _ x0)).trans x0
 have x1 := (hbo.cell (World.block_lt_of_cell? _ _ x1)).trans x1
 have x2 := (hbo.cell (World.block_lt_of_cell? _ _ x2)).trans x2
 have x3 := (hbo.cell (World.block_lt_of_cell? _ _ x3)).trans x3
 have x4 := (hbo.cell (World.block_lt_of_cell? _ _ x4)).trans x4
 have x5 := (hbo.cell (World.block_lt_of_cell? _ _ x5)).trans x5
 have y0 := (br.all 0 _ rfl).1
 have y1 := (br.all 1 _ rfl).1
 have y2 := (br.all 2 _ rfl).1
 have y3 := (br.all 3 _ rfl).1
 have y4 := (br.all 4 _ rfl).1
 have y5 := (br.all 5 _ rfl).1
 have y6 := (br.all 6 _ rfl).1
 have hB2 := hba.trans (hbo.mono hba.size)
 obtain ⟨wR, hwR⟩ : ∃ x, wo.alloc (.cells #[.int .i64 0, .slice none 0 0] 82) = x := ⟨_, rfl⟩
 have tR : Bs.Two wR wo.heap.size (.int .i64 0) (.slice none 0 0) := by rw [← hwR]; exact Bs.Two.made _ _ _ _
 have hbR : Below wo.heap.size wo wR := by rw [← hwR]; exact (Below.refl _ _).alloc (Nat.le_refl _) _
 have hB3 := hB2.trans (hbR.mono hB2.size)
 have HB := hide hB3
 have HTR := hide tR
 have HG := hide hgood
 have HS := hide (hs.below hB3)
 have HZ := hide (show ∀ e ∈ T, e.Z wR from fun e he => (hz e he).below hB3)
 have HT := hide hT
 have HOP := hide ho
 have HRO := hide (roperands_any o h1 h8)
 have HSU := hide rsure_any
 have k1' : (o.k == 1) = false := by simpa using k1
 have hle : w.heap.size ≤ wo.heap.size := by rw [← hwo, ← hwa]; simp; omega
 have HLE := hide hle
 obtain ⟨i32, hi, hz0, hsi, hb⟩ := info_parts Tryz.info_setU
 have HI := hide (And.intro hi (And.intro hz0 (And.intro hsi hb)))
 have x0 := (hbR.cell (World.block_lt_of_cell? _ _ x0)).trans x0
 have x1 := (hbR.cell (World.block_lt_of_cell? _ _ x1)).trans x1
 have x2 := (hbR.cell (World.block_lt_of_cell? _ _ x2)).trans x2
 have x3 := (hbR.cell (World.block_lt_of_cell? _ _ x3)).trans x3
 have x4 := (hbR.cell (World.block_lt_of_cell? _ _ x4)).trans x4
 have x5 := (hbR.cell (World.block_lt_of_cell? _ _ x5)).trans x5
 have y0 := (hbR.cell (World.block_lt_of_cell? _ _ y0)).trans y0
 have y1 := (hbR.cell (World.block_lt_of_cell? _ _ y1)).trans y1
 have y2 := (hbR.cell (World.block_lt_of_cell? _ _ y2)).trans y2
 have y3 := (hbR.cell (World.block_lt_of_cell? _ _ y3)).trans y3
 have y4 := (hbR.cell (World.block_lt_of_cell? _ _ y4)).trans y4
 have y5 := (hbR.cell (World.block_lt_of_cell? _ _ y5)).trans y5
 have y6 := (hbR.cell (World.block_lt_of_cell? _ _ y6)).trans y6
 unfold Bs.setV at HSU
 unfold opV at HRO
 unfold wkV opV
 clear bx br hba hbo hbR tR hB2 hB3 hgood hs hz hT ho hf hi hz0 hsi hb hle
 go_enter Tryz.func44, Tryz.ntmps44
 go_wp2_with fail
 refine (unhide HRO _).mono ?_
 rintro _ w1 ⟨z, m, c, rfl, hzl, _, b1⟩
 have hml := hzl.len
 have HZL := hide hzl
 have HB1 := hide b1
 have x0 := (b1.cell (World.block_lt_of_cell? _ _ x0)).trans x0
 have x1 := (b1.cell (World.block_lt_of_cell? _ _ x1)).trans x1
 have x2 := (b1.cell (World.block_lt_of_cell? _ _ x2)).trans x2
 have x3 := (b1.cell (World.block_lt_of_cell? _ _ x3)).trans x3
 have x4 := (b1.cell (World.block_lt_of_cell? _ _ x4)).trans x4
 have x5 := (b1.cell (World.block_lt_of_cell? _ _ x5)).trans x5
 have hmo : (opsL o).length ≤ 2 := opsL_len o
 have hm2 : m ≤ 2 := by omega
 have HML := hide hml
 clear hzl b1 HRO hml hmo
 go_wp2_with fail
 obtain ⟨G, hG⟩ : ∃ G : Int → Bs.SetC, G = fun x => T.getD x.toNat .nul := ⟨_, rfl⟩
 have HGG := hide hG
 clear hG
 go_loopw [24, 5] (fun iv bv wr => ∃ q : Nat, q ≤ m ∧ iv = .int .i64 (q : Int) ∧ Hid (Bs.GrT w1 wr bv (((opsL o).take q).map G))) (fun iv _ _ => m - (intOf iv).toNat)
 case atStart => exact ⟨0, Nat.zero_le _, rfl, hide (by simpa using Bs.GrT.start w1)⟩
 case round =>
  obtain ⟨q, hq, rfl, HV⟩ := hrel
  have x0 := ((unhide HV).bel.cell (World.block_lt_of_cell? _ _ x0)).trans x0
  have x1 := ((unhide HV).bel.cell (World.block_lt_of_cell? _ _ x1)).trans x1
  have x2 := ((unhide HV).bel.cell (World.block_lt_of_cell? _ _ x2)).trans x2
  have x3 := ((unhide HV).bel.cell (World.block_lt_of_cell? _ _ x3)).trans x3
  have x4 := ((unhide HV).bel.cell (World.block_lt_of_cell? _ _ x4)).trans x4
  have x5 := ((unhide HV).bel.cell (World.block_lt_of_cell? _ _ x5)).trans x5
  have hlS : (((opsL o).take q).map G).length = q := by have := unhide HML; simp; omega
  by_cases hlt : q < m
  ·have hlt' : (q : Int) < (m : Int) := by omega
   have hql : q < (opsL o).length := by have := unhide HML; omega
   obtain ⟨zb, zo, rfl, hc⟩ := ((unhide HZL).below (unhide HV).bel).at (by omega)
   have sk := hc q hlt
   have hxm : (opsL o).getD q 0 ∈ opsL o := by rw [List.getD_eq_getElem?_getD, List.getElem?_eq_getElem hql]; exact List.getElem_mem hql
   have hxr := unhide HOP _ hxm
   obtain ⟨v, hv⟩ : ∃ v : Nat, (opsL o).getD q 0 = (v : Int) := ⟨((opsL o).getD q 0).toNat, by omega⟩
   rw [hv] at sk hxr
   have hvk : v < k := by omega
   have hvk' : (v : Int) < (k : Int) := by omega
   obtain ⟨t, ht⟩ : ∃ t, T.getD v .nul = t := ⟨_, rfl⟩
   have HX := hide (show ((opsL o).take (q + 1)).map G = ((opsL o).take q).map G ++ [t] from by
    rw [take_next hql, hv, List.map_append, List.map_cons, List.map_nil, unhide HGG, ← ht]; rfl)
   have hbw := (unhide HB1).trans ((unhide HV).bel.mono (unhide HB1).size)
   obtain ⟨sb, so, rfl, hsc⟩ := ((unhide HS).below hbw).at (by omega)
   have g0 := (hsc v hvk).1
   have g1 := (hsc v hvk).2
   have hzt : t.Z wr := by
    rw [← ht]
    exact (unhide HZ _ ((unhide HT).mem hvk)).below hbw
   rw [ht] at g0 g1
   obtain ⟨S, hS⟩ : ∃ S, ((opsL o).take q).map G = S := ⟨_, rfl⟩
   rw [hS] at HV HX hlS
   have HO1 := hide ((unhide HV).below ((Below.refl wr.heap.size wr).alloc (Nat.le_refl _) (.cells #[.int .i64 t.s, .slice t.a t.n t.c] 82))).own
   have HSt := hide (fun (w3 : World) (v2 : Value) hnz hg hown => (unhide HV).step (w1 := wr) (w2 := w3) (v2 := v2) (t := t) (Below.refl _ _) hzt hnz hg hown)
   have hl2 : w1.heap.size ≤ wr.heap.size := (unhide HV).bel.size
   clear hc hxm hxr hv ht hbw hsc hzt hS hql
   go_wp2_with (at_builtin; refine wpList_append_lies _ rfl _ _ 38 rfl w1.heap.size 82 i32 (.agg #[.int .i64 0, .slice none 0 0]) 2 32 Tryz.underlying38 (unhide HI).1 (unhide HI).2.1 (unhide HI).2.2.1 (unhide HI).2.2.2 rfl (by decide) _ S.length (Bs.flatS S) rfl (unhide HO1) ⟨wr.heap.size, 0, none⟩ 1 1 [.int .i64 t.s, .slice t.a t.n t.c] rfl rfl (World.news_of_block (alloc_block _ _)) ?c21 (by decide) ?c31 ?c41 ?c51 (wr.heap.size + 1) (by simp) ?_)
   case c21 => first | (intro u hu; simp at hu; rcases hu with rfl | rfl <;> rfl) | exact ⟨rfl, rfl⟩
   case c31 => unfold maxLen; omega
   case c41 => omega
   case c51 => first | omega | (simp; omega)
   intro g cap w3 hown hg hat hlt2
   have HS2 := hide (unhide HSt w3 (.slice (some ⟨g, 0, none⟩) (q + 1) cap) (by intro h; cases h) hg (by rw [hlS]; exact hown))
   rw [← unhide HX] at HS2
   clear hown hg hat hlt2 HO1 HSt
   go_wp2_with fail
   exact ⟨⟨q + 1, by omega, by (first | rfl | go_num), HS2⟩, by simp [intOf]; omega⟩
  ·obtain rfl : q = m := by omega
   have hlt' : ¬ (q : Int) < (q : Int) := by omega
   have htk : (opsL o).take q = opsL o := List.take_of_length_le (by have := unhide HML; omega)
   rw [htk] at HV hlS
   obtain ⟨ba, bc, rfl, hsl⟩ := (unhide HV).sl (by rw [hlS]; unfold maxLen; omega)
   rw [hlS] at hsl ⊢
   have KU := Bs.union_new (I : Int) ba q bc ((opsL o).map G) wr hsl
   rw [Bs.union_ix (by omega) (opsL o) G (fun a x => f a.toNat x) (fun a ha => by
    rw [unhide HGG]
    have := unhide HOP a ha
    exact (unhide HT).get a.toNat (by omega))] at KU
   unfold Bs.ResZ Bs.setV at KU
   have HKU := hide KU
   have HBV := hide ((unhide HB1).trans ((unhide HV).bel.mono (unhide HB1).size))
   clear hsl KU HV htk
   go_wp2_with fail
   refine (unhide HKU).mono ?_
   rintro _ w2 ⟨ma, mn, mc, rfl, hw1, b2, ho1⟩
   have HW1 := hide (And.intro hw1 ho1)
   have HB2 := hide ((unhide HBV).trans (b2.mono (unhide HBV).size))
   clear hw1 ho1 b2 HKU
   go_wp2_with fail
   refine (unhide HSU _ _ _ _ _ _).mono ?_
   rintro _ w3 ⟨rfl, bs⟩
   have b3 := (unhide HB2).trans (bs.mono (unhide HB2).size)
   have t2 := (unhide HTR).keep b3
   have r0 := t2.c0
   have r1 := t2.c1
   have u0 := t2.f0
   have u1 := t2.f1
   have HE := hide (Bs.two_below ((unhide HB).trans (b3.mono (unhide HB).size)) wo.heap.size (unhide HLE) (.int .i64 (I : Int)) (.slice ma mn mc))
   have T3 := t2.set (.int .i64 (I : Int)) (.slice ma mn mc)
   have p0 := T3.c0
   have p1 := T3.c1
   have HSW := hide (Bs.SlW.two ((unhide HW1).1.below bs) t2 (.int .i64 (I : Int)) (.slice ma mn mc))
   clear bs b3 t2 T3 HSU HB2
   go_wp2_with fail
   refine bodyPost_ret (v := .agg #[.int .i64 (I : Int), .slice ma mn mc]) (by simp [results, Tryz.results44, go_sem, p0, p1]; try rfl) rfl ?_
   exact ⟨⟨(I : Int), ma, mn, mc, _⟩, rfl, rfl, unhide HG, ⟨⟨unhide HSW, (unhide HG).ok⟩, (unhide HW1).2⟩, unhide HE⟩
theorem rset_any (I : Nat) (sa : Option Addr) (k sc : Nat) (T : List Bs.SetC) (f : Nat → Nat → Bool) (i : Int) (ta : Option Addr) (tn tc : Nat) (tb : Option Addr) (tm td : Nat) (la : Option Addr) (ln lc : Nat) (o : On) (w : World) (hT : WkT I k T f) (hs : Bs.SlS w sa k sc T) (hz : ∀ e ∈ T, e.Z w) (hI : I ≤ 64) (hf : ∀ v x, I ≤ x → f v x = false) (h1 : 1 ≤ o.k) (h8 : o.k ≤ 8) (ha : o.k = 1 → 0 ≤ o.a ∧ o.a < (I : Int)) (ho : ∀ v ∈ opsL o, 0 ≤ v ∧ v < (k : Int)) :
  Calls Tryz.prog 44 #[wkV (I : Int) sa k sc i ta tn tc tb tm td la ln lc, opV o] w (StA w I (hgO f o)) := by
 by_cases k1 : o.k = 1
 ·exact rset_in I sa k sc T f i ta tn tc tb tm td la ln lc o w hI hf k1 (ha k1)
 ·exact rset_ops I sa k sc T f i ta tn tc tb tm td la ln lc o w hT hs hz hI hf h1 h8 k1 ho
end Go.Proofs.YtbbicappjicblaaGreatDoor
namespace Go.Proofs.YtbbicappjicblaaGreatDoor
open Go.RowKit Go.Deep
set_option linter.unusedVariables false
set_option maxRecDepth 100000 in
set_option maxHeartbeats 16000000 in
theorem tLive_no (i : Int) (a : Option Addr) (n c : Nat) (os : List On) (b : Option Addr) (m d : Nat) (ys : List Int) (w : World) (hs : SlO w a n c os) (hy : SlI w b m d ys) (hT : Tab64 w) (hS : TabSh w) (he : (chF i os ys).2 ≠ 0) :
  Calls Tryz.prog 42 #[tapV i a n c b m d] w fun e w' => e = .returned (.tuple #[.slice none 0 0, .int .i64 (chF i os ys).2]) ∧ Below w.heap.size w w' := by
 obtain ⟨wa, hwa⟩ : ∃ x, w.alloc (.cells #[.int .i64 i, .slice a n c, .slice b m d] 25) = x := ⟨_, rfl⟩
 have bx : BoxP wa w.heap.size [.int .i64 i, .slice a n c, .slice b m d] := by rw [← hwa]; exact BoxP.made _ _ _
 have hba : Below w.heap.size w wa := by rw [← hwa]; exact (Below.refl _ _).alloc (Nat.le_refl _) _
 have g0 := (bx.all 0 _ rfl).1
 have g1 := (bx.all 1 _ rfl).1
 have g2 := (bx.all 2 _ rfl).1
 have K0 := tchk_any i a n c os b m d ys wa (hs.below hba) (hy.below hba) (hT.below hba) (hS.below hba)
 obtain ⟨z, hz⟩ : ∃ z, (chF i os ys).2 = z := ⟨_, rfl⟩
 obtain ⟨z1, hz1⟩ : ∃ z, (chF i os ys).1 = z := ⟨_, rfl⟩
 rw [hz] at K0 he ⊢
 have he' : (z != 0) = true := by simpa using he
 have HC := hide K0
 have HB := hide hba
 unfold tapV at HC ⊢
 clear bx hba K0 hs hy hT hS he hz hz1
 go_enter Tryz.func42, Tryz.ntmps42
 go_wp2_with fail
 refine (unhide HC).mono ?_
 rintro _ w1 ⟨rfl, b1⟩
 have HB1 := hide ((unhide HB).trans (b1.mono (unhide HB).size))
 clear b1 HC
 go_wp2_with fail
 try go_ret2
 exact ⟨rfl, unhide HB1⟩
set_option maxRecDepth 100000 in
set_option maxHeartbeats 16000000 in
theorem tLive_yes (i : Int) (a : Option Addr) (n c : Nat) (os : List On) (b : Option Addr) (m d : Nat) (ys : List Int) (w : World) (hs : SlO w a n c os) (hy : SlI w b m d ys) (hT : Tab64 w) (hS : TabSh w) (he : (chF i os ys).2 = 0) :
  Calls Tryz.prog 42 #[tapV i a n c b m d] w fun e w' => ∃ g, e = .returned (.tuple #[.slice (some ⟨g, 0, none⟩) n n, .int .i64 0]) ∧ w.heap.size ≤ g ∧ RoV w' g n (fun v => .bool (mkB (lvL os ys n) v)) ∧ Below w.heap.size w w' := by
 obtain ⟨wa, hwa⟩ : ∃ x, w.alloc (.cells #[.int .i64 i, .slice a n c, .slice b m d] 25) = x := ⟨_, rfl⟩
 have bx : BoxP wa w.heap.size [.int .i64 i, .slice a n c, .slice b m d] := by rw [← hwa]; exact BoxP.made _ _ _
 have hba : Below w.heap.size w wa := by rw [← hwa]; exact (Below.refl _ _).alloc (Nat.le_refl _) _
 have g0 := (bx.all 0 _ rfl).1
 have g1 := (bx.all 1 _ rfl).1
 have g2 := (bx.all 2 _ rfl).1
 have K0 := tchk_any i a n c os b m d ys wa (hs.below hba) (hy.below hba) (hT.below hba) (hS.below hba)
 obtain ⟨z1, hz1⟩ : ∃ z, (chF i os ys).1 = z := ⟨_, rfl⟩
 rw [he] at K0
 have HC := hide K0
 have HB := hide hba
 have HU := hide (fun (W : World) (hb : Below wa.heap.size wa W) => tlive_any i a n c os b m d ys W ((hs.below hba).below hb) ((hy.below hba).below hb) (TpOk.of he))
 unfold tapV at HC ⊢
 try unfold tapV at HU
 clear bx hba K0 hs hy hT hS he hz1
 go_enter Tryz.func42, Tryz.ntmps42
 go_wp2_with fail
 refine (unhide HC).mono ?_
 rintro _ w1 ⟨rfl, b1⟩
 have g0 := (b1.cell (World.block_lt_of_cell? _ _ g0)).trans g0
 have g1 := (b1.cell (World.block_lt_of_cell? _ _ g1)).trans g1
 have g2 := (b1.cell (World.block_lt_of_cell? _ _ g2)).trans g2
 have HB1 := hide ((unhide HB).trans (b1.mono (unhide HB).size))
 have HUU := hide (unhide HU w1 b1)
 clear b1 HC
 go_wp2_with fail
 refine (unhide HUU).mono ?_
 rintro _ w2 ⟨g, rfl, hg, hR, b2⟩
 have HR := hide (And.intro hg (And.intro hR b2))
 clear hg hR b2 HUU
 go_wp2_with fail
 try go_ret2
 exact ⟨g, rfl, Nat.le_trans (unhide HB1).size (unhide HR).1, (unhide HR).2.1, (unhide HB1).trans ((unhide HR).2.2.mono (unhide HB1).size)⟩
end Go.Proofs.YtbbicappjicblaaGreatDoor
namespace Go.Proofs.YtbbicappjicblaaGreatDoor.Bs
open Go.RowKit Go.Deep
set_option linter.unusedVariables false
theorem chg_thenC {S T : Nat → Prop} {a b c : World} (h : Chg S a b) (k : Chg T b c) (hs : ∀ k, k < a.heap.size → ¬ S k → ¬ T k) : Chg S a c :=
 ⟨k.os.trans h.os, k.tape.trans h.tape, k.output.trans h.output, Nat.le_trans h.size k.size, fun i hi hS => (k.block i (Nat.lt_of_lt_of_le hi h.size) (hs i hi hS)).trans (h.block i hi hS)⟩
theorem ownsRow_chgC {S : Nat → Prop} {w w' : World} {base : Nat} {e : TypeId} {size : Nat} {v : Value} {n : Nat} {xs : List Value} (h : w.ownsRow base e size v n xs) (k : Chg S w w') (hs : ∀ k, v.ownBlock = some k → ¬ S k) : w'.ownsRow base e size v n xs := by
 refine ⟨h.1, h.2.imp id ?_⟩
 rintro ⟨g, cap, cur, rfl, hb, hg, h1, h2, h3, h4⟩
 refine ⟨g, cap, cur, rfl, hb, ?_, h1, h2, h3, h4⟩
 have hlt : g < w.heap.size := by
  rcases Nat.lt_or_ge g w.heap.size with hlt | hge
  ·exact hlt
  ·rw [Array.getElem?_eq_none hge] at hg; cases hg
 rw [k.block g hlt (hs g rfl)]; exact hg
structure GrC (S : Nat → Prop) (w wr : World) (v : Value) (T : List SetC) : Prop where
 nil : T.length = 0 → v = .slice none 0 0
 own : wr.ownsRow w.heap.size 82 2 v T.length (flatS T)
 ins : ∀ e ∈ T, e.Z wr
 bel : Chg S w wr
theorem GrC.start (S : Nat → Prop) (w : World) : GrC S w w (.slice none 0 0) [] := ⟨fun _ => rfl, World.ownsRow_nil _ _ _ _, (fun e he => by cases he), Chg.refl _ _⟩
theorem GrC.below {S : Nat → Prop} {w wr w1 : World} {v : Value} {T : List SetC} (h : GrC S w wr v T) (hb : Below wr.heap.size wr w1) : GrC S w w1 v T :=
 ⟨h.nil, ownsRow_chgC (S := fun _ => False) h.own (Chg.of_below hb) (fun _ _ x => x), fun e he => (h.ins e he).below hb, h.bel.trans (Chg.of_below hb)⟩
theorem GrC.apart {S : Nat → Prop} {w wr : World} {v : Value} {T : List SetC} (h : GrC S w wr v T) {t : SetC} (ht : t.Z wr) (h0 : 0 < t.n) (x : Addr) (hx : t.a = some x) : v.ownBlock ≠ some x.block := by
 intro hv
 rcases h.own.2 with ⟨e, hk⟩ | ⟨g, cap, cur, e, hb, hblk, h1, h2, h3, h4⟩
 ·rw [e] at hv; cases hv
 ·rw [e] at hv
  simp [Value.ownBlock] at hv
  subst hv
  obtain ⟨b', o', e', hc⟩ := ht.1.1.at h0
  rw [e'] at hx
  have hoff := ht.2 _ e'
  cases hx
  have ho : o' = 0 := hoff
  subst ho
  have c0 := hc 0 h0
  rw [Nat.zero_add, cell_of_block hblk] at c0
  by_cases hk : T.length = 0
  ·have := h.nil hk
   rw [e] at this
   cases this
  ·have f := (flatS_get T 0 (by omega)).1
   rw [← h4] at f
   have f2 : cur[0]? = some (.int .i64 (T.getD 0 .nul).s) := by
    simpa [List.getElem?_take, show 0 < T.length * 2 from by omega] using f
   rw [f2] at c0
   cases c0
theorem Z.far {wr : World} {t : SetC} (ht : t.Z wr) (h0 : 0 < t.n) {X : Nat} {q : Int} (hX : wr.cell? ⟨X, 0, none⟩ = some (.int .i64 q)) (x : Addr) (hx : t.a = some x) : x.block ≠ X := by
 intro e
 obtain ⟨b', o', e', hc⟩ := ht.1.1.at h0
 rw [e'] at hx
 have hoff := ht.2 _ e'
 cases hx
 have ho : o' = 0 := hoff
 subst ho
 have c0 := hc 0 h0
 rw [Nat.zero_add] at c0
 have e2 : b' = X := e
 rw [e2, hX] at c0
 cases c0
theorem Z.chg {S : Nat → Prop} {wr w2 : World} {u : SetC} (hu : u.Z wr) (hc : Chg S wr w2) (hf : 0 < u.n → ∀ x, u.a = some x → ¬ S x.block) : u.Z w2 :=
 ⟨⟨by
   by_cases h0 : 0 < u.n
   ·exact hu.1.1.chg hc (fun x hx _ => hf h0 x hx)
   ·have hs := hu.1.1
    have e0 : u.xs = [] := List.length_eq_zero_iff.1 (by rw [hs.len]; omega)
    exact ⟨hs.len, hs.le, hs.cap, .inl e0⟩, hu.1.2⟩, hu.2⟩
theorem GrC.step {S : Nat → Prop} {w wr w1 w2 : World} {v v2 : Value} {T : List SetC} {t : SetC} (h : GrC S w wr v T) (hb : Below wr.heap.size wr w1) (ht : t.Z w1) (hnz : v2 ≠ .slice none 0 0)
  (hg : (w1.alloc (.cells #[.int .i64 t.s, .slice t.a t.n t.c] 82)).grownBy w2 v.ownBlock) (hown : w2.ownsRow w.heap.size 82 2 v2 (T.length + 1) (flatS T ++ [.int .i64 t.s, .slice t.a t.n t.c])) : GrC S w w2 v2 (T ++ [t]) := by
 have hal : Below w1.heap.size w1 (w1.alloc (.cells #[.int .i64 t.s, .slice t.a t.n t.c] 82)) := (Below.refl _ _).alloc (Nat.le_refl _) _
 have hlp := (h.below hb).below hal
 have hc := chg_grown hg
 have keep : ∀ u : SetC, u.Z (w1.alloc (.cells #[.int .i64 t.s, .slice t.a t.n t.c] 82)) → u.Z w2 := fun u hu => Z.chg hu hc (fun h0 x hx => hlp.apart hu h0 x hx)
 refine ⟨fun hk => by simp at hk, by rw [flatS_append, List.length_append]; exact hown, fun e he => ?_, chg_thenC hlp.bel hc (fun j hj _ e => by have := (own_ge h.own j e).1; omega)⟩
 rcases List.mem_append.1 he with c | c
 ·exact keep e (hlp.ins e c)
 ·rw [List.mem_singleton.1 c]; exact keep t (ht.below hal)
theorem GrC.set {S : Nat → Prop} {w wr : World} {v : Value} {T : List SetC} (h : GrC S w wr v T) {X : Nat} (hX : X < w.heap.size) (hS : S X) {q : Int} (hc : wr.cell? ⟨X, 0, none⟩ = some (.int .i64 q)) (i : Nat) (u : Value) : GrC S w (wr.setCell ⟨X, i, none⟩ u) v T := by
 have hk : Chg (fun j => j = X) wr (wr.setCell ⟨X, i, none⟩ u) := Chg.of_set wr X i u rfl
 refine ⟨h.nil, ownsRow_chgC h.own hk (fun k e e2 => by have := (own_ge h.own k e).1; omega), fun e he => Z.chg (h.ins e he) hk (fun h0 x hx e2 => Z.far (h.ins e he) h0 hc x hx e2), h.bel.trans (hk.mono (fun k _ e => by rw [e]; exact hS))⟩
theorem GrC.mono {S S' : Nat → Prop} {w wr : World} {v : Value} {T : List SetC} (h : GrC S w wr v T) (hs : ∀ k, S k → S' k) : GrC S' w wr v T := ⟨h.nil, h.own, h.ins, h.bel.mono (fun k _ => hs k)⟩
theorem GrC.sl {S : Nat → Prop} {w wr : World} {v : Value} {T : List SetC} (h : GrC S w wr v T) (hl : T.length ≤ maxLen) : ∃ a c, v = .slice a T.length c ∧ SlS wr a T.length c T := by
 rcases h.own.2 with ⟨e, hk⟩ | ⟨g, cap, cur, e, q1, q2, q3, q4, q5, q6⟩
 ·have ht : T = [] := by first | exact List.length_eq_zero_iff.1 hk | simpa using hk
  subst ht
  exact ⟨none, 0, e, ⟨rfl, Nat.le_refl _, Nat.zero_le _, .inl rfl, fun e he => by cases he⟩⟩
 ·refine ⟨some ⟨g, 0, none⟩, cap, e, ⟨rfl, q3, q4, ?_, fun e he => (h.ins e he).1⟩⟩
  by_cases h0 : T = []
  ·exact .inl h0
  ·refine .inr ⟨g, 0, rfl, fun i hi => ?_⟩
   have hcell : ∀ j, j < T.length * 2 → wr.cell? ⟨g, j, none⟩ = (flatS T)[j]? := by
    intro j hj
    rw [cell_of_block q2, ← q6]
    simp [hj]
   have f := flatS_get T i hi
   rw [Nat.zero_add, hcell _ (by omega), hcell _ (by omega)]
   exact f
end Go.Proofs.YtbbicappjicblaaGreatDoor.Bs
namespace Go.Proofs.YtbbicappjicblaaGreatDoor
open Go.RowKit Go.Deep
set_option linter.unusedVariables false
section
variable {P : Program} {ops : Array Oper} {Q : Exit → Act → World → Prop} {md : Region.Mode} {S : World → Prop} {L : Nat}

def anyTill (P : Program) (md : Region.Mode) (ops : Array Oper) (Q : Exit → Act → World → Prop) (S : World → Prop) (L : Nat) : Nat → Array Bool → Act → World → Prop
 | 0, l, a, w => Region.ready md ops l = [] ∧ Q .normal a w
 | n + 1, l, a, w => (Region.ready md ops l = [] → Q .normal a w) ∧
   ∀ i ∈ Region.ready md ops l, wpOp P ops Q i (fun a' w' => (i ≠ L → S w') ∧ anyTill P md ops Q S L n (l.setIfInBounds i true) a' w') a w

theorem anyTill_any : ∀ (n : Nat) (l : Array Bool) (a : Act) (w : World), anyTill P md ops Q S L n l a w → wpAny P md ops Q n l a w
 | 0, _, _, _, h => h
 | n + 1, _, _, _, h => ⟨h.1, fun i hi => wpOp_mono (fun a' w' k => anyTill_any n _ a' w' k.2) (h.2 i hi)⟩

theorem anyTill_region (S : World → Prop) (L : Nat) {id : Nat} {a : Act} {w : World} (hm : P.follows .mixedOrders = true)
  (h : anyTill P .any ops Q S L ops.size (Array.replicate ops.size false) a w.drew) : (Code.region id ops true).wp P Q a w :=
 wp_region_any hm (anyTill_any _ _ _ _ h)

theorem anyTill_first {i : Nat} {oi oL : Oper} {v : Value} (hi : ops[i]? = some oi) (hn : Region.noSelect ops = true)
  (hL : ops[L]? = some oL) (hw : ∃ e ∈ oL.after, Region.binds md e = true ∧ e.on = i)
  (hQ : ∀ c a w, Q (.panic c) (a.put oi.dst v) w → Q (.panic c) a w) :
  ∀ (n : Nat) (l : Array Bool) (a : Act) (w : World),
   (∀ j oj, ops[j]? = some oj → j ≠ i → l.getD j true = false → (∀ e ∈ oj.after, Region.binds md e = true → e.on ≠ i) → oi.apart ops oj = true) →
   i ∈ Region.ready md ops l → YieldsIf P ops S oi v a → S w →
   anyTill P md ops Q S L n (l.setIfInBounds i true) (a.put oi.dst v) w → anyTill P md ops Q S L (n + 1) l a w := by
 intro n
 induction n with
 | zero =>
  intro l a w _ hr hy hS H
  refine ⟨fun h => absurd hr (by rw [h]; simp), fun j hj => ?_⟩
  by_cases hji : j = i
  ·subst hji; exact hy.wpOp hi hS ⟨fun _ => hS, H⟩
  ·exact absurd (ready_mono hj hji) (by rw [H.1]; simp)
 | succ n ih =>
  intro l a w hf hr hy hS H
  refine ⟨fun h => absurd hr (by rw [h]; simp), fun j hj => ?_⟩
  by_cases hji : j = i
  ·subst hji; exact hy.wpOp hi hS ⟨fun _ => hS, H⟩
  ·obtain ⟨hju, oj, hoj, hall⟩ := mem_ready.1 hj
   have hno : ∀ e ∈ oj.after, Region.binds md e = true → e.on ≠ i := fun e he hb heq => by
    have k1 := hall e he hb
    have k0 := (mem_ready.1 hr).1
    rw [heq] at k1
    rcases Nat.lt_or_ge i l.size with h' | h'
    ·simp [h'] at k0 k1; rw [k0] at k1; cases k1
    ·simp [Array.getElem?_eq_none h'] at k1
   have hjL : j ≠ L := fun e => by
    obtain ⟨e1, h1, h2, h3⟩ := hw
    rw [e, hL] at hoj
    cases hoj
    exact hno e1 h1 h2 h3
   have k2 := wpOp_putIf hoj (hf j oj hoj hji hju hno) (fun cs b => Region.noSelect_spec hn i oi cs b hi) (fun cs b => Region.noSelect_spec hn j oj cs b hoj) hQ hy (H.2 j (ready_mono hj hji))
   refine wpOp_mono (fun a' w' k3 => ⟨fun _ => k3.2.1 hjL, ih (l.setIfInBounds j true) a' w' (fun k ok hk hki hun hno' => hf k ok hk hki ?_ hno') (ready_mono hr (Ne.symm hji)) k3.1 (k3.2.1 hjL) ?_⟩) k2
   ·by_cases hjk : j = k
    ·subst hjk; exact hju
    ·rw [getD_set_ne true hjk] at hun; exact hun
   ·rw [Array.setIfInBounds_comm _ _ hji]; exact k3.2.2

theorem anyTill_take {i : Nat} {oi oL : Oper} {v : Value} {n : Nat} {l : Array Bool} {a : Act} {w : World} (hi : ops[i]? = some oi) (hL : ops[L]? = some oL)
  (hn : Region.noSelect ops = true) (hf : Region.free md ops l i = true) (hr : (Region.ready md ops l).contains i = true) (hw : (oL.after.any fun e => Region.binds md e && e.on == i) = true)
  (hQ : ∀ c a w, Q (.panic c) (a.put oi.dst v) w → Q (.panic c) a w) (hy : YieldsIf P ops S oi v a) (hS : S w)
  (h : anyTill P md ops Q S L n (l.setIfInBounds i true) (a.put oi.dst v) w) : anyTill P md ops Q S L (n + 1) l a w := by
 obtain ⟨e, h1, h2⟩ := Array.any_eq_true'.1 hw
 simp only [Bool.and_eq_true, beq_iff_eq] at h2
 exact anyTill_first hi hn hL ⟨e, h1, h2⟩ hQ n l a w (Region.free_spec hi hf) (by simpa using hr) hy hS h
theorem anyTill_one {i : Nat} {o : Oper} {n : Nat} {l : Array Bool} {a : Act} {w : World} (hr : Region.ready md ops l = [i]) (ho : ops[i]? = some o) (hg : Region.wanted o (yielded ops a.tmps) = true)
  (h : ∀ K : Act → World → Prop, (∀ a' w', (i ≠ L → S w') → anyTill P md ops Q S L n (l.setIfInBounds i true) a' w' → K a' w') → o.wp P a w K Q) : anyTill P md ops Q S L (n + 1) l a w := by
 refine ⟨fun e => absurd (hr.symm.trans e) (by simp), fun j hj => ?_⟩
 rw [hr] at hj
 obtain rfl : j = i := by simpa using hj
 unfold wpOp
 simp only [ho, hg, if_true]
 exact .inl (h _ fun a' w' h1 h2 => ⟨h1, h2⟩)
theorem anyTill_done {n : Nat} {l : Array Bool} {a : Act} {w : World} (hr : Region.ready md ops l = []) (h : Q .normal a w) : anyTill P md ops Q S L n l a w := by
 cases n with
 | zero => exact ⟨hr, h⟩
 | succ n => exact ⟨fun _ => h, fun i hi => absurd hi (by rw [hr]; simp)⟩
end
end Go.Proofs.YtbbicappjicblaaGreatDoor
