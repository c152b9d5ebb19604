/- Ub5 -/
import Derived.Test.YtbbicappjicblaaGreatDoorUb4
namespace Go.Proofs.YtbbicappjicblaaGreatDoor
open Go.RowKit Go.Deep
set_option linter.unusedVariables false
set_option linter.unusedSimpArgs false
set_option maxRecDepth 100000 in
set_option maxHeartbeats 8000000 in
theorem rdeg_1 (I : Nat) (sa : Option Addr) (k sc : Nat) (T : List Bs.SetC) (f : Nat → Nat → Bool) (i : Int) (ta : Option Addr) (tn tc : Nat) (tb : Option Addr) (tm td : Nat) (la : Option Addr) (ln lc : Nat) (A B : Nat) (n : Int) (p : Nq) (da : Option Addr) (kd dc : Nat) (d : Nat → Int) (w : World) (hkd : kd ≤ k) (hT : WkT I k T f) (hs : Bs.SlS w sa k sc T) (hd : SlI w da kd dc ((List.range kd).map d)) (hr : ∀ v, -1 ≤ d v ∧ d v ≤ 1099511627776) (hn : -1024 ≤ n ∧ n ≤ 1024) :
  Calls Tryz.prog 58 #[wkV (I : Int) sa k sc i ta tn tc tb tm td la ln lc, opV ⟨1, (A : Int), (B : Int), n, p⟩, .slice da kd dc] w fun e w' => e = .returned (.int .i64 (dgO d (fun v => mvP I (f v)) ⟨1, (A : Int), (B : Int), n, p⟩)) ∧ Below w.heap.size w w' := by
 obtain ⟨wa, hwa⟩ : ∃ x, w.alloc (.cells #[.int .i64 (I : Int), .slice sa k sc, .int .i64 i, .slice ta tn tc, .slice tb tm td, .slice la ln lc] 63) = x := ⟨_, rfl⟩
 have bx : BoxP wa w.heap.size [.int .i64 (I : Int), .slice sa k sc, .int .i64 i, .slice ta tn tc, .slice tb tm td, .slice la ln lc] := by rw [← hwa]; exact BoxP.made _ _ _
 have hba : Below w.heap.size w wa := by rw [← hwa]; exact (Below.refl _ _).alloc (Nat.le_refl _) _
 have x0 := (bx.all 0 _ rfl).1
 have x1 := (bx.all 1 _ rfl).1
 have x2 := (bx.all 2 _ rfl).1
 have x3 := (bx.all 3 _ rfl).1
 have x4 := (bx.all 4 _ rfl).1
 have x5 := (bx.all 5 _ rfl).1
 obtain ⟨wo, hwo⟩ : ∃ x, wa.alloc (.cells #[.int .i64 1, .int .i64 (A : Int), .int .i64 (B : Int), .int .i64 n, .bool p.g, .slice p.a p.n p.c, .slice p.b p.m p.d] 73) = x := ⟨_, rfl⟩
 have br : BoxP wo wa.heap.size [.int .i64 1, .int .i64 (A : Int), .int .i64 (B : Int), .int .i64 n, .bool p.g, .slice p.a p.n p.c, .slice p.b p.m p.d] := by rw [← hwo]; exact BoxP.made _ _ _
 have hbo : Below wa.heap.size wa wo := by rw [← hwo]; exact (Below.refl _ _).alloc (Nat.le_refl _) _
 have x0 := (hbo.cell (World.block_lt_of_cell? _ _ x0)).trans x0
 have x1 := (hbo.cell (World.block_lt_of_cell? _ _ x1)).trans x1
 have x2 := (hbo.cell (World.block_lt_of_cell? _ _ x2)).trans x2
 have x3 := (hbo.cell (World.block_lt_of_cell? _ _ x3)).trans x3
 have x4 := (hbo.cell (World.block_lt_of_cell? _ _ x4)).trans x4
 have x5 := (hbo.cell (World.block_lt_of_cell? _ _ x5)).trans x5
 have y0 := (br.all 0 _ rfl).1
 have y1 := (br.all 1 _ rfl).1
 have y2 := (br.all 2 _ rfl).1
 have y3 := (br.all 3 _ rfl).1
 have y4 := (br.all 4 _ rfl).1
 have y5 := (br.all 5 _ rfl).1
 have y6 := (br.all 6 _ rfl).1
 have HB := hide (hba.trans (hbo.mono hba.size))
 have hso := (hs.below hba).below hbo
 have hdo := (hd.below hba).below hbo
 have hoe : dgO d (fun v => mvP I (f v)) ⟨1, (A : Int), (B : Int), n, p⟩ = dgO d (fun v => mvP I (f v)) ⟨1, (A : Int), (B : Int), n, p⟩ := rfl
 obtain ⟨R, hR⟩ : ∃ R, dgO d (fun v => mvP I (f v)) ⟨1, (A : Int), (B : Int), n, p⟩ = R := ⟨_, rfl⟩
 rw [hR]
 clear hoe
 have HR := hide (show R = 1 from by rw [← hR]; simp [dgO])
 unfold wkV opV
 clear bx br hba hbo hR hs hT hr hd hso hdo
 go_enter Tryz.func58, Tryz.ntmps58
 go_wp2_with fail
 try go_ret
 exact ⟨by rw [unhide HR]; try rfl, unhide HB⟩
set_option maxRecDepth 100000 in
set_option maxHeartbeats 8000000 in
theorem rdeg_2 (I : Nat) (sa : Option Addr) (k sc : Nat) (T : List Bs.SetC) (f : Nat → Nat → Bool) (i : Int) (ta : Option Addr) (tn tc : Nat) (tb : Option Addr) (tm td : Nat) (la : Option Addr) (ln lc : Nat) (A B : Nat) (n : Int) (p : Nq) (da : Option Addr) (kd dc : Nat) (d : Nat → Int) (w : World) (hkd : kd ≤ k) (hT : WkT I k T f) (hs : Bs.SlS w sa k sc T) (hd : SlI w da kd dc ((List.range kd).map d)) (hr : ∀ v, -1 ≤ d v ∧ d v ≤ 1099511627776) (hn : -1024 ≤ n ∧ n ≤ 1024) :
  Calls Tryz.prog 58 #[wkV (I : Int) sa k sc i ta tn tc tb tm td la ln lc, opV ⟨2, (A : Int), (B : Int), n, p⟩, .slice da kd dc] w fun e w' => e = .returned (.int .i64 (dgO d (fun v => mvP I (f v)) ⟨2, (A : Int), (B : Int), n, p⟩)) ∧ Below w.heap.size w w' := by
 obtain ⟨wa, hwa⟩ : ∃ x, w.alloc (.cells #[.int .i64 (I : Int), .slice sa k sc, .int .i64 i, .slice ta tn tc, .slice tb tm td, .slice la ln lc] 63) = x := ⟨_, rfl⟩
 have bx : BoxP wa w.heap.size [.int .i64 (I : Int), .slice sa k sc, .int .i64 i, .slice ta tn tc, .slice tb tm td, .slice la ln lc] := by rw [← hwa]; exact BoxP.made _ _ _
 have hba : Below w.heap.size w wa := by rw [← hwa]; exact (Below.refl _ _).alloc (Nat.le_refl _) _
 have x0 := (bx.all 0 _ rfl).1
 have x1 := (bx.all 1 _ rfl).1
 have x2 := (bx.all 2 _ rfl).1
 have x3 := (bx.all 3 _ rfl).1
 have x4 := (bx.all 4 _ rfl).1
 have x5 := (bx.all 5 _ rfl).1
 obtain ⟨wo, hwo⟩ : ∃ x, wa.alloc (.cells #[.int .i64 2, .int .i64 (A : Int), .int .i64 (B : Int), .int .i64 n, .bool p.g, .slice p.a p.n p.c, .slice p.b p.m p.d] 73) = x := ⟨_, rfl⟩
 have br : BoxP wo wa.heap.size [.int .i64 2, .int .i64 (A : Int), .int .i64 (B : Int), .int .i64 n, .bool p.g, .slice p.a p.n p.c, .slice p.b p.m p.d] := by rw [← hwo]; exact BoxP.made _ _ _
 have hbo : Below wa.heap.size wa wo := by rw [← hwo]; exact (Below.refl _ _).alloc (Nat.le_refl _) _
 have x0 := (hbo.cell (World.block_lt_of_cell? _ _ x0)).trans x0
 have x1 := (hbo.cell (World.block_lt_of_cell? _ _ x1)).trans x1
 have x2 := (hbo.cell (World.block_lt_of_cell? _ _ x2)).trans x2
 have x3 := (hbo.cell (World.block_lt_of_cell? _ _ x3)).trans x3
 have x4 := (hbo.cell (World.block_lt_of_cell? _ _ x4)).trans x4
 have x5 := (hbo.cell (World.block_lt_of_cell? _ _ x5)).trans x5
 have y0 := (br.all 0 _ rfl).1
 have y1 := (br.all 1 _ rfl).1
 have y2 := (br.all 2 _ rfl).1
 have y3 := (br.all 3 _ rfl).1
 have y4 := (br.all 4 _ rfl).1
 have y5 := (br.all 5 _ rfl).1
 have y6 := (br.all 6 _ rfl).1
 have HB := hide (hba.trans (hbo.mono hba.size))
 have hso := (hs.below hba).below hbo
 have hdo := (hd.below hba).below hbo
 have hoe : dgO d (fun v => mvP I (f v)) ⟨2, (A : Int), (B : Int), n, p⟩ = dgO d (fun v => mvP I (f v)) ⟨2, (A : Int), (B : Int), n, p⟩ := rfl
 obtain ⟨R, hR⟩ : ∃ R, dgO d (fun v => mvP I (f v)) ⟨2, (A : Int), (B : Int), n, p⟩ = R := ⟨_, rfl⟩
 rw [hR]
 clear hoe
 have HR := hide (show R = 0 from by rw [← hR]; simp [dgO])
 unfold wkV opV
 clear bx br hba hbo hR hs hT hr hd hso hdo
 go_enter Tryz.func58, Tryz.ntmps58
 go_wp2_with fail
 try go_ret
 exact ⟨by rw [unhide HR]; try rfl, unhide HB⟩
set_option maxRecDepth 100000 in
set_option maxHeartbeats 8000000 in
theorem rdeg_3 (I : Nat) (sa : Option Addr) (k sc : Nat) (T : List Bs.SetC) (f : Nat → Nat → Bool) (i : Int) (ta : Option Addr) (tn tc : Nat) (tb : Option Addr) (tm td : Nat) (la : Option Addr) (ln lc : Nat) (A B : Nat) (n : Int) (p : Nq) (da : Option Addr) (kd dc : Nat) (d : Nat → Int) (w : World) (hkd : kd ≤ k) (hT : WkT I k T f) (hs : Bs.SlS w sa k sc T) (hd : SlI w da kd dc ((List.range kd).map d)) (hr : ∀ v, -1 ≤ d v ∧ d v ≤ 1099511627776) (hn : -1024 ≤ n ∧ n ≤ 1024) (hA : A < kd) (hB : B < kd) :
  Calls Tryz.prog 58 #[wkV (I : Int) sa k sc i ta tn tc tb tm td la ln lc, opV ⟨3, (A : Int), (B : Int), n, p⟩, .slice da kd dc] w fun e w' => e = .returned (.int .i64 (dgO d (fun v => mvP I (f v)) ⟨3, (A : Int), (B : Int), n, p⟩)) ∧ Below w.heap.size w w' := by
 obtain ⟨wa, hwa⟩ : ∃ x, w.alloc (.cells #[.int .i64 (I : Int), .slice sa k sc, .int .i64 i, .slice ta tn tc, .slice tb tm td, .slice la ln lc] 63) = x := ⟨_, rfl⟩
 have bx : BoxP wa w.heap.size [.int .i64 (I : Int), .slice sa k sc, .int .i64 i, .slice ta tn tc, .slice tb tm td, .slice la ln lc] := by rw [← hwa]; exact BoxP.made _ _ _
 have hba : Below w.heap.size w wa := by rw [← hwa]; exact (Below.refl _ _).alloc (Nat.le_refl _) _
 have x0 := (bx.all 0 _ rfl).1
 have x1 := (bx.all 1 _ rfl).1
 have x2 := (bx.all 2 _ rfl).1
 have x3 := (bx.all 3 _ rfl).1
 have x4 := (bx.all 4 _ rfl).1
 have x5 := (bx.all 5 _ rfl).1
 obtain ⟨wo, hwo⟩ : ∃ x, wa.alloc (.cells #[.int .i64 3, .int .i64 (A : Int), .int .i64 (B : Int), .int .i64 n, .bool p.g, .slice p.a p.n p.c, .slice p.b p.m p.d] 73) = x := ⟨_, rfl⟩
 have br : BoxP wo wa.heap.size [.int .i64 3, .int .i64 (A : Int), .int .i64 (B : Int), .int .i64 n, .bool p.g, .slice p.a p.n p.c, .slice p.b p.m p.d] := by rw [← hwo]; exact BoxP.made _ _ _
 have hbo : Below wa.heap.size wa wo := by rw [← hwo]; exact (Below.refl _ _).alloc (Nat.le_refl _) _
 have x0 := (hbo.cell (World.block_lt_of_cell? _ _ x0)).trans x0
 have x1 := (hbo.cell (World.block_lt_of_cell? _ _ x1)).trans x1
 have x2 := (hbo.cell (World.block_lt_of_cell? _ _ x2)).trans x2
 have x3 := (hbo.cell (World.block_lt_of_cell? _ _ x3)).trans x3
 have x4 := (hbo.cell (World.block_lt_of_cell? _ _ x4)).trans x4
 have x5 := (hbo.cell (World.block_lt_of_cell? _ _ x5)).trans x5
 have y0 := (br.all 0 _ rfl).1
 have y1 := (br.all 1 _ rfl).1
 have y2 := (br.all 2 _ rfl).1
 have y3 := (br.all 3 _ rfl).1
 have y4 := (br.all 4 _ rfl).1
 have y5 := (br.all 5 _ rfl).1
 have y6 := (br.all 6 _ rfl).1
 have HB := hide (hba.trans (hbo.mono hba.size))
 have hso := (hs.below hba).below hbo
 have hdo := (hd.below hba).below hbo
 have hoe : dgO d (fun v => mvP I (f v)) ⟨3, (A : Int), (B : Int), n, p⟩ = dgO d (fun v => mvP I (f v)) ⟨3, (A : Int), (B : Int), n, p⟩ := rfl
 obtain ⟨R, hR⟩ : ∃ R, dgO d (fun v => mvP I (f v)) ⟨3, (A : Int), (B : Int), n, p⟩ = R := ⟨_, rfl⟩
 rw [hR]
 clear hoe
 have HO := hide (roperands_any ⟨3, (A : Int), (B : Int), n, p⟩ (by simp) (by simp) wo)
 rw [show opsL ⟨3, (A : Int), (B : Int), n, p⟩ = [(A : Int), (B : Int)] from by simp [opsL, twoK, oneK]] at HO
 have HL := hide (show ∀ x ∈ [(A : Int), (B : Int)], 0 ≤ x ∧ x < (kd : Int) from by simp; omega)
 have HRn := hide (show ∀ x ∈ [(A : Int), (B : Int)], d x.toNat = -1 → R = -1 from by
  intro x hx hxd
  rw [← hR]
  unfold dgO
  have : (opsL ⟨3, (A : Int), (B : Int), n, p⟩).any (fun a => decide (d a.toNat = -1)) = true := by
   rw [show opsL ⟨3, (A : Int), (B : Int), n, p⟩ = [(A : Int), (B : Int)] from by simp [opsL, twoK, oneK]]
   exact List.any_eq_true.2 ⟨x, hx, by simpa using hxd⟩
  rw [this]
  simp)
 have HRy := hide (show (∀ x ∈ [(A : Int), (B : Int)], d x.toNat ≠ -1) → R = max (d A) (d B) from by
  intro hx
  rw [← hR]
  unfold dgO
  have : (opsL ⟨3, (A : Int), (B : Int), n, p⟩).any (fun a => decide (d a.toNat = -1)) = false := by
   rw [show opsL ⟨3, (A : Int), (B : Int), n, p⟩ = [(A : Int), (B : Int)] from by simp [opsL, twoK, oneK]]
   rw [List.any_eq_false]
   intro x hx2
   simpa using hx x hx2
  rw [this]
  simp)
 have HD := hide hdo
 have HRG := hide hr
 have hkA : (A : Int) < (kd : Int) := by omega
 have hkB : (B : Int) < (kd : Int) := by omega
 unfold opV at HO ⊢
 unfold wkV
 clear bx br hba hbo hR hs hT hr hd hso hdo
 go_enter Tryz.func58, Tryz.ntmps58
 go_wp2_with fail
 refine (unhide HO).mono ?_
 rintro _ w1 ⟨z, m, c, rfl, hz, _, b1⟩
 have hm : m = 2 := by have := hz.len; simpa using this.symm
 have HZ := hide hz
 have HB1 := hide b1
 have HD1 := hide ((unhide HD).below b1)
 have x0 := (b1.cell (World.block_lt_of_cell? _ _ x0)).trans x0
 have x1 := (b1.cell (World.block_lt_of_cell? _ _ x1)).trans x1
 have x2 := (b1.cell (World.block_lt_of_cell? _ _ x2)).trans x2
 have x3 := (b1.cell (World.block_lt_of_cell? _ _ x3)).trans x3
 have x4 := (b1.cell (World.block_lt_of_cell? _ _ x4)).trans x4
 have x5 := (b1.cell (World.block_lt_of_cell? _ _ x5)).trans x5
 have y0 := (b1.cell (World.block_lt_of_cell? _ _ y0)).trans y0
 have y1 := (b1.cell (World.block_lt_of_cell? _ _ y1)).trans y1
 have y2 := (b1.cell (World.block_lt_of_cell? _ _ y2)).trans y2
 have y3 := (b1.cell (World.block_lt_of_cell? _ _ y3)).trans y3
 have y4 := (b1.cell (World.block_lt_of_cell? _ _ y4)).trans y4
 have y5 := (b1.cell (World.block_lt_of_cell? _ _ y5)).trans y5
 have y6 := (b1.cell (World.block_lt_of_cell? _ _ y6)).trans y6
 obtain ⟨L, hL⟩ : ∃ L, [(A : Int), (B : Int)] = L := ⟨_, rfl⟩
 rw [hL] at HZ HL HRn HRy
 have HLL := hide hL
 have HMM := hide hm
 have hm2 : m ≤ 2 := by omega
 clear hz b1 HO HD hwo hwa hL hm
 go_wp2_with fail
 go_loopw [27] (fun iv wr => ∃ q : Nat, q ≤ m ∧ iv = .int .i64 (q : Int) ∧ wr = w1 ∧ Hid (∀ x ∈ L.take q, d x.toNat ≠ -1)) (fun iv _ => m - (intOf iv).toNat)
 case atStart => exact ⟨0, Nat.zero_le _, rfl, rfl, hide (by simp)⟩
 case round =>
  obtain ⟨q, hq, rfl, hwr, HF⟩ := hrel
  obtain rfl := hwr
  by_cases hlt : q < m
  ·have hlt' : (q : Int) < (m : Int) := by omega
   have hql : q < L.length := by have := (unhide HZ).len; omega
   obtain ⟨zb, zo, rfl, hc⟩ := (unhide HZ).at (by omega)
   have sk := hc q hlt
   have hxm : L.getD q 0 ∈ L := by rw [List.getD_eq_getElem?_getD, List.getElem?_eq_getElem hql]; exact List.getElem_mem hql
   have hx := unhide HL (L.getD q 0) hxm
   obtain ⟨x, hxx⟩ : ∃ x : Nat, L.getD q 0 = (x : Int) := ⟨(L.getD q 0).toNat, by omega⟩
   have HX := hide (show L.take (q + 1) = L.take q ++ [(x : Int)] from by rw [List.take_succ_eq_append_getElem hql, ← hxx, List.getD_eq_getElem?_getD, List.getElem?_eq_getElem hql]; rfl)
   rw [hxx] at sk hx hxm
   have hxk : x < kd := by omega
   have hxk' : (x : Int) < (kd : Int) := by omega
   obtain ⟨db, dz, rfl, hdc⟩ := (unhide HD1).at (by omega)
   have eX : ((List.range kd).map d).getD x 0 = d x := by rw [List.getD_eq_getElem?_getD, List.getElem?_map, List.getElem?_range hxk]; rfl
   have dX := hdc x hxk
   rw [eX] at dX
   have HXM := hide hxm
   clear hc hdc eX hxx hxm
   by_cases c1 : d x = -1
   ·have HR := hide (unhide HRn (x : Int) (unhide HXM) (by simpa using c1))
    rw [c1] at dX
    clear hql c1
    go_wp2_with fail
    try go_ret
    exact ⟨by rw [unhide HR]; try rfl, (unhide HB).trans ((unhide HB1).mono (unhide HB).size)⟩
   ·have HF2 := hide (show ∀ y ∈ L.take (q + 1), d y.toNat ≠ -1 from by
     rw [unhide HX]
     intro y hy
     rcases List.mem_append.1 hy with hy | hy
     ·exact unhide HF y hy
     ·simp at hy; subst hy; simpa using c1)
    obtain ⟨DX, hDX⟩ : ∃ DX, d x = DX := ⟨_, rfl⟩
    rw [hDX] at dX c1
    have q1 : (DX == -1) = false := by simpa using c1
    clear hql c1 hDX
    go_wp2_with fail
    exact ⟨⟨q + 1, by omega, by (first | rfl | go_num), by (first | rfl | trivial), HF2⟩, by simp [intOf]; omega⟩
  ·obtain rfl : q = m := by omega
   have hlt' : ¬ (q : Int) < (q : Int) := by omega
   have hR2 := unhide HRy (by have := unhide HF; rw [List.take_of_length_le (by have := (unhide HZ).len; omega)] at this; exact this)
   obtain ⟨db, dz, rfl, hdc⟩ := (unhide HD1).at (by omega)
   have eA : ((List.range kd).map d).getD A 0 = d A := by rw [List.getD_eq_getElem?_getD, List.getElem?_map, List.getElem?_range hA]; rfl
   have dA := hdc A hA
   rw [eA] at dA
   have rA := unhide HRG A
   have eB : ((List.range kd).map d).getD B 0 = d B := by rw [List.getD_eq_getElem?_getD, List.getElem?_map, List.getElem?_range hB]; rfl
   have dB := hdc B hB
   rw [eB] at dB
   have rB := unhide HRG B
   obtain ⟨DA, hDA⟩ : ∃ x, d A = x := ⟨_, rfl⟩
   rw [hDA] at dA hR2 rA
   obtain ⟨DB, hDB⟩ : ∃ x, d B = x := ⟨_, rfl⟩
   rw [hDB] at dB hR2 rB
   clear hdc eA hDA eB hDB
   have HR := hide hR2
   clear hR2
   go_wp2_with fail
   go_quiet (fail)
   go_wp2_with fail
   try go_ret
   exact ⟨by rw [unhide HR]; try rfl, by first | exact (unhide HB).trans ((unhide HB1).mono (unhide HB).size) | exact bel_drewN ((unhide HB).trans ((unhide HB1).mono (unhide HB).size)) _⟩
set_option maxRecDepth 100000 in
set_option maxHeartbeats 8000000 in
theorem rdeg_4 (I : Nat) (sa : Option Addr) (k sc : Nat) (T : List Bs.SetC) (f : Nat → Nat → Bool) (i : Int) (ta : Option Addr) (tn tc : Nat) (tb : Option Addr) (tm td : Nat) (la : Option Addr) (ln lc : Nat) (A B : Nat) (n : Int) (p : Nq) (da : Option Addr) (kd dc : Nat) (d : Nat → Int) (w : World) (hkd : kd ≤ k) (hT : WkT I k T f) (hs : Bs.SlS w sa k sc T) (hd : SlI w da kd dc ((List.range kd).map d)) (hr : ∀ v, -1 ≤ d v ∧ d v ≤ 1099511627776) (hn : -1024 ≤ n ∧ n ≤ 1024) (hA : A < kd) (hB : B < kd) :
  Calls Tryz.prog 58 #[wkV (I : Int) sa k sc i ta tn tc tb tm td la ln lc, opV ⟨4, (A : Int), (B : Int), n, p⟩, .slice da kd dc] w fun e w' => e = .returned (.int .i64 (dgO d (fun v => mvP I (f v)) ⟨4, (A : Int), (B : Int), n, p⟩)) ∧ Below w.heap.size w w' := by
 obtain ⟨wa, hwa⟩ : ∃ x, w.alloc (.cells #[.int .i64 (I : Int), .slice sa k sc, .int .i64 i, .slice ta tn tc, .slice tb tm td, .slice la ln lc] 63) = x := ⟨_, rfl⟩
 have bx : BoxP wa w.heap.size [.int .i64 (I : Int), .slice sa k sc, .int .i64 i, .slice ta tn tc, .slice tb tm td, .slice la ln lc] := by rw [← hwa]; exact BoxP.made _ _ _
 have hba : Below w.heap.size w wa := by rw [← hwa]; exact (Below.refl _ _).alloc (Nat.le_refl _) _
 have x0 := (bx.all 0 _ rfl).1
 have x1 := (bx.all 1 _ rfl).1
 have x2 := (bx.all 2 _ rfl).1
 have x3 := (bx.all 3 _ rfl).1
 have x4 := (bx.all 4 _ rfl).1
 have x5 := (bx.all 5 _ rfl).1
 obtain ⟨wo, hwo⟩ : ∃ x, wa.alloc (.cells #[.int .i64 4, .int .i64 (A : Int), .int .i64 (B : Int), .int .i64 n, .bool p.g, .slice p.a p.n p.c, .slice p.b p.m p.d] 73) = x := ⟨_, rfl⟩
 have br : BoxP wo wa.heap.size [.int .i64 4, .int .i64 (A : Int), .int .i64 (B : Int), .int .i64 n, .bool p.g, .slice p.a p.n p.c, .slice p.b p.m p.d] := by rw [← hwo]; exact BoxP.made _ _ _
 have hbo : Below wa.heap.size wa wo := by rw [← hwo]; exact (Below.refl _ _).alloc (Nat.le_refl _) _
 have x0 := (hbo.cell (World.block_lt_of_cell? _ _ x0)).trans x0
 have x1 := (hbo.cell (World.block_lt_of_cell? _ _ x1)).trans x1
 have x2 := (hbo.cell (World.block_lt_of_cell? _ _ x2)).trans x2
 have x3 := (hbo.cell (World.block_lt_of_cell? _ _ x3)).trans x3
 have x4 := (hbo.cell (World.block_lt_of_cell? _ _ x4)).trans x4
 have x5 := (hbo.cell (World.block_lt_of_cell? _ _ x5)).trans x5
 have y0 := (br.all 0 _ rfl).1
 have y1 := (br.all 1 _ rfl).1
 have y2 := (br.all 2 _ rfl).1
 have y3 := (br.all 3 _ rfl).1
 have y4 := (br.all 4 _ rfl).1
 have y5 := (br.all 5 _ rfl).1
 have y6 := (br.all 6 _ rfl).1
 have HB := hide (hba.trans (hbo.mono hba.size))
 have hso := (hs.below hba).below hbo
 have hdo := (hd.below hba).below hbo
 have hoe : dgO d (fun v => mvP I (f v)) ⟨4, (A : Int), (B : Int), n, p⟩ = dgO d (fun v => mvP I (f v)) ⟨4, (A : Int), (B : Int), n, p⟩ := rfl
 obtain ⟨R, hR⟩ : ∃ R, dgO d (fun v => mvP I (f v)) ⟨4, (A : Int), (B : Int), n, p⟩ = R := ⟨_, rfl⟩
 rw [hR]
 clear hoe
 have HO := hide (roperands_any ⟨4, (A : Int), (B : Int), n, p⟩ (by simp) (by simp) wo)
 rw [show opsL ⟨4, (A : Int), (B : Int), n, p⟩ = [(A : Int), (B : Int)] from by simp [opsL, twoK, oneK]] at HO
 have HL := hide (show ∀ x ∈ [(A : Int), (B : Int)], 0 ≤ x ∧ x < (kd : Int) from by simp; omega)
 have HRn := hide (show ∀ x ∈ [(A : Int), (B : Int)], d x.toNat = -1 → R = -1 from by
  intro x hx hxd
  rw [← hR]
  unfold dgO
  have : (opsL ⟨4, (A : Int), (B : Int), n, p⟩).any (fun a => decide (d a.toNat = -1)) = true := by
   rw [show opsL ⟨4, (A : Int), (B : Int), n, p⟩ = [(A : Int), (B : Int)] from by simp [opsL, twoK, oneK]]
   exact List.any_eq_true.2 ⟨x, hx, by simpa using hxd⟩
  rw [this]
  simp)
 have HRy := hide (show (∀ x ∈ [(A : Int), (B : Int)], d x.toNat ≠ -1) → R = max (d A) (d B) from by
  intro hx
  rw [← hR]
  unfold dgO
  have : (opsL ⟨4, (A : Int), (B : Int), n, p⟩).any (fun a => decide (d a.toNat = -1)) = false := by
   rw [show opsL ⟨4, (A : Int), (B : Int), n, p⟩ = [(A : Int), (B : Int)] from by simp [opsL, twoK, oneK]]
   rw [List.any_eq_false]
   intro x hx2
   simpa using hx x hx2
  rw [this]
  simp)
 have HD := hide hdo
 have HRG := hide hr
 have hkA : (A : Int) < (kd : Int) := by omega
 have hkB : (B : Int) < (kd : Int) := by omega
 unfold opV at HO ⊢
 unfold wkV
 clear bx br hba hbo hR hs hT hr hd hso hdo
 go_enter Tryz.func58, Tryz.ntmps58
 go_wp2_with fail
 refine (unhide HO).mono ?_
 rintro _ w1 ⟨z, m, c, rfl, hz, _, b1⟩
 have hm : m = 2 := by have := hz.len; simpa using this.symm
 have HZ := hide hz
 have HB1 := hide b1
 have HD1 := hide ((unhide HD).below b1)
 have x0 := (b1.cell (World.block_lt_of_cell? _ _ x0)).trans x0
 have x1 := (b1.cell (World.block_lt_of_cell? _ _ x1)).trans x1
 have x2 := (b1.cell (World.block_lt_of_cell? _ _ x2)).trans x2
 have x3 := (b1.cell (World.block_lt_of_cell? _ _ x3)).trans x3
 have x4 := (b1.cell (World.block_lt_of_cell? _ _ x4)).trans x4
 have x5 := (b1.cell (World.block_lt_of_cell? _ _ x5)).trans x5
 have y0 := (b1.cell (World.block_lt_of_cell? _ _ y0)).trans y0
 have y1 := (b1.cell (World.block_lt_of_cell? _ _ y1)).trans y1
 have y2 := (b1.cell (World.block_lt_of_cell? _ _ y2)).trans y2
 have y3 := (b1.cell (World.block_lt_of_cell? _ _ y3)).trans y3
 have y4 := (b1.cell (World.block_lt_of_cell? _ _ y4)).trans y4
 have y5 := (b1.cell (World.block_lt_of_cell? _ _ y5)).trans y5
 have y6 := (b1.cell (World.block_lt_of_cell? _ _ y6)).trans y6
 obtain ⟨L, hL⟩ : ∃ L, [(A : Int), (B : Int)] = L := ⟨_, rfl⟩
 rw [hL] at HZ HL HRn HRy
 have HLL := hide hL
 have HMM := hide hm
 have hm2 : m ≤ 2 := by omega
 clear hz b1 HO HD hwo hwa hL hm
 go_wp2_with fail
 go_loopw [27] (fun iv wr => ∃ q : Nat, q ≤ m ∧ iv = .int .i64 (q : Int) ∧ wr = w1 ∧ Hid (∀ x ∈ L.take q, d x.toNat ≠ -1)) (fun iv _ => m - (intOf iv).toNat)
 case atStart => exact ⟨0, Nat.zero_le _, rfl, rfl, hide (by simp)⟩
 case round =>
  obtain ⟨q, hq, rfl, hwr, HF⟩ := hrel
  obtain rfl := hwr
  by_cases hlt : q < m
  ·have hlt' : (q : Int) < (m : Int) := by omega
   have hql : q < L.length := by have := (unhide HZ).len; omega
   obtain ⟨zb, zo, rfl, hc⟩ := (unhide HZ).at (by omega)
   have sk := hc q hlt
   have hxm : L.getD q 0 ∈ L := by rw [List.getD_eq_getElem?_getD, List.getElem?_eq_getElem hql]; exact List.getElem_mem hql
   have hx := unhide HL (L.getD q 0) hxm
   obtain ⟨x, hxx⟩ : ∃ x : Nat, L.getD q 0 = (x : Int) := ⟨(L.getD q 0).toNat, by omega⟩
   have HX := hide (show L.take (q + 1) = L.take q ++ [(x : Int)] from by rw [List.take_succ_eq_append_getElem hql, ← hxx, List.getD_eq_getElem?_getD, List.getElem?_eq_getElem hql]; rfl)
   rw [hxx] at sk hx hxm
   have hxk : x < kd := by omega
   have hxk' : (x : Int) < (kd : Int) := by omega
   obtain ⟨db, dz, rfl, hdc⟩ := (unhide HD1).at (by omega)
   have eX : ((List.range kd).map d).getD x 0 = d x := by rw [List.getD_eq_getElem?_getD, List.getElem?_map, List.getElem?_range hxk]; rfl
   have dX := hdc x hxk
   rw [eX] at dX
   have HXM := hide hxm
   clear hc hdc eX hxx hxm
   by_cases c1 : d x = -1
   ·have HR := hide (unhide HRn (x : Int) (unhide HXM) (by simpa using c1))
    rw [c1] at dX
    clear hql c1
    go_wp2_with fail
    try go_ret
    exact ⟨by rw [unhide HR]; try rfl, (unhide HB).trans ((unhide HB1).mono (unhide HB).size)⟩
   ·have HF2 := hide (show ∀ y ∈ L.take (q + 1), d y.toNat ≠ -1 from by
     rw [unhide HX]
     intro y hy
     rcases List.mem_append.1 hy with hy | hy
     ·exact unhide HF y hy
     ·simp at hy; subst hy; simpa using c1)
    obtain ⟨DX, hDX⟩ : ∃ DX, d x = DX := ⟨_, rfl⟩
    rw [hDX] at dX c1
    have q1 : (DX == -1) = false := by simpa using c1
    clear hql c1 hDX
    go_wp2_with fail
    exact ⟨⟨q + 1, by omega, by (first | rfl | go_num), by (first | rfl | trivial), HF2⟩, by simp [intOf]; omega⟩
  ·obtain rfl : q = m := by omega
   have hlt' : ¬ (q : Int) < (q : Int) := by omega
   have hR2 := unhide HRy (by have := unhide HF; rw [List.take_of_length_le (by have := (unhide HZ).len; omega)] at this; exact this)
   obtain ⟨db, dz, rfl, hdc⟩ := (unhide HD1).at (by omega)
   have eA : ((List.range kd).map d).getD A 0 = d A := by rw [List.getD_eq_getElem?_getD, List.getElem?_map, List.getElem?_range hA]; rfl
   have dA := hdc A hA
   rw [eA] at dA
   have rA := unhide HRG A
   have eB : ((List.range kd).map d).getD B 0 = d B := by rw [List.getD_eq_getElem?_getD, List.getElem?_map, List.getElem?_range hB]; rfl
   have dB := hdc B hB
   rw [eB] at dB
   have rB := unhide HRG B
   obtain ⟨DA, hDA⟩ : ∃ x, d A = x := ⟨_, rfl⟩
   rw [hDA] at dA hR2 rA
   obtain ⟨DB, hDB⟩ : ∃ x, d B = x := ⟨_, rfl⟩
   rw [hDB] at dB hR2 rB
   clear hdc eA hDA eB hDB
   have HR := hide hR2
   clear hR2
   go_wp2_with fail
   go_quiet (fail)
   go_wp2_with fail
   try go_ret
   exact ⟨by rw [unhide HR]; try rfl, by first | exact (unhide HB).trans ((unhide HB1).mono (unhide HB).size) | exact bel_drewN ((unhide HB).trans ((unhide HB1).mono (unhide HB).size)) _⟩
set_option maxRecDepth 100000 in
set_option maxHeartbeats 8000000 in
theorem rdeg_5 (I : Nat) (sa : Option Addr) (k sc : Nat) (T : List Bs.SetC) (f : Nat → Nat → Bool) (i : Int) (ta : Option Addr) (tn tc : Nat) (tb : Option Addr) (tm td : Nat) (la : Option Addr) (ln lc : Nat) (A B : Nat) (n : Int) (p : Nq) (da : Option Addr) (kd dc : Nat) (d : Nat → Int) (w : World) (hkd : kd ≤ k) (hT : WkT I k T f) (hs : Bs.SlS w sa k sc T) (hd : SlI w da kd dc ((List.range kd).map d)) (hr : ∀ v, -1 ≤ d v ∧ d v ≤ 1099511627776) (hn : -1024 ≤ n ∧ n ≤ 1024) (hA : A < kd) (hB : B < kd) :
  Calls Tryz.prog 58 #[wkV (I : Int) sa k sc i ta tn tc tb tm td la ln lc, opV ⟨5, (A : Int), (B : Int), n, p⟩, .slice da kd dc] w fun e w' => e = .returned (.int .i64 (dgO d (fun v => mvP I (f v)) ⟨5, (A : Int), (B : Int), n, p⟩)) ∧ Below w.heap.size w w' := by
 obtain ⟨wa, hwa⟩ : ∃ x, w.alloc (.cells #[.int .i64 (I : Int), .slice sa k sc, .int .i64 i, .slice ta tn tc, .slice tb tm td, .slice la ln lc] 63) = x := ⟨_, rfl⟩
 have bx : BoxP wa w.heap.size [.int .i64 (I : Int), .slice sa k sc, .int .i64 i, .slice ta tn tc, .slice tb tm td, .slice la ln lc] := by rw [← hwa]; exact BoxP.made _ _ _
 have hba : Below w.heap.size w wa := by rw [← hwa]; exact (Below.refl _ _).alloc (Nat.le_refl _) _
 have x0 := (bx.all 0 _ rfl).1
 have x1 := (bx.all 1 _ rfl).1
 have x2 := (bx.all 2 _ rfl).1
 have x3 := (bx.all 3 _ rfl).1
 have x4 := (bx.all 4 _ rfl).1
 have x5 := (bx.all 5 _ rfl).1
 obtain ⟨wo, hwo⟩ : ∃ x, wa.alloc (.cells #[.int .i64 5, .int .i64 (A : Int), .int .i64 (B : Int), .int .i64 n, .bool p.g, .slice p.a p.n p.c, .slice p.b p.m p.d] 73) = x := ⟨_, rfl⟩
 have br : BoxP wo wa.heap.size [.int .i64 5, .int .i64 (A : Int), .int .i64 (B : Int), .int .i64 n, .bool p.g, .slice p.a p.n p.c, .slice p.b p.m p.d] := by rw [← hwo]; exact BoxP.made _ _ _
 have hbo : Below wa.heap.size wa wo := by rw [← hwo]; exact (Below.refl _ _).alloc (Nat.le_refl _) _
 have x0 := (hbo.cell (World.block_lt_of_cell? _ _ x0)).trans x0
 have x1 := (hbo.cell (World.block_lt_of_cell? _ _ x1)).trans x1
 have x2 := (hbo.cell (World.block_lt_of_cell? _ _ x2)).trans x2
 have x3 := (hbo.cell (World.block_lt_of_cell? _ _ x3)).trans x3
 have x4 := (hbo.cell (World.block_lt_of_cell? _ _ x4)).trans x4
 have x5 := (hbo.cell (World.block_lt_of_cell? _ _ x5)).trans x5
 have y0 := (br.all 0 _ rfl).1
 have y1 := (br.all 1 _ rfl).1
 have y2 := (br.all 2 _ rfl).1
 have y3 := (br.all 3 _ rfl).1
 have y4 := (br.all 4 _ rfl).1
 have y5 := (br.all 5 _ rfl).1
 have y6 := (br.all 6 _ rfl).1
 have HB := hide (hba.trans (hbo.mono hba.size))
 have hso := (hs.below hba).below hbo
 have hdo := (hd.below hba).below hbo
 have hoe : dgO d (fun v => mvP I (f v)) ⟨5, (A : Int), (B : Int), n, p⟩ = dgO d (fun v => mvP I (f v)) ⟨5, (A : Int), (B : Int), n, p⟩ := rfl
 obtain ⟨R, hR⟩ : ∃ R, dgO d (fun v => mvP I (f v)) ⟨5, (A : Int), (B : Int), n, p⟩ = R := ⟨_, rfl⟩
 rw [hR]
 clear hoe
 have HO := hide (roperands_any ⟨5, (A : Int), (B : Int), n, p⟩ (by simp) (by simp) wo)
 rw [show opsL ⟨5, (A : Int), (B : Int), n, p⟩ = [(A : Int), (B : Int)] from by simp [opsL, twoK, oneK]] at HO
 have HL := hide (show ∀ x ∈ [(A : Int), (B : Int)], 0 ≤ x ∧ x < (kd : Int) from by simp; omega)
 have HRn := hide (show ∀ x ∈ [(A : Int), (B : Int)], d x.toNat = -1 → R = -1 from by
  intro x hx hxd
  rw [← hR]
  unfold dgO
  have : (opsL ⟨5, (A : Int), (B : Int), n, p⟩).any (fun a => decide (d a.toNat = -1)) = true := by
   rw [show opsL ⟨5, (A : Int), (B : Int), n, p⟩ = [(A : Int), (B : Int)] from by simp [opsL, twoK, oneK]]
   exact List.any_eq_true.2 ⟨x, hx, by simpa using hxd⟩
  rw [this]
  simp)
 have HRy := hide (show (∀ x ∈ [(A : Int), (B : Int)], d x.toNat ≠ -1) → R = capI (d A + d B) from by
  intro hx
  rw [← hR]
  unfold dgO
  have : (opsL ⟨5, (A : Int), (B : Int), n, p⟩).any (fun a => decide (d a.toNat = -1)) = false := by
   rw [show opsL ⟨5, (A : Int), (B : Int), n, p⟩ = [(A : Int), (B : Int)] from by simp [opsL, twoK, oneK]]
   rw [List.any_eq_false]
   intro x hx2
   simpa using hx x hx2
  rw [this]
  simp)
 have HCp := hide rcapped_any
 have HD := hide hdo
 have HRG := hide hr
 have hkA : (A : Int) < (kd : Int) := by omega
 have hkB : (B : Int) < (kd : Int) := by omega
 unfold opV at HO ⊢
 unfold wkV
 clear bx br hba hbo hR hs hT hr hd hso hdo
 go_enter Tryz.func58, Tryz.ntmps58
 go_wp2_with fail
 refine (unhide HO).mono ?_
 rintro _ w1 ⟨z, m, c, rfl, hz, _, b1⟩
 have hm : m = 2 := by have := hz.len; simpa using this.symm
 have HZ := hide hz
 have HB1 := hide b1
 have HD1 := hide ((unhide HD).below b1)
 have x0 := (b1.cell (World.block_lt_of_cell? _ _ x0)).trans x0
 have x1 := (b1.cell (World.block_lt_of_cell? _ _ x1)).trans x1
 have x2 := (b1.cell (World.block_lt_of_cell? _ _ x2)).trans x2
 have x3 := (b1.cell (World.block_lt_of_cell? _ _ x3)).trans x3
 have x4 := (b1.cell (World.block_lt_of_cell? _ _ x4)).trans x4
 have x5 := (b1.cell (World.block_lt_of_cell? _ _ x5)).trans x5
 have y0 := (b1.cell (World.block_lt_of_cell? _ _ y0)).trans y0
 have y1 := (b1.cell (World.block_lt_of_cell? _ _ y1)).trans y1
 have y2 := (b1.cell (World.block_lt_of_cell? _ _ y2)).trans y2
 have y3 := (b1.cell (World.block_lt_of_cell? _ _ y3)).trans y3
 have y4 := (b1.cell (World.block_lt_of_cell? _ _ y4)).trans y4
 have y5 := (b1.cell (World.block_lt_of_cell? _ _ y5)).trans y5
 have y6 := (b1.cell (World.block_lt_of_cell? _ _ y6)).trans y6
 obtain ⟨L, hL⟩ : ∃ L, [(A : Int), (B : Int)] = L := ⟨_, rfl⟩
 rw [hL] at HZ HL HRn HRy
 have HLL := hide hL
 have HMM := hide hm
 have hm2 : m ≤ 2 := by omega
 clear hz b1 HO HD hwo hwa hL hm
 go_wp2_with fail
 go_loopw [27] (fun iv wr => ∃ q : Nat, q ≤ m ∧ iv = .int .i64 (q : Int) ∧ wr = w1 ∧ Hid (∀ x ∈ L.take q, d x.toNat ≠ -1)) (fun iv _ => m - (intOf iv).toNat)
 case atStart => exact ⟨0, Nat.zero_le _, rfl, rfl, hide (by simp)⟩
 case round =>
  obtain ⟨q, hq, rfl, hwr, HF⟩ := hrel
  obtain rfl := hwr
  by_cases hlt : q < m
  ·have hlt' : (q : Int) < (m : Int) := by omega
   have hql : q < L.length := by have := (unhide HZ).len; omega
   obtain ⟨zb, zo, rfl, hc⟩ := (unhide HZ).at (by omega)
   have sk := hc q hlt
   have hxm : L.getD q 0 ∈ L := by rw [List.getD_eq_getElem?_getD, List.getElem?_eq_getElem hql]; exact List.getElem_mem hql
   have hx := unhide HL (L.getD q 0) hxm
   obtain ⟨x, hxx⟩ : ∃ x : Nat, L.getD q 0 = (x : Int) := ⟨(L.getD q 0).toNat, by omega⟩
   have HX := hide (show L.take (q + 1) = L.take q ++ [(x : Int)] from by rw [List.take_succ_eq_append_getElem hql, ← hxx, List.getD_eq_getElem?_getD, List.getElem?_eq_getElem hql]; rfl)
   rw [hxx] at sk hx hxm
   have hxk : x < kd := by omega
   have hxk' : (x : Int) < (kd : Int) := by omega
   obtain ⟨db, dz, rfl, hdc⟩ := (unhide HD1).at (by omega)
   have eX : ((List.range kd).map d).getD x 0 = d x := by rw [List.getD_eq_getElem?_getD, List.getElem?_map, List.getElem?_range hxk]; rfl
   have dX := hdc x hxk
   rw [eX] at dX
   have HXM := hide hxm
   clear hc hdc eX hxx hxm
   by_cases c1 : d x = -1
   ·have HR := hide (unhide HRn (x : Int) (unhide HXM) (by simpa using c1))
    rw [c1] at dX
    clear hql c1
    go_wp2_with fail
    try go_ret
    exact ⟨by rw [unhide HR]; try rfl, (unhide HB).trans ((unhide HB1).mono (unhide HB).size)⟩
   ·have HF2 := hide (show ∀ y ∈ L.take (q + 1), d y.toNat ≠ -1 from by
     rw [unhide HX]
     intro y hy
     rcases List.mem_append.1 hy with hy | hy
     ·exact unhide HF y hy
     ·simp at hy; subst hy; simpa using c1)
    obtain ⟨DX, hDX⟩ : ∃ DX, d x = DX := ⟨_, rfl⟩
    rw [hDX] at dX c1
    have q1 : (DX == -1) = false := by simpa using c1
    clear hql c1 hDX
    go_wp2_with fail
    exact ⟨⟨q + 1, by omega, by (first | rfl | go_num), by (first | rfl | trivial), HF2⟩, by simp [intOf]; omega⟩
  ·obtain rfl : q = m := by omega
   have hlt' : ¬ (q : Int) < (q : Int) := by omega
   have hR2 := unhide HRy (by have := unhide HF; rw [List.take_of_length_le (by have := (unhide HZ).len; omega)] at this; exact this)
   obtain ⟨db, dz, rfl, hdc⟩ := (unhide HD1).at (by omega)
   have eA : ((List.range kd).map d).getD A 0 = d A := by rw [List.getD_eq_getElem?_getD, List.getElem?_map, List.getElem?_range hA]; rfl
   have dA := hdc A hA
   rw [eA] at dA
   have rA := unhide HRG A
   have eB : ((List.range kd).map d).getD B 0 = d B := by rw [List.getD_eq_getElem?_getD, List.getElem?_map, List.getElem?_range hB]; rfl
   have dB := hdc B hB
   rw [eB] at dB
   have rB := unhide HRG B
   obtain ⟨DA, hDA⟩ : ∃ x, d A = x := ⟨_, rfl⟩
   rw [hDA] at dA hR2 rA
   obtain ⟨DB, hDB⟩ : ∃ x, d B = x := ⟨_, rfl⟩
   rw [hDB] at dB hR2 rB
   clear hdc eA hDA eB hDB
   have HR := hide hR2
   clear hR2
   go_wp2_with fail
   go_quiet ((go_at_call 84; exact Calls.quiet_of_same (unhide HCp (DA + DB) _)))
   go_wp2_with fail
   try go_ret
   exact ⟨by rw [unhide HR]; try rfl, by first | exact (unhide HB).trans ((unhide HB1).mono (unhide HB).size) | exact bel_drewN ((unhide HB).trans ((unhide HB1).mono (unhide HB).size)) _⟩
set_option maxRecDepth 100000 in
set_option maxHeartbeats 8000000 in
theorem rdeg_6 (I : Nat) (sa : Option Addr) (k sc : Nat) (T : List Bs.SetC) (f : Nat → Nat → Bool) (i : Int) (ta : Option Addr) (tn tc : Nat) (tb : Option Addr) (tm td : Nat) (la : Option Addr) (ln lc : Nat) (A B : Nat) (n : Int) (p : Nq) (da : Option Addr) (kd dc : Nat) (d : Nat → Int) (w : World) (hkd : kd ≤ k) (hT : WkT I k T f) (hs : Bs.SlS w sa k sc T) (hd : SlI w da kd dc ((List.range kd).map d)) (hr : ∀ v, -1 ≤ d v ∧ d v ≤ 1099511627776) (hn : -1024 ≤ n ∧ n ≤ 1024) (hA : A < kd) (hB : B < kd) :
  Calls Tryz.prog 58 #[wkV (I : Int) sa k sc i ta tn tc tb tm td la ln lc, opV ⟨6, (A : Int), (B : Int), n, p⟩, .slice da kd dc] w fun e w' => e = .returned (.int .i64 (dgO d (fun v => mvP I (f v)) ⟨6, (A : Int), (B : Int), n, p⟩)) ∧ Below w.heap.size w w' := by
 obtain ⟨wa, hwa⟩ : ∃ x, w.alloc (.cells #[.int .i64 (I : Int), .slice sa k sc, .int .i64 i, .slice ta tn tc, .slice tb tm td, .slice la ln lc] 63) = x := ⟨_, rfl⟩
 have bx : BoxP wa w.heap.size [.int .i64 (I : Int), .slice sa k sc, .int .i64 i, .slice ta tn tc, .slice tb tm td, .slice la ln lc] := by rw [← hwa]; exact BoxP.made _ _ _
 have hba : Below w.heap.size w wa := by rw [← hwa]; exact (Below.refl _ _).alloc (Nat.le_refl _) _
 have x0 := (bx.all 0 _ rfl).1
 have x1 := (bx.all 1 _ rfl).1
 have x2 := (bx.all 2 _ rfl).1
 have x3 := (bx.all 3 _ rfl).1
 have x4 := (bx.all 4 _ rfl).1
 have x5 := (bx.all 5 _ rfl).1
 obtain ⟨wo, hwo⟩ : ∃ x, wa.alloc (.cells #[.int .i64 6, .int .i64 (A : Int), .int .i64 (B : Int), .int .i64 n, .bool p.g, .slice p.a p.n p.c, .slice p.b p.m p.d] 73) = x := ⟨_, rfl⟩
 have br : BoxP wo wa.heap.size [.int .i64 6, .int .i64 (A : Int), .int .i64 (B : Int), .int .i64 n, .bool p.g, .slice p.a p.n p.c, .slice p.b p.m p.d] := by rw [← hwo]; exact BoxP.made _ _ _
 have hbo : Below wa.heap.size wa wo := by rw [← hwo]; exact (Below.refl _ _).alloc (Nat.le_refl _) _
 have x0 := (hbo.cell (World.block_lt_of_cell? _ _ x0)).trans x0
 have x1 := (hbo.cell (World.block_lt_of_cell? _ _ x1)).trans x1
 have x2 := (hbo.cell (World.block_lt_of_cell? _ _ x2)).trans x2
 have x3 := (hbo.cell (World.block_lt_of_cell? _ _ x3)).trans x3
 have x4 := (hbo.cell (World.block_lt_of_cell? _ _ x4)).trans x4
 have x5 := (hbo.cell (World.block_lt_of_cell? _ _ x5)).trans x5
 have y0 := (br.all 0 _ rfl).1
 have y1 := (br.all 1 _ rfl).1
 have y2 := (br.all 2 _ rfl).1
 have y3 := (br.all 3 _ rfl).1
 have y4 := (br.all 4 _ rfl).1
 have y5 := (br.all 5 _ rfl).1
 have y6 := (br.all 6 _ rfl).1
 have HB := hide (hba.trans (hbo.mono hba.size))
 have hso := (hs.below hba).below hbo
 have hdo := (hd.below hba).below hbo
 have hoe : dgO d (fun v => mvP I (f v)) ⟨6, (A : Int), (B : Int), n, p⟩ = dgO d (fun v => mvP I (f v)) ⟨6, (A : Int), (B : Int), n, p⟩ := rfl
 obtain ⟨R, hR⟩ : ∃ R, dgO d (fun v => mvP I (f v)) ⟨6, (A : Int), (B : Int), n, p⟩ = R := ⟨_, rfl⟩
 rw [hR]
 clear hoe
 have HO := hide (roperands_any ⟨6, (A : Int), (B : Int), n, p⟩ (by simp) (by simp) wo)
 rw [show opsL ⟨6, (A : Int), (B : Int), n, p⟩ = [(A : Int), (B : Int)] from by simp [opsL, twoK, oneK]] at HO
 have HL := hide (show ∀ x ∈ [(A : Int), (B : Int)], 0 ≤ x ∧ x < (kd : Int) from by simp; omega)
 have HRn := hide (show ∀ x ∈ [(A : Int), (B : Int)], d x.toNat = -1 → R = -1 from by
  intro x hx hxd
  rw [← hR]
  unfold dgO
  have : (opsL ⟨6, (A : Int), (B : Int), n, p⟩).any (fun a => decide (d a.toNat = -1)) = true := by
   rw [show opsL ⟨6, (A : Int), (B : Int), n, p⟩ = [(A : Int), (B : Int)] from by simp [opsL, twoK, oneK]]
   exact List.any_eq_true.2 ⟨x, hx, by simpa using hxd⟩
  rw [this]
  simp)
 have HRy := hide (show (∀ x ∈ [(A : Int), (B : Int)], d x.toNat ≠ -1) → R = (if mvP I (f B) = true then -1 else d A) from by
  intro hx
  rw [← hR]
  unfold dgO
  have : (opsL ⟨6, (A : Int), (B : Int), n, p⟩).any (fun a => decide (d a.toNat = -1)) = false := by
   rw [show opsL ⟨6, (A : Int), (B : Int), n, p⟩ = [(A : Int), (B : Int)] from by simp [opsL, twoK, oneK]]
   rw [List.any_eq_false]
   intro x hx2
   simpa using hx x hx2
  rw [this]
  simp)
 have HM := hide (fun (W : World) (hb : Below wo.heap.size wo W) => rmoves_any I sa k sc T f i ta tn tc tb tm td la ln lc B W hT (hso.below hb) (by omega))
 unfold wkV at HM
 have HD := hide hdo
 have HRG := hide hr
 have hkA : (A : Int) < (kd : Int) := by omega
 have hkB : (B : Int) < (kd : Int) := by omega
 unfold opV at HO ⊢
 unfold wkV
 clear bx br hba hbo hR hs hT hr hd hso hdo
 go_enter Tryz.func58, Tryz.ntmps58
 go_wp2_with fail
 refine (unhide HO).mono ?_
 rintro _ w1 ⟨z, m, c, rfl, hz, _, b1⟩
 have hm : m = 2 := by have := hz.len; simpa using this.symm
 have HZ := hide hz
 have HB1 := hide b1
 have HD1 := hide ((unhide HD).below b1)
 have x0 := (b1.cell (World.block_lt_of_cell? _ _ x0)).trans x0
 have x1 := (b1.cell (World.block_lt_of_cell? _ _ x1)).trans x1
 have x2 := (b1.cell (World.block_lt_of_cell? _ _ x2)).trans x2
 have x3 := (b1.cell (World.block_lt_of_cell? _ _ x3)).trans x3
 have x4 := (b1.cell (World.block_lt_of_cell? _ _ x4)).trans x4
 have x5 := (b1.cell (World.block_lt_of_cell? _ _ x5)).trans x5
 have y0 := (b1.cell (World.block_lt_of_cell? _ _ y0)).trans y0
 have y1 := (b1.cell (World.block_lt_of_cell? _ _ y1)).trans y1
 have y2 := (b1.cell (World.block_lt_of_cell? _ _ y2)).trans y2
 have y3 := (b1.cell (World.block_lt_of_cell? _ _ y3)).trans y3
 have y4 := (b1.cell (World.block_lt_of_cell? _ _ y4)).trans y4
 have y5 := (b1.cell (World.block_lt_of_cell? _ _ y5)).trans y5
 have y6 := (b1.cell (World.block_lt_of_cell? _ _ y6)).trans y6
 obtain ⟨L, hL⟩ : ∃ L, [(A : Int), (B : Int)] = L := ⟨_, rfl⟩
 rw [hL] at HZ HL HRn HRy
 have HLL := hide hL
 have HMM := hide hm
 have hm2 : m ≤ 2 := by omega
 clear hz b1 HO HD hwo hwa hL hm
 go_wp2_with fail
 go_loopw [27] (fun iv wr => ∃ q : Nat, q ≤ m ∧ iv = .int .i64 (q : Int) ∧ wr = w1 ∧ Hid (∀ x ∈ L.take q, d x.toNat ≠ -1)) (fun iv _ => m - (intOf iv).toNat)
 case atStart => exact ⟨0, Nat.zero_le _, rfl, rfl, hide (by simp)⟩
 case round =>
  obtain ⟨q, hq, rfl, hwr, HF⟩ := hrel
  obtain rfl := hwr
  by_cases hlt : q < m
  ·have hlt' : (q : Int) < (m : Int) := by omega
   have hql : q < L.length := by have := (unhide HZ).len; omega
   obtain ⟨zb, zo, rfl, hc⟩ := (unhide HZ).at (by omega)
   have sk := hc q hlt
   have hxm : L.getD q 0 ∈ L := by rw [List.getD_eq_getElem?_getD, List.getElem?_eq_getElem hql]; exact List.getElem_mem hql
   have hx := unhide HL (L.getD q 0) hxm
   obtain ⟨x, hxx⟩ : ∃ x : Nat, L.getD q 0 = (x : Int) := ⟨(L.getD q 0).toNat, by omega⟩
   have HX := hide (show L.take (q + 1) = L.take q ++ [(x : Int)] from by rw [List.take_succ_eq_append_getElem hql, ← hxx, List.getD_eq_getElem?_getD, List.getElem?_eq_getElem hql]; rfl)
   rw [hxx] at sk hx hxm
   have hxk : x < kd := by omega
   have hxk' : (x : Int) < (kd : Int) := by omega
   obtain ⟨db, dz, rfl, hdc⟩ := (unhide HD1).at (by omega)
   have eX : ((List.range kd).map d).getD x 0 = d x := by rw [List.getD_eq_getElem?_getD, List.getElem?_map, List.getElem?_range hxk]; rfl
   have dX := hdc x hxk
   rw [eX] at dX
   have HXM := hide hxm
   clear hc hdc eX hxx hxm
   by_cases c1 : d x = -1
   ·have HR := hide (unhide HRn (x : Int) (unhide HXM) (by simpa using c1))
    rw [c1] at dX
    clear hql c1
    go_wp2_with fail
    try go_ret
    exact ⟨by rw [unhide HR]; try rfl, (unhide HB).trans ((unhide HB1).mono (unhide HB).size)⟩
   ·have HF2 := hide (show ∀ y ∈ L.take (q + 1), d y.toNat ≠ -1 from by
     rw [unhide HX]
     intro y hy
     rcases List.mem_append.1 hy with hy | hy
     ·exact unhide HF y hy
     ·simp at hy; subst hy; simpa using c1)
    obtain ⟨DX, hDX⟩ : ∃ DX, d x = DX := ⟨_, rfl⟩
    rw [hDX] at dX c1
    have q1 : (DX == -1) = false := by simpa using c1
    clear hql c1 hDX
    go_wp2_with fail
    exact ⟨⟨q + 1, by omega, by (first | rfl | go_num), by (first | rfl | trivial), HF2⟩, by simp [intOf]; omega⟩
  ·obtain rfl : q = m := by omega
   have hlt' : ¬ (q : Int) < (q : Int) := by omega
   have hR2 := unhide HRy (by have := unhide HF; rw [List.take_of_length_le (by have := (unhide HZ).len; omega)] at this; exact this)
   obtain ⟨db, dz, rfl, hdc⟩ := (unhide HD1).at (by omega)
   have eA : ((List.range kd).map d).getD A 0 = d A := by rw [List.getD_eq_getElem?_getD, List.getElem?_map, List.getElem?_range hA]; rfl
   have dA := hdc A hA
   rw [eA] at dA
   have rA := unhide HRG A
   have eB : ((List.range kd).map d).getD B 0 = d B := by rw [List.getD_eq_getElem?_getD, List.getElem?_map, List.getElem?_range hB]; rfl
   have dB := hdc B hB
   rw [eB] at dB
   have rB := unhide HRG B
   obtain ⟨DA, hDA⟩ : ∃ x, d A = x := ⟨_, rfl⟩
   rw [hDA] at dA hR2 rA
   obtain ⟨DB, hDB⟩ : ∃ x, d B = x := ⟨_, rfl⟩
   rw [hDB] at dB rB
   clear hdc eA hDA eB hDB
   cases c3 : mvP I (f B)
   ·rw [if_neg (by rw [c3]; decide)] at hR2
    have HR := hide hR2
    rw [c3] at HM
    clear hR2 c3
    go_wp2_with fail
    refine (unhide HM _ (unhide HB1)).mono ?_
    rintro _ w2 ⟨rfl, b2⟩
    have HB1 := hide ((unhide HB1).trans (b2.mono (unhide HB1).size))
    have x0 := (b2.cell (World.block_lt_of_cell? _ _ x0)).trans x0
    have x1 := (b2.cell (World.block_lt_of_cell? _ _ x1)).trans x1
    have x2 := (b2.cell (World.block_lt_of_cell? _ _ x2)).trans x2
    have x3 := (b2.cell (World.block_lt_of_cell? _ _ x3)).trans x3
    have x4 := (b2.cell (World.block_lt_of_cell? _ _ x4)).trans x4
    have x5 := (b2.cell (World.block_lt_of_cell? _ _ x5)).trans x5
    have y0 := (b2.cell (World.block_lt_of_cell? _ _ y0)).trans y0
    have y1 := (b2.cell (World.block_lt_of_cell? _ _ y1)).trans y1
    have y2 := (b2.cell (World.block_lt_of_cell? _ _ y2)).trans y2
    have y3 := (b2.cell (World.block_lt_of_cell? _ _ y3)).trans y3
    have y4 := (b2.cell (World.block_lt_of_cell? _ _ y4)).trans y4
    have y5 := (b2.cell (World.block_lt_of_cell? _ _ y5)).trans y5
    have y6 := (b2.cell (World.block_lt_of_cell? _ _ y6)).trans y6
    have dA := (b2.cell (World.block_lt_of_cell? _ _ dA)).trans dA
    clear b2 HM
    go_wp2_with fail
    try go_ret
    exact ⟨by rw [unhide HR]; try rfl, by first | exact (unhide HB).trans ((unhide HB1).mono (unhide HB).size) | exact bel_drewN ((unhide HB).trans ((unhide HB1).mono (unhide HB).size)) _⟩
   ·rw [if_pos c3] at hR2
    have HR := hide hR2
    rw [c3] at HM
    clear hR2 c3
    go_wp2_with fail
    refine (unhide HM _ (unhide HB1)).mono ?_
    rintro _ w2 ⟨rfl, b2⟩
    have HB1 := hide ((unhide HB1).trans (b2.mono (unhide HB1).size))
    have x0 := (b2.cell (World.block_lt_of_cell? _ _ x0)).trans x0
    have x1 := (b2.cell (World.block_lt_of_cell? _ _ x1)).trans x1
    have x2 := (b2.cell (World.block_lt_of_cell? _ _ x2)).trans x2
    have x3 := (b2.cell (World.block_lt_of_cell? _ _ x3)).trans x3
    have x4 := (b2.cell (World.block_lt_of_cell? _ _ x4)).trans x4
    have x5 := (b2.cell (World.block_lt_of_cell? _ _ x5)).trans x5
    have y0 := (b2.cell (World.block_lt_of_cell? _ _ y0)).trans y0
    have y1 := (b2.cell (World.block_lt_of_cell? _ _ y1)).trans y1
    have y2 := (b2.cell (World.block_lt_of_cell? _ _ y2)).trans y2
    have y3 := (b2.cell (World.block_lt_of_cell? _ _ y3)).trans y3
    have y4 := (b2.cell (World.block_lt_of_cell? _ _ y4)).trans y4
    have y5 := (b2.cell (World.block_lt_of_cell? _ _ y5)).trans y5
    have y6 := (b2.cell (World.block_lt_of_cell? _ _ y6)).trans y6
    have dA := (b2.cell (World.block_lt_of_cell? _ _ dA)).trans dA
    clear b2 HM
    go_wp2_with fail
    try go_ret
    exact ⟨by rw [unhide HR]; try rfl, by first | exact (unhide HB).trans ((unhide HB1).mono (unhide HB).size) | exact bel_drewN ((unhide HB).trans ((unhide HB1).mono (unhide HB).size)) _⟩
set_option maxRecDepth 100000 in
set_option maxHeartbeats 8000000 in
theorem rdeg_7 (I : Nat) (sa : Option Addr) (k sc : Nat) (T : List Bs.SetC) (f : Nat → Nat → Bool) (i : Int) (ta : Option Addr) (tn tc : Nat) (tb : Option Addr) (tm td : Nat) (la : Option Addr) (ln lc : Nat) (A B : Nat) (n : Int) (p : Nq) (da : Option Addr) (kd dc : Nat) (d : Nat → Int) (w : World) (hkd : kd ≤ k) (hT : WkT I k T f) (hs : Bs.SlS w sa k sc T) (hd : SlI w da kd dc ((List.range kd).map d)) (hr : ∀ v, -1 ≤ d v ∧ d v ≤ 1099511627776) (hn : -1024 ≤ n ∧ n ≤ 1024) (hA : A < kd) :
  Calls Tryz.prog 58 #[wkV (I : Int) sa k sc i ta tn tc tb tm td la ln lc, opV ⟨7, (A : Int), (B : Int), n, p⟩, .slice da kd dc] w fun e w' => e = .returned (.int .i64 (dgO d (fun v => mvP I (f v)) ⟨7, (A : Int), (B : Int), n, p⟩)) ∧ Below w.heap.size w w' := by
 obtain ⟨wa, hwa⟩ : ∃ x, w.alloc (.cells #[.int .i64 (I : Int), .slice sa k sc, .int .i64 i, .slice ta tn tc, .slice tb tm td, .slice la ln lc] 63) = x := ⟨_, rfl⟩
 have bx : BoxP wa w.heap.size [.int .i64 (I : Int), .slice sa k sc, .int .i64 i, .slice ta tn tc, .slice tb tm td, .slice la ln lc] := by rw [← hwa]; exact BoxP.made _ _ _
 have hba : Below w.heap.size w wa := by rw [← hwa]; exact (Below.refl _ _).alloc (Nat.le_refl _) _
 have x0 := (bx.all 0 _ rfl).1
 have x1 := (bx.all 1 _ rfl).1
 have x2 := (bx.all 2 _ rfl).1
 have x3 := (bx.all 3 _ rfl).1
 have x4 := (bx.all 4 _ rfl).1
 have x5 := (bx.all 5 _ rfl).1
 obtain ⟨wo, hwo⟩ : ∃ x, wa.alloc (.cells #[.int .i64 7, .int .i64 (A : Int), .int .i64 (B : Int), .int .i64 n, .bool p.g, .slice p.a p.n p.c, .slice p.b p.m p.d] 73) = x := ⟨_, rfl⟩
 have br : BoxP wo wa.heap.size [.int .i64 7, .int .i64 (A : Int), .int .i64 (B : Int), .int .i64 n, .bool p.g, .slice p.a p.n p.c, .slice p.b p.m p.d] := by rw [← hwo]; exact BoxP.made _ _ _
 have hbo : Below wa.heap.size wa wo := by rw [← hwo]; exact (Below.refl _ _).alloc (Nat.le_refl _) _
 have x0 := (hbo.cell (World.block_lt_of_cell? _ _ x0)).trans x0
 have x1 := (hbo.cell (World.block_lt_of_cell? _ _ x1)).trans x1
 have x2 := (hbo.cell (World.block_lt_of_cell? _ _ x2)).trans x2
 have x3 := (hbo.cell (World.block_lt_of_cell? _ _ x3)).trans x3
 have x4 := (hbo.cell (World.block_lt_of_cell? _ _ x4)).trans x4
 have x5 := (hbo.cell (World.block_lt_of_cell? _ _ x5)).trans x5
 have y0 := (br.all 0 _ rfl).1
 have y1 := (br.all 1 _ rfl).1
 have y2 := (br.all 2 _ rfl).1
 have y3 := (br.all 3 _ rfl).1
 have y4 := (br.all 4 _ rfl).1
 have y5 := (br.all 5 _ rfl).1
 have y6 := (br.all 6 _ rfl).1
 have HB := hide (hba.trans (hbo.mono hba.size))
 have hso := (hs.below hba).below hbo
 have hdo := (hd.below hba).below hbo
 have hoe : dgO d (fun v => mvP I (f v)) ⟨7, (A : Int), (B : Int), n, p⟩ = dgO d (fun v => mvP I (f v)) ⟨7, (A : Int), (B : Int), n, p⟩ := rfl
 obtain ⟨R, hR⟩ : ∃ R, dgO d (fun v => mvP I (f v)) ⟨7, (A : Int), (B : Int), n, p⟩ = R := ⟨_, rfl⟩
 rw [hR]
 clear hoe
 have HO := hide (roperands_any ⟨7, (A : Int), (B : Int), n, p⟩ (by simp) (by simp) wo)
 rw [show opsL ⟨7, (A : Int), (B : Int), n, p⟩ = [(A : Int)] from by simp [opsL, twoK, oneK]] at HO
 have HL := hide (show ∀ x ∈ [(A : Int)], 0 ≤ x ∧ x < (kd : Int) from by simp; omega)
 have HRn := hide (show ∀ x ∈ [(A : Int)], d x.toNat = -1 → R = -1 from by
  intro x hx hxd
  rw [← hR]
  unfold dgO
  have : (opsL ⟨7, (A : Int), (B : Int), n, p⟩).any (fun a => decide (d a.toNat = -1)) = true := by
   rw [show opsL ⟨7, (A : Int), (B : Int), n, p⟩ = [(A : Int)] from by simp [opsL, twoK, oneK]]
   exact List.any_eq_true.2 ⟨x, hx, by simpa using hxd⟩
  rw [this]
  simp)
 have HRy := hide (show (∀ x ∈ [(A : Int)], d x.toNat ≠ -1) → R = d A from by
  intro hx
  rw [← hR]
  unfold dgO
  have : (opsL ⟨7, (A : Int), (B : Int), n, p⟩).any (fun a => decide (d a.toNat = -1)) = false := by
   rw [show opsL ⟨7, (A : Int), (B : Int), n, p⟩ = [(A : Int)] from by simp [opsL, twoK, oneK]]
   rw [List.any_eq_false]
   intro x hx2
   simpa using hx x hx2
  rw [this]
  simp)
 have HD := hide hdo
 have HRG := hide hr
 have hkA : (A : Int) < (kd : Int) := by omega
 unfold opV at HO ⊢
 unfold wkV
 clear bx br hba hbo hR hs hT hr hd hso hdo
 go_enter Tryz.func58, Tryz.ntmps58
 go_wp2_with fail
 refine (unhide HO).mono ?_
 rintro _ w1 ⟨z, m, c, rfl, hz, _, b1⟩
 have hm : m = 1 := by have := hz.len; simpa using this.symm
 have HZ := hide hz
 have HB1 := hide b1
 have HD1 := hide ((unhide HD).below b1)
 have x0 := (b1.cell (World.block_lt_of_cell? _ _ x0)).trans x0
 have x1 := (b1.cell (World.block_lt_of_cell? _ _ x1)).trans x1
 have x2 := (b1.cell (World.block_lt_of_cell? _ _ x2)).trans x2
 have x3 := (b1.cell (World.block_lt_of_cell? _ _ x3)).trans x3
 have x4 := (b1.cell (World.block_lt_of_cell? _ _ x4)).trans x4
 have x5 := (b1.cell (World.block_lt_of_cell? _ _ x5)).trans x5
 have y0 := (b1.cell (World.block_lt_of_cell? _ _ y0)).trans y0
 have y1 := (b1.cell (World.block_lt_of_cell? _ _ y1)).trans y1
 have y2 := (b1.cell (World.block_lt_of_cell? _ _ y2)).trans y2
 have y3 := (b1.cell (World.block_lt_of_cell? _ _ y3)).trans y3
 have y4 := (b1.cell (World.block_lt_of_cell? _ _ y4)).trans y4
 have y5 := (b1.cell (World.block_lt_of_cell? _ _ y5)).trans y5
 have y6 := (b1.cell (World.block_lt_of_cell? _ _ y6)).trans y6
 obtain ⟨L, hL⟩ : ∃ L, [(A : Int)] = L := ⟨_, rfl⟩
 rw [hL] at HZ HL HRn HRy
 have HLL := hide hL
 have HMM := hide hm
 have hm2 : m ≤ 2 := by omega
 clear hz b1 HO HD hwo hwa hL hm
 go_wp2_with fail
 go_loopw [27] (fun iv wr => ∃ q : Nat, q ≤ m ∧ iv = .int .i64 (q : Int) ∧ wr = w1 ∧ Hid (∀ x ∈ L.take q, d x.toNat ≠ -1)) (fun iv _ => m - (intOf iv).toNat)
 case atStart => exact ⟨0, Nat.zero_le _, rfl, rfl, hide (by simp)⟩
 case round =>
  obtain ⟨q, hq, rfl, hwr, HF⟩ := hrel
  obtain rfl := hwr
  by_cases hlt : q < m
  ·have hlt' : (q : Int) < (m : Int) := by omega
   have hql : q < L.length := by have := (unhide HZ).len; omega
   obtain ⟨zb, zo, rfl, hc⟩ := (unhide HZ).at (by omega)
   have sk := hc q hlt
   have hxm : L.getD q 0 ∈ L := by rw [List.getD_eq_getElem?_getD, List.getElem?_eq_getElem hql]; exact List.getElem_mem hql
   have hx := unhide HL (L.getD q 0) hxm
   obtain ⟨x, hxx⟩ : ∃ x : Nat, L.getD q 0 = (x : Int) := ⟨(L.getD q 0).toNat, by omega⟩
   have HX := hide (show L.take (q + 1) = L.take q ++ [(x : Int)] from by rw [List.take_succ_eq_append_getElem hql, ← hxx, List.getD_eq_getElem?_getD, List.getElem?_eq_getElem hql]; rfl)
   rw [hxx] at sk hx hxm
   have hxk : x < kd := by omega
   have hxk' : (x : Int) < (kd : Int) := by omega
   obtain ⟨db, dz, rfl, hdc⟩ := (unhide HD1).at (by omega)
   have eX : ((List.range kd).map d).getD x 0 = d x := by rw [List.getD_eq_getElem?_getD, List.getElem?_map, List.getElem?_range hxk]; rfl
   have dX := hdc x hxk
   rw [eX] at dX
   have HXM := hide hxm
   clear hc hdc eX hxx hxm
   by_cases c1 : d x = -1
   ·have HR := hide (unhide HRn (x : Int) (unhide HXM) (by simpa using c1))
    rw [c1] at dX
    clear hql c1
    go_wp2_with fail
    try go_ret
    exact ⟨by rw [unhide HR]; try rfl, (unhide HB).trans ((unhide HB1).mono (unhide HB).size)⟩
   ·have HF2 := hide (show ∀ y ∈ L.take (q + 1), d y.toNat ≠ -1 from by
     rw [unhide HX]
     intro y hy
     rcases List.mem_append.1 hy with hy | hy
     ·exact unhide HF y hy
     ·simp at hy; subst hy; simpa using c1)
    obtain ⟨DX, hDX⟩ : ∃ DX, d x = DX := ⟨_, rfl⟩
    rw [hDX] at dX c1
    have q1 : (DX == -1) = false := by simpa using c1
    clear hql c1 hDX
    go_wp2_with fail
    exact ⟨⟨q + 1, by omega, by (first | rfl | go_num), by (first | rfl | trivial), HF2⟩, by simp [intOf]; omega⟩
  ·obtain rfl : q = m := by omega
   have hlt' : ¬ (q : Int) < (q : Int) := by omega
   have hR2 := unhide HRy (by have := unhide HF; rw [List.take_of_length_le (by have := (unhide HZ).len; omega)] at this; exact this)
   obtain ⟨db, dz, rfl, hdc⟩ := (unhide HD1).at (by omega)
   have eA : ((List.range kd).map d).getD A 0 = d A := by rw [List.getD_eq_getElem?_getD, List.getElem?_map, List.getElem?_range hA]; rfl
   have dA := hdc A hA
   rw [eA] at dA
   have rA := unhide HRG A
   obtain ⟨DA, hDA⟩ : ∃ x, d A = x := ⟨_, rfl⟩
   rw [hDA] at dA hR2 rA
   clear hdc eA hDA
   have HR := hide hR2
   clear hR2
   go_wp2_with fail
   try go_ret
   exact ⟨by rw [unhide HR]; try rfl, by first | exact (unhide HB).trans ((unhide HB1).mono (unhide HB).size) | exact bel_drewN ((unhide HB).trans ((unhide HB1).mono (unhide HB).size)) _⟩
set_option maxRecDepth 100000 in
set_option maxHeartbeats 8000000 in
theorem rdeg_8 (I : Nat) (sa : Option Addr) (k sc : Nat) (T : List Bs.SetC) (f : Nat → Nat → Bool) (i : Int) (ta : Option Addr) (tn tc : Nat) (tb : Option Addr) (tm td : Nat) (la : Option Addr) (ln lc : Nat) (A B : Nat) (n : Int) (p : Nq) (da : Option Addr) (kd dc : Nat) (d : Nat → Int) (w : World) (hkd : kd ≤ k) (hT : WkT I k T f) (hs : Bs.SlS w sa k sc T) (hd : SlI w da kd dc ((List.range kd).map d)) (hr : ∀ v, -1 ≤ d v ∧ d v ≤ 1099511627776) (hn : -1024 ≤ n ∧ n ≤ 1024) (hA : A < kd) :
  Calls Tryz.prog 58 #[wkV (I : Int) sa k sc i ta tn tc tb tm td la ln lc, opV ⟨8, (A : Int), (B : Int), n, p⟩, .slice da kd dc] w fun e w' => e = .returned (.int .i64 (dgO d (fun v => mvP I (f v)) ⟨8, (A : Int), (B : Int), n, p⟩)) ∧ Below w.heap.size w w' := by
 obtain ⟨wa, hwa⟩ : ∃ x, w.alloc (.cells #[.int .i64 (I : Int), .slice sa k sc, .int .i64 i, .slice ta tn tc, .slice tb tm td, .slice la ln lc] 63) = x := ⟨_, rfl⟩
 have bx : BoxP wa w.heap.size [.int .i64 (I : Int), .slice sa k sc, .int .i64 i, .slice ta tn tc, .slice tb tm td, .slice la ln lc] := by rw [← hwa]; exact BoxP.made _ _ _
 have hba : Below w.heap.size w wa := by rw [← hwa]; exact (Below.refl _ _).alloc (Nat.le_refl _) _
 have x0 := (bx.all 0 _ rfl).1
 have x1 := (bx.all 1 _ rfl).1
 have x2 := (bx.all 2 _ rfl).1
 have x3 := (bx.all 3 _ rfl).1
 have x4 := (bx.all 4 _ rfl).1
 have x5 := (bx.all 5 _ rfl).1
 obtain ⟨wo, hwo⟩ : ∃ x, wa.alloc (.cells #[.int .i64 8, .int .i64 (A : Int), .int .i64 (B : Int), .int .i64 n, .bool p.g, .slice p.a p.n p.c, .slice p.b p.m p.d] 73) = x := ⟨_, rfl⟩
 have br : BoxP wo wa.heap.size [.int .i64 8, .int .i64 (A : Int), .int .i64 (B : Int), .int .i64 n, .bool p.g, .slice p.a p.n p.c, .slice p.b p.m p.d] := by rw [← hwo]; exact BoxP.made _ _ _
 have hbo : Below wa.heap.size wa wo := by rw [← hwo]; exact (Below.refl _ _).alloc (Nat.le_refl _) _
 have x0 := (hbo.cell (World.block_lt_of_cell? _ _ x0)).trans x0
 have x1 := (hbo.cell (World.block_lt_of_cell? _ _ x1)).trans x1
 have x2 := (hbo.cell (World.block_lt_of_cell? _ _ x2)).trans x2
 have x3 := (hbo.cell (World.block_lt_of_cell? _ _ x3)).trans x3
 have x4 := (hbo.cell (World.block_lt_of_cell? _ _ x4)).trans x4
 have x5 := (hbo.cell (World.block_lt_of_cell? _ _ x5)).trans x5
 have y0 := (br.all 0 _ rfl).1
 have y1 := (br.all 1 _ rfl).1
 have y2 := (br.all 2 _ rfl).1
 have y3 := (br.all 3 _ rfl).1
 have y4 := (br.all 4 _ rfl).1
 have y5 := (br.all 5 _ rfl).1
 have y6 := (br.all 6 _ rfl).1
 have HB := hide (hba.trans (hbo.mono hba.size))
 have hso := (hs.below hba).below hbo
 have hdo := (hd.below hba).below hbo
 have hoe : dgO d (fun v => mvP I (f v)) ⟨8, (A : Int), (B : Int), n, p⟩ = dgO d (fun v => mvP I (f v)) ⟨8, (A : Int), (B : Int), n, p⟩ := rfl
 obtain ⟨R, hR⟩ : ∃ R, dgO d (fun v => mvP I (f v)) ⟨8, (A : Int), (B : Int), n, p⟩ = R := ⟨_, rfl⟩
 rw [hR]
 clear hoe
 have HP := hide (fun (W : World) (hb : Below wo.heap.size wo W) => rpower_any I sa k sc T f i ta tn tc tb tm td la ln lc A n da kd dc d W hkd hT (hso.below hb) hA (hdo.below hb) hr hn)
 have HR := hide (show R = pwD d (fun v => mvP I (f v)) A n from by rw [← hR]; unfold dgO pwD; simp)
 unfold wkV at HP
 unfold wkV opV
 clear bx br hba hbo hR hs hT hr hd hso hdo
 go_enter Tryz.func58, Tryz.ntmps58
 go_wp2_with fail
 refine (unhide HP _ (Below.refl _ _)).mono ?_
 rintro _ w1 ⟨rfl, b1⟩
 have HB := hide ((unhide HB).trans (b1.mono (unhide HB).size))
 clear b1 HP
 go_wp2_with fail
 try go_ret
 exact ⟨by rw [unhide HR]; try rfl, unhide HB⟩
end Go.Proofs.YtbbicappjicblaaGreatDoor
