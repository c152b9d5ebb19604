/- Uc1 -/
import Derived.Test.YtbbicappjicblaaGreatDoorRv5
namespace Go.Proofs.YtbbicappjicblaaGreatDoor
open Go.RowKit Go.Deep
set_option linter.unusedVariables false
set_option linter.unusedSimpArgs false
set_option maxRecDepth 100000 in
set_option maxHeartbeats 8000000 in
theorem wdeg_1 (A B : Nat) (n : Int) (p : Nq) (h : Option Addr) (inp N hc k dc : Nat) (da : Option Addr) (f : Nat → Nat → Bool) (d : Nat → Int) (w : World)
  (hh : HgT w h inp N f) (hkN : k ≤ N) (hi : inp ≤ 64) (hd : SlI w da k dc ((List.range k).map d)) (hr : ∀ v, -1 ≤ d v ∧ d v ≤ 1099511627776) (hf : ∀ v, v < k → mvP inp (f v) = false → 0 ≤ d v) (hn : -1024 ≤ n ∧ n ≤ 1024) :
  Calls Tryz.prog 36 #[opV ⟨1, (A : Int), (B : Int), n, p⟩, .slice h inp hc, .slice da k dc] w fun e w' => e = .returned (.int .i64 (dgO d (fun v => mvP inp (f v)) ⟨1, (A : Int), (B : Int), n, p⟩)) ∧ Below w.heap.size w w' := by
 obtain ⟨wo, hwo⟩ : ∃ x, w.alloc (.cells #[.int .i64 1, .int .i64 (A : Int), .int .i64 (B : Int), .int .i64 n, .bool p.g, .slice p.a p.n p.c, .slice p.b p.m p.d] 73) = x := ⟨_, rfl⟩
 have br : BoxP wo w.heap.size [.int .i64 1, .int .i64 (A : Int), .int .i64 (B : Int), .int .i64 n, .bool p.g, .slice p.a p.n p.c, .slice p.b p.m p.d] := by rw [← hwo]; exact BoxP.made _ _ _
 have hbo : Below w.heap.size w wo := by rw [← hwo]; exact (Below.refl _ _).alloc (Nat.le_refl _) _
 have HB := hide hbo
 have y0 := (br.all 0 _ rfl).1
 have y1 := (br.all 1 _ rfl).1
 have y2 := (br.all 2 _ rfl).1
 have y3 := (br.all 3 _ rfl).1
 have y4 := (br.all 4 _ rfl).1
 have y5 := (br.all 5 _ rfl).1
 have y6 := (br.all 6 _ rfl).1
 have HO := hide (woperands_any ⟨1, (A : Int), (B : Int), n, p⟩ (by simp) (by simp) wo)
 rw [show opsL ⟨1, (A : Int), (B : Int), n, p⟩ = [] from by simp [opsL, twoK, oneK]] at HO
 obtain ⟨R, hR⟩ : ∃ R, dgO d (fun v => mvP inp (f v)) ⟨1, (A : Int), (B : Int), n, p⟩ = R := ⟨_, rfl⟩
 rw [hR]
 rw [show dgO d (fun v => mvP inp (f v)) ⟨1, (A : Int), (B : Int), n, p⟩ = 1 from by simp [dgO]] at hR
 unfold opV at HO ⊢
 have HR := hide hR.symm
 clear br hbo hh hkN hi hd hr hf hR
 go_enter Tryz.func36, Tryz.ntmps36
 go_wp2_with fail
 refine (unhide HO).mono ?_
 rintro _ w1 ⟨z, m, c, rfl, hs, _, b1⟩
 have hm : m = 0 := by have := hs.len; simpa using this.symm
 subst hm
 have y0 := (b1.cell (World.block_lt_of_cell? _ _ y0)).trans y0
 have y1 := (b1.cell (World.block_lt_of_cell? _ _ y1)).trans y1
 have y2 := (b1.cell (World.block_lt_of_cell? _ _ y2)).trans y2
 have y3 := (b1.cell (World.block_lt_of_cell? _ _ y3)).trans y3
 have y4 := (b1.cell (World.block_lt_of_cell? _ _ y4)).trans y4
 have y5 := (b1.cell (World.block_lt_of_cell? _ _ y5)).trans y5
 have y6 := (b1.cell (World.block_lt_of_cell? _ _ y6)).trans y6
 have HB1 := hide b1
 clear b1 HO hs hwo
 go_wp2_with fail
 try go_ret
 exact ⟨by rw [unhide HR]; try rfl, (unhide HB).trans ((unhide HB1).mono (unhide HB).size)⟩
set_option maxRecDepth 100000 in
set_option maxHeartbeats 8000000 in
theorem wdeg_2 (A B : Nat) (n : Int) (p : Nq) (h : Option Addr) (inp N hc k dc : Nat) (da : Option Addr) (f : Nat → Nat → Bool) (d : Nat → Int) (w : World)
  (hh : HgT w h inp N f) (hkN : k ≤ N) (hi : inp ≤ 64) (hd : SlI w da k dc ((List.range k).map d)) (hr : ∀ v, -1 ≤ d v ∧ d v ≤ 1099511627776) (hf : ∀ v, v < k → mvP inp (f v) = false → 0 ≤ d v) (hn : -1024 ≤ n ∧ n ≤ 1024) :
  Calls Tryz.prog 36 #[opV ⟨2, (A : Int), (B : Int), n, p⟩, .slice h inp hc, .slice da k dc] w fun e w' => e = .returned (.int .i64 (dgO d (fun v => mvP inp (f v)) ⟨2, (A : Int), (B : Int), n, p⟩)) ∧ Below w.heap.size w w' := by
 obtain ⟨wo, hwo⟩ : ∃ x, w.alloc (.cells #[.int .i64 2, .int .i64 (A : Int), .int .i64 (B : Int), .int .i64 n, .bool p.g, .slice p.a p.n p.c, .slice p.b p.m p.d] 73) = x := ⟨_, rfl⟩
 have br : BoxP wo w.heap.size [.int .i64 2, .int .i64 (A : Int), .int .i64 (B : Int), .int .i64 n, .bool p.g, .slice p.a p.n p.c, .slice p.b p.m p.d] := by rw [← hwo]; exact BoxP.made _ _ _
 have hbo : Below w.heap.size w wo := by rw [← hwo]; exact (Below.refl _ _).alloc (Nat.le_refl _) _
 have HB := hide hbo
 have y0 := (br.all 0 _ rfl).1
 have y1 := (br.all 1 _ rfl).1
 have y2 := (br.all 2 _ rfl).1
 have y3 := (br.all 3 _ rfl).1
 have y4 := (br.all 4 _ rfl).1
 have y5 := (br.all 5 _ rfl).1
 have y6 := (br.all 6 _ rfl).1
 have HO := hide (woperands_any ⟨2, (A : Int), (B : Int), n, p⟩ (by simp) (by simp) wo)
 rw [show opsL ⟨2, (A : Int), (B : Int), n, p⟩ = [] from by simp [opsL, twoK, oneK]] at HO
 obtain ⟨R, hR⟩ : ∃ R, dgO d (fun v => mvP inp (f v)) ⟨2, (A : Int), (B : Int), n, p⟩ = R := ⟨_, rfl⟩
 rw [hR]
 rw [show dgO d (fun v => mvP inp (f v)) ⟨2, (A : Int), (B : Int), n, p⟩ = 0 from by simp [dgO]] at hR
 unfold opV at HO ⊢
 have HR := hide hR.symm
 clear br hbo hh hkN hi hd hr hf hR
 go_enter Tryz.func36, Tryz.ntmps36
 go_wp2_with fail
 refine (unhide HO).mono ?_
 rintro _ w1 ⟨z, m, c, rfl, hs, _, b1⟩
 have hm : m = 0 := by have := hs.len; simpa using this.symm
 subst hm
 have y0 := (b1.cell (World.block_lt_of_cell? _ _ y0)).trans y0
 have y1 := (b1.cell (World.block_lt_of_cell? _ _ y1)).trans y1
 have y2 := (b1.cell (World.block_lt_of_cell? _ _ y2)).trans y2
 have y3 := (b1.cell (World.block_lt_of_cell? _ _ y3)).trans y3
 have y4 := (b1.cell (World.block_lt_of_cell? _ _ y4)).trans y4
 have y5 := (b1.cell (World.block_lt_of_cell? _ _ y5)).trans y5
 have y6 := (b1.cell (World.block_lt_of_cell? _ _ y6)).trans y6
 have HB1 := hide b1
 clear b1 HO hs hwo
 go_wp2_with fail
 try go_ret
 exact ⟨by rw [unhide HR]; try rfl, (unhide HB).trans ((unhide HB1).mono (unhide HB).size)⟩
set_option maxRecDepth 100000 in
set_option maxHeartbeats 8000000 in
theorem wdeg_3 (A B : Nat) (n : Int) (p : Nq) (h : Option Addr) (inp N hc k dc : Nat) (da : Option Addr) (f : Nat → Nat → Bool) (d : Nat → Int) (w : World)
  (hh : HgT w h inp N f) (hkN : k ≤ N) (hi : inp ≤ 64) (hd : SlI w da k dc ((List.range k).map d)) (hr : ∀ v, -1 ≤ d v ∧ d v ≤ 1099511627776) (hf : ∀ v, v < k → mvP inp (f v) = false → 0 ≤ d v) (hn : -1024 ≤ n ∧ n ≤ 1024) (hA : A < k) (hB : B < k) :
  Calls Tryz.prog 36 #[opV ⟨3, (A : Int), (B : Int), n, p⟩, .slice h inp hc, .slice da k dc] w fun e w' => e = .returned (.int .i64 (dgO d (fun v => mvP inp (f v)) ⟨3, (A : Int), (B : Int), n, p⟩)) ∧ Below w.heap.size w w' := by
 obtain ⟨wo, hwo⟩ : ∃ x, w.alloc (.cells #[.int .i64 3, .int .i64 (A : Int), .int .i64 (B : Int), .int .i64 n, .bool p.g, .slice p.a p.n p.c, .slice p.b p.m p.d] 73) = x := ⟨_, rfl⟩
 have br : BoxP wo w.heap.size [.int .i64 3, .int .i64 (A : Int), .int .i64 (B : Int), .int .i64 n, .bool p.g, .slice p.a p.n p.c, .slice p.b p.m p.d] := by rw [← hwo]; exact BoxP.made _ _ _
 have hbo : Below w.heap.size w wo := by rw [← hwo]; exact (Below.refl _ _).alloc (Nat.le_refl _) _
 have HB := hide hbo
 have y0 := (br.all 0 _ rfl).1
 have y1 := (br.all 1 _ rfl).1
 have y2 := (br.all 2 _ rfl).1
 have y3 := (br.all 3 _ rfl).1
 have y4 := (br.all 4 _ rfl).1
 have y5 := (br.all 5 _ rfl).1
 have y6 := (br.all 6 _ rfl).1
 have HO := hide (woperands_any ⟨3, (A : Int), (B : Int), n, p⟩ (by simp) (by simp) wo)
 rw [show opsL ⟨3, (A : Int), (B : Int), n, p⟩ = [(A : Int), (B : Int)] from by simp [opsL, twoK, oneK]] at HO
 obtain ⟨db, dz, rfl, hdc⟩ := (hd.below hbo).at (by omega)
 have eA : ((List.range k).map d).getD A 0 = d A := by rw [List.getD_eq_getElem?_getD, List.getElem?_map, List.getElem?_range hA]; rfl
 have dA := hdc A hA
 rw [eA] at dA
 obtain ⟨DA, hDA⟩ : ∃ x, d A = x := ⟨_, rfl⟩
 have rA := hr A
 rw [hDA] at dA rA
 have kA : (A : Int) < (k : Int) := by omega
 have eB : ((List.range k).map d).getD B 0 = d B := by rw [List.getD_eq_getElem?_getD, List.getElem?_map, List.getElem?_range hB]; rfl
 have dB := hdc B hB
 rw [eB] at dB
 obtain ⟨DB, hDB⟩ : ∃ x, d B = x := ⟨_, rfl⟩
 have rB := hr B
 rw [hDB] at dB rB
 have kB : (B : Int) < (k : Int) := by omega
 obtain ⟨R, hR⟩ : ∃ R, dgO d (fun v => mvP inp (f v)) ⟨3, (A : Int), (B : Int), n, p⟩ = R := ⟨_, rfl⟩
 rw [hR]
 have hR2 : (if DA = -1 ∨ DB = -1 then -1 else max DA DB) = R := by
  rw [← hR]
  unfold dgO
  simp only [opsL, twoK, oneK, Int.toNat_natCast]
  simp [hDA, hDB]
 unfold opV at HO ⊢
 clear br hbo hh hkN hi hd hr hf hR hdc eA hDA hA eB hDB hB
 by_cases c1 : DA = -1
 ·rw [if_pos (.inl c1)] at hR2
  have HR := hide hR2.symm
  have q1 : (DA == -1) = true := by simpa using c1
  clear hR2 c1
  go_enter Tryz.func36, Tryz.ntmps36
  go_wp2_with fail
  refine (unhide HO).mono ?_
  rintro _ w1 ⟨z, m, c, rfl, hs, _, b1⟩
  have hm : m = 2 := by have := hs.len; simpa using this.symm
  subst hm
  have y0 := (b1.cell (World.block_lt_of_cell? _ _ y0)).trans y0
  have y1 := (b1.cell (World.block_lt_of_cell? _ _ y1)).trans y1
  have y2 := (b1.cell (World.block_lt_of_cell? _ _ y2)).trans y2
  have y3 := (b1.cell (World.block_lt_of_cell? _ _ y3)).trans y3
  have y4 := (b1.cell (World.block_lt_of_cell? _ _ y4)).trans y4
  have y5 := (b1.cell (World.block_lt_of_cell? _ _ y5)).trans y5
  have y6 := (b1.cell (World.block_lt_of_cell? _ _ y6)).trans y6
  have dA := (b1.cell (World.block_lt_of_cell? _ _ dA)).trans dA
  have dB := (b1.cell (World.block_lt_of_cell? _ _ dB)).trans dB
  have HB1 := hide b1
  clear b1 HO hs hwo
  go_wp2_with fail
  try go_ret
  exact ⟨by rw [unhide HR]; try rfl, (unhide HB).trans ((unhide HB1).mono (unhide HB).size)⟩
 ·have q1 : (DA == -1) = false := by simpa using c1
  by_cases c2 : DB = -1
  ·rw [if_pos (.inr c2)] at hR2
   have HR := hide hR2.symm
   have q2 : (DB == -1) = true := by simpa using c2
   clear hR2 c1 c2
   go_enter Tryz.func36, Tryz.ntmps36
   go_wp2_with fail
   refine (unhide HO).mono ?_
   rintro _ w1 ⟨z, m, c, rfl, hs, _, b1⟩
   have hm : m = 2 := by have := hs.len; simpa using this.symm
   subst hm
   have y0 := (b1.cell (World.block_lt_of_cell? _ _ y0)).trans y0
   have y1 := (b1.cell (World.block_lt_of_cell? _ _ y1)).trans y1
   have y2 := (b1.cell (World.block_lt_of_cell? _ _ y2)).trans y2
   have y3 := (b1.cell (World.block_lt_of_cell? _ _ y3)).trans y3
   have y4 := (b1.cell (World.block_lt_of_cell? _ _ y4)).trans y4
   have y5 := (b1.cell (World.block_lt_of_cell? _ _ y5)).trans y5
   have y6 := (b1.cell (World.block_lt_of_cell? _ _ y6)).trans y6
   have dA := (b1.cell (World.block_lt_of_cell? _ _ dA)).trans dA
   have dB := (b1.cell (World.block_lt_of_cell? _ _ dB)).trans dB
   have HB1 := hide b1
   clear b1 HO hs hwo
   go_wp2_with fail
   try go_ret
   exact ⟨by rw [unhide HR]; try rfl, (unhide HB).trans ((unhide HB1).mono (unhide HB).size)⟩
  ·have q2 : (DB == -1) = false := by simpa using c2
   rw [if_neg (by omega)] at hR2
   clear c1 c2
   by_cases c3 : DB < DA
   ·have HR := hide (show R = DA from by rw [← hR2]; omega)
    clear hR2
    go_enter Tryz.func36, Tryz.ntmps36
    go_wp2_with fail
    refine (unhide HO).mono ?_
    rintro _ w1 ⟨z, m, c, rfl, hs, _, b1⟩
    have hm : m = 2 := by have := hs.len; simpa using this.symm
    subst hm
    have y0 := (b1.cell (World.block_lt_of_cell? _ _ y0)).trans y0
    have y1 := (b1.cell (World.block_lt_of_cell? _ _ y1)).trans y1
    have y2 := (b1.cell (World.block_lt_of_cell? _ _ y2)).trans y2
    have y3 := (b1.cell (World.block_lt_of_cell? _ _ y3)).trans y3
    have y4 := (b1.cell (World.block_lt_of_cell? _ _ y4)).trans y4
    have y5 := (b1.cell (World.block_lt_of_cell? _ _ y5)).trans y5
    have y6 := (b1.cell (World.block_lt_of_cell? _ _ y6)).trans y6
    have dA := (b1.cell (World.block_lt_of_cell? _ _ dA)).trans dA
    have dB := (b1.cell (World.block_lt_of_cell? _ _ dB)).trans dB
    have HB1 := hide b1
    clear b1 HO hs hwo
    go_wp2_with fail
    try go_ret
    exact ⟨by rw [unhide HR]; try rfl, (unhide HB).trans ((unhide HB1).mono (unhide HB).size)⟩
   ·have HR := hide (show R = DB from by rw [← hR2]; omega)
    clear hR2
    go_enter Tryz.func36, Tryz.ntmps36
    go_wp2_with fail
    refine (unhide HO).mono ?_
    rintro _ w1 ⟨z, m, c, rfl, hs, _, b1⟩
    have hm : m = 2 := by have := hs.len; simpa using this.symm
    subst hm
    have y0 := (b1.cell (World.block_lt_of_cell? _ _ y0)).trans y0
    have y1 := (b1.cell (World.block_lt_of_cell? _ _ y1)).trans y1
    have y2 := (b1.cell (World.block_lt_of_cell? _ _ y2)).trans y2
    have y3 := (b1.cell (World.block_lt_of_cell? _ _ y3)).trans y3
    have y4 := (b1.cell (World.block_lt_of_cell? _ _ y4)).trans y4
    have y5 := (b1.cell (World.block_lt_of_cell? _ _ y5)).trans y5
    have y6 := (b1.cell (World.block_lt_of_cell? _ _ y6)).trans y6
    have dA := (b1.cell (World.block_lt_of_cell? _ _ dA)).trans dA
    have dB := (b1.cell (World.block_lt_of_cell? _ _ dB)).trans dB
    have HB1 := hide b1
    clear b1 HO hs hwo
    go_wp2_with fail
    try go_ret
    exact ⟨by rw [unhide HR]; try rfl, (unhide HB).trans ((unhide HB1).mono (unhide HB).size)⟩
set_option maxRecDepth 100000 in
set_option maxHeartbeats 8000000 in
theorem wdeg_4 (A B : Nat) (n : Int) (p : Nq) (h : Option Addr) (inp N hc k dc : Nat) (da : Option Addr) (f : Nat → Nat → Bool) (d : Nat → Int) (w : World)
  (hh : HgT w h inp N f) (hkN : k ≤ N) (hi : inp ≤ 64) (hd : SlI w da k dc ((List.range k).map d)) (hr : ∀ v, -1 ≤ d v ∧ d v ≤ 1099511627776) (hf : ∀ v, v < k → mvP inp (f v) = false → 0 ≤ d v) (hn : -1024 ≤ n ∧ n ≤ 1024) (hA : A < k) (hB : B < k) :
  Calls Tryz.prog 36 #[opV ⟨4, (A : Int), (B : Int), n, p⟩, .slice h inp hc, .slice da k dc] w fun e w' => e = .returned (.int .i64 (dgO d (fun v => mvP inp (f v)) ⟨4, (A : Int), (B : Int), n, p⟩)) ∧ Below w.heap.size w w' := by
 obtain ⟨wo, hwo⟩ : ∃ x, w.alloc (.cells #[.int .i64 4, .int .i64 (A : Int), .int .i64 (B : Int), .int .i64 n, .bool p.g, .slice p.a p.n p.c, .slice p.b p.m p.d] 73) = x := ⟨_, rfl⟩
 have br : BoxP wo w.heap.size [.int .i64 4, .int .i64 (A : Int), .int .i64 (B : Int), .int .i64 n, .bool p.g, .slice p.a p.n p.c, .slice p.b p.m p.d] := by rw [← hwo]; exact BoxP.made _ _ _
 have hbo : Below w.heap.size w wo := by rw [← hwo]; exact (Below.refl _ _).alloc (Nat.le_refl _) _
 have HB := hide hbo
 have y0 := (br.all 0 _ rfl).1
 have y1 := (br.all 1 _ rfl).1
 have y2 := (br.all 2 _ rfl).1
 have y3 := (br.all 3 _ rfl).1
 have y4 := (br.all 4 _ rfl).1
 have y5 := (br.all 5 _ rfl).1
 have y6 := (br.all 6 _ rfl).1
 have HO := hide (woperands_any ⟨4, (A : Int), (B : Int), n, p⟩ (by simp) (by simp) wo)
 rw [show opsL ⟨4, (A : Int), (B : Int), n, p⟩ = [(A : Int), (B : Int)] from by simp [opsL, twoK, oneK]] at HO
 obtain ⟨db, dz, rfl, hdc⟩ := (hd.below hbo).at (by omega)
 have eA : ((List.range k).map d).getD A 0 = d A := by rw [List.getD_eq_getElem?_getD, List.getElem?_map, List.getElem?_range hA]; rfl
 have dA := hdc A hA
 rw [eA] at dA
 obtain ⟨DA, hDA⟩ : ∃ x, d A = x := ⟨_, rfl⟩
 have rA := hr A
 rw [hDA] at dA rA
 have kA : (A : Int) < (k : Int) := by omega
 have eB : ((List.range k).map d).getD B 0 = d B := by rw [List.getD_eq_getElem?_getD, List.getElem?_map, List.getElem?_range hB]; rfl
 have dB := hdc B hB
 rw [eB] at dB
 obtain ⟨DB, hDB⟩ : ∃ x, d B = x := ⟨_, rfl⟩
 have rB := hr B
 rw [hDB] at dB rB
 have kB : (B : Int) < (k : Int) := by omega
 obtain ⟨R, hR⟩ : ∃ R, dgO d (fun v => mvP inp (f v)) ⟨4, (A : Int), (B : Int), n, p⟩ = R := ⟨_, rfl⟩
 rw [hR]
 have hR2 : (if DA = -1 ∨ DB = -1 then -1 else max DA DB) = R := by
  rw [← hR]
  unfold dgO
  simp only [opsL, twoK, oneK, Int.toNat_natCast]
  simp [hDA, hDB]
 unfold opV at HO ⊢
 clear br hbo hh hkN hi hd hr hf hR hdc eA hDA hA eB hDB hB
 by_cases c1 : DA = -1
 ·rw [if_pos (.inl c1)] at hR2
  have HR := hide hR2.symm
  have q1 : (DA == -1) = true := by simpa using c1
  clear hR2 c1
  go_enter Tryz.func36, Tryz.ntmps36
  go_wp2_with fail
  refine (unhide HO).mono ?_
  rintro _ w1 ⟨z, m, c, rfl, hs, _, b1⟩
  have hm : m = 2 := by have := hs.len; simpa using this.symm
  subst hm
  have y0 := (b1.cell (World.block_lt_of_cell? _ _ y0)).trans y0
  have y1 := (b1.cell (World.block_lt_of_cell? _ _ y1)).trans y1
  have y2 := (b1.cell (World.block_lt_of_cell? _ _ y2)).trans y2
  have y3 := (b1.cell (World.block_lt_of_cell? _ _ y3)).trans y3
  have y4 := (b1.cell (World.block_lt_of_cell? _ _ y4)).trans y4
  have y5 := (b1.cell (World.block_lt_of_cell? _ _ y5)).trans y5
  have y6 := (b1.cell (World.block_lt_of_cell? _ _ y6)).trans y6
  have dA := (b1.cell (World.block_lt_of_cell? _ _ dA)).trans dA
  have dB := (b1.cell (World.block_lt_of_cell? _ _ dB)).trans dB
  have HB1 := hide b1
  clear b1 HO hs hwo
  go_wp2_with fail
  try go_ret
  exact ⟨by rw [unhide HR]; try rfl, (unhide HB).trans ((unhide HB1).mono (unhide HB).size)⟩
 ·have q1 : (DA == -1) = false := by simpa using c1
  by_cases c2 : DB = -1
  ·rw [if_pos (.inr c2)] at hR2
   have HR := hide hR2.symm
   have q2 : (DB == -1) = true := by simpa using c2
   clear hR2 c1 c2
   go_enter Tryz.func36, Tryz.ntmps36
   go_wp2_with fail
   refine (unhide HO).mono ?_
   rintro _ w1 ⟨z, m, c, rfl, hs, _, b1⟩
   have hm : m = 2 := by have := hs.len; simpa using this.symm
   subst hm
   have y0 := (b1.cell (World.block_lt_of_cell? _ _ y0)).trans y0
   have y1 := (b1.cell (World.block_lt_of_cell? _ _ y1)).trans y1
   have y2 := (b1.cell (World.block_lt_of_cell? _ _ y2)).trans y2
   have y3 := (b1.cell (World.block_lt_of_cell? _ _ y3)).trans y3
   have y4 := (b1.cell (World.block_lt_of_cell? _ _ y4)).trans y4
   have y5 := (b1.cell (World.block_lt_of_cell? _ _ y5)).trans y5
   have y6 := (b1.cell (World.block_lt_of_cell? _ _ y6)).trans y6
   have dA := (b1.cell (World.block_lt_of_cell? _ _ dA)).trans dA
   have dB := (b1.cell (World.block_lt_of_cell? _ _ dB)).trans dB
   have HB1 := hide b1
   clear b1 HO hs hwo
   go_wp2_with fail
   try go_ret
   exact ⟨by rw [unhide HR]; try rfl, (unhide HB).trans ((unhide HB1).mono (unhide HB).size)⟩
  ·have q2 : (DB == -1) = false := by simpa using c2
   rw [if_neg (by omega)] at hR2
   clear c1 c2
   by_cases c3 : DB < DA
   ·have HR := hide (show R = DA from by rw [← hR2]; omega)
    clear hR2
    go_enter Tryz.func36, Tryz.ntmps36
    go_wp2_with fail
    refine (unhide HO).mono ?_
    rintro _ w1 ⟨z, m, c, rfl, hs, _, b1⟩
    have hm : m = 2 := by have := hs.len; simpa using this.symm
    subst hm
    have y0 := (b1.cell (World.block_lt_of_cell? _ _ y0)).trans y0
    have y1 := (b1.cell (World.block_lt_of_cell? _ _ y1)).trans y1
    have y2 := (b1.cell (World.block_lt_of_cell? _ _ y2)).trans y2
    have y3 := (b1.cell (World.block_lt_of_cell? _ _ y3)).trans y3
    have y4 := (b1.cell (World.block_lt_of_cell? _ _ y4)).trans y4
    have y5 := (b1.cell (World.block_lt_of_cell? _ _ y5)).trans y5
    have y6 := (b1.cell (World.block_lt_of_cell? _ _ y6)).trans y6
    have dA := (b1.cell (World.block_lt_of_cell? _ _ dA)).trans dA
    have dB := (b1.cell (World.block_lt_of_cell? _ _ dB)).trans dB
    have HB1 := hide b1
    clear b1 HO hs hwo
    go_wp2_with fail
    try go_ret
    exact ⟨by rw [unhide HR]; try rfl, (unhide HB).trans ((unhide HB1).mono (unhide HB).size)⟩
   ·have HR := hide (show R = DB from by rw [← hR2]; omega)
    clear hR2
    go_enter Tryz.func36, Tryz.ntmps36
    go_wp2_with fail
    refine (unhide HO).mono ?_
    rintro _ w1 ⟨z, m, c, rfl, hs, _, b1⟩
    have hm : m = 2 := by have := hs.len; simpa using this.symm
    subst hm
    have y0 := (b1.cell (World.block_lt_of_cell? _ _ y0)).trans y0
    have y1 := (b1.cell (World.block_lt_of_cell? _ _ y1)).trans y1
    have y2 := (b1.cell (World.block_lt_of_cell? _ _ y2)).trans y2
    have y3 := (b1.cell (World.block_lt_of_cell? _ _ y3)).trans y3
    have y4 := (b1.cell (World.block_lt_of_cell? _ _ y4)).trans y4
    have y5 := (b1.cell (World.block_lt_of_cell? _ _ y5)).trans y5
    have y6 := (b1.cell (World.block_lt_of_cell? _ _ y6)).trans y6
    have dA := (b1.cell (World.block_lt_of_cell? _ _ dA)).trans dA
    have dB := (b1.cell (World.block_lt_of_cell? _ _ dB)).trans dB
    have HB1 := hide b1
    clear b1 HO hs hwo
    go_wp2_with fail
    try go_ret
    exact ⟨by rw [unhide HR]; try rfl, (unhide HB).trans ((unhide HB1).mono (unhide HB).size)⟩
set_option maxRecDepth 100000 in
set_option maxHeartbeats 8000000 in
theorem wdeg_5 (A B : Nat) (n : Int) (p : Nq) (h : Option Addr) (inp N hc k dc : Nat) (da : Option Addr) (f : Nat → Nat → Bool) (d : Nat → Int) (w : World)
  (hh : HgT w h inp N f) (hkN : k ≤ N) (hi : inp ≤ 64) (hd : SlI w da k dc ((List.range k).map d)) (hr : ∀ v, -1 ≤ d v ∧ d v ≤ 1099511627776) (hf : ∀ v, v < k → mvP inp (f v) = false → 0 ≤ d v) (hn : -1024 ≤ n ∧ n ≤ 1024) (hA : A < k) (hB : B < k) :
  Calls Tryz.prog 36 #[opV ⟨5, (A : Int), (B : Int), n, p⟩, .slice h inp hc, .slice da k dc] w fun e w' => e = .returned (.int .i64 (dgO d (fun v => mvP inp (f v)) ⟨5, (A : Int), (B : Int), n, p⟩)) ∧ Below w.heap.size w w' := by
 obtain ⟨wo, hwo⟩ : ∃ x, w.alloc (.cells #[.int .i64 5, .int .i64 (A : Int), .int .i64 (B : Int), .int .i64 n, .bool p.g, .slice p.a p.n p.c, .slice p.b p.m p.d] 73) = x := ⟨_, rfl⟩
 have br : BoxP wo w.heap.size [.int .i64 5, .int .i64 (A : Int), .int .i64 (B : Int), .int .i64 n, .bool p.g, .slice p.a p.n p.c, .slice p.b p.m p.d] := by rw [← hwo]; exact BoxP.made _ _ _
 have hbo : Below w.heap.size w wo := by rw [← hwo]; exact (Below.refl _ _).alloc (Nat.le_refl _) _
 have HB := hide hbo
 have y0 := (br.all 0 _ rfl).1
 have y1 := (br.all 1 _ rfl).1
 have y2 := (br.all 2 _ rfl).1
 have y3 := (br.all 3 _ rfl).1
 have y4 := (br.all 4 _ rfl).1
 have y5 := (br.all 5 _ rfl).1
 have y6 := (br.all 6 _ rfl).1
 have HO := hide (woperands_any ⟨5, (A : Int), (B : Int), n, p⟩ (by simp) (by simp) wo)
 rw [show opsL ⟨5, (A : Int), (B : Int), n, p⟩ = [(A : Int), (B : Int)] from by simp [opsL, twoK, oneK]] at HO
 obtain ⟨db, dz, rfl, hdc⟩ := (hd.below hbo).at (by omega)
 have eA : ((List.range k).map d).getD A 0 = d A := by rw [List.getD_eq_getElem?_getD, List.getElem?_map, List.getElem?_range hA]; rfl
 have dA := hdc A hA
 rw [eA] at dA
 obtain ⟨DA, hDA⟩ : ∃ x, d A = x := ⟨_, rfl⟩
 have rA := hr A
 rw [hDA] at dA rA
 have kA : (A : Int) < (k : Int) := by omega
 have eB : ((List.range k).map d).getD B 0 = d B := by rw [List.getD_eq_getElem?_getD, List.getElem?_map, List.getElem?_range hB]; rfl
 have dB := hdc B hB
 rw [eB] at dB
 obtain ⟨DB, hDB⟩ : ∃ x, d B = x := ⟨_, rfl⟩
 have rB := hr B
 rw [hDB] at dB rB
 have kB : (B : Int) < (k : Int) := by omega
 obtain ⟨R, hR⟩ : ∃ R, dgO d (fun v => mvP inp (f v)) ⟨5, (A : Int), (B : Int), n, p⟩ = R := ⟨_, rfl⟩
 rw [hR]
 have hR2 : (if DA = -1 ∨ DB = -1 then -1 else capI (DA + DB)) = R := by
  rw [← hR]
  unfold dgO
  simp only [opsL, twoK, oneK, Int.toNat_natCast]
  simp [hDA, hDB]
 have HCp := hide wcapped_any
 unfold opV at HO ⊢
 clear br hbo hh hkN hi hd hr hf hR hdc eA hDA hA eB hDB hB
 by_cases c1 : DA = -1
 ·rw [if_pos (.inl c1)] at hR2
  have HR := hide hR2.symm
  have q1 : (DA == -1) = true := by simpa using c1
  clear hR2 c1
  go_enter Tryz.func36, Tryz.ntmps36
  go_wp2_with fail
  refine (unhide HO).mono ?_
  rintro _ w1 ⟨z, m, c, rfl, hs, _, b1⟩
  have hm : m = 2 := by have := hs.len; simpa using this.symm
  subst hm
  have y0 := (b1.cell (World.block_lt_of_cell? _ _ y0)).trans y0
  have y1 := (b1.cell (World.block_lt_of_cell? _ _ y1)).trans y1
  have y2 := (b1.cell (World.block_lt_of_cell? _ _ y2)).trans y2
  have y3 := (b1.cell (World.block_lt_of_cell? _ _ y3)).trans y3
  have y4 := (b1.cell (World.block_lt_of_cell? _ _ y4)).trans y4
  have y5 := (b1.cell (World.block_lt_of_cell? _ _ y5)).trans y5
  have y6 := (b1.cell (World.block_lt_of_cell? _ _ y6)).trans y6
  have dA := (b1.cell (World.block_lt_of_cell? _ _ dA)).trans dA
  have dB := (b1.cell (World.block_lt_of_cell? _ _ dB)).trans dB
  have HB1 := hide b1
  clear b1 HO hs hwo
  go_wp2_with fail
  try go_ret
  exact ⟨by rw [unhide HR]; try rfl, (unhide HB).trans ((unhide HB1).mono (unhide HB).size)⟩
 ·have q1 : (DA == -1) = false := by simpa using c1
  by_cases c2 : DB = -1
  ·rw [if_pos (.inr c2)] at hR2
   have HR := hide hR2.symm
   have q2 : (DB == -1) = true := by simpa using c2
   clear hR2 c1 c2
   go_enter Tryz.func36, Tryz.ntmps36
   go_wp2_with fail
   refine (unhide HO).mono ?_
   rintro _ w1 ⟨z, m, c, rfl, hs, _, b1⟩
   have hm : m = 2 := by have := hs.len; simpa using this.symm
   subst hm
   have y0 := (b1.cell (World.block_lt_of_cell? _ _ y0)).trans y0
   have y1 := (b1.cell (World.block_lt_of_cell? _ _ y1)).trans y1
   have y2 := (b1.cell (World.block_lt_of_cell? _ _ y2)).trans y2
   have y3 := (b1.cell (World.block_lt_of_cell? _ _ y3)).trans y3
   have y4 := (b1.cell (World.block_lt_of_cell? _ _ y4)).trans y4
   have y5 := (b1.cell (World.block_lt_of_cell? _ _ y5)).trans y5
   have y6 := (b1.cell (World.block_lt_of_cell? _ _ y6)).trans y6
   have dA := (b1.cell (World.block_lt_of_cell? _ _ dA)).trans dA
   have dB := (b1.cell (World.block_lt_of_cell? _ _ dB)).trans dB
   have HB1 := hide b1
   clear b1 HO hs hwo
   go_wp2_with fail
   try go_ret
   exact ⟨by rw [unhide HR]; try rfl, (unhide HB).trans ((unhide HB1).mono (unhide HB).size)⟩
  ·have q2 : (DB == -1) = false := by simpa using c2
   rw [if_neg (by omega)] at hR2
   clear c1 c2
   have HR := hide hR2.symm
   clear hR2
   go_enter Tryz.func36, Tryz.ntmps36
   go_wp2_with fail
   refine (unhide HO).mono ?_
   rintro _ w1 ⟨z, m, c, rfl, hs, _, b1⟩
   have hm : m = 2 := by have := hs.len; simpa using this.symm
   subst hm
   have y0 := (b1.cell (World.block_lt_of_cell? _ _ y0)).trans y0
   have y1 := (b1.cell (World.block_lt_of_cell? _ _ y1)).trans y1
   have y2 := (b1.cell (World.block_lt_of_cell? _ _ y2)).trans y2
   have y3 := (b1.cell (World.block_lt_of_cell? _ _ y3)).trans y3
   have y4 := (b1.cell (World.block_lt_of_cell? _ _ y4)).trans y4
   have y5 := (b1.cell (World.block_lt_of_cell? _ _ y5)).trans y5
   have y6 := (b1.cell (World.block_lt_of_cell? _ _ y6)).trans y6
   have dA := (b1.cell (World.block_lt_of_cell? _ _ dA)).trans dA
   have dB := (b1.cell (World.block_lt_of_cell? _ _ dB)).trans dB
   have HB1 := hide b1
   clear b1 HO hs hwo
   go_wp2_with fail
   refine (unhide HCp (DA + DB) _).mono ?_
   rintro _ wz ⟨rfl, hw⟩
   obtain rfl := hw.symm
   clear hw
   go_wp2_with fail
   try go_ret
   exact ⟨by rw [unhide HR]; try rfl, (unhide HB).trans ((unhide HB1).mono (unhide HB).size)⟩
set_option maxRecDepth 100000 in
set_option maxHeartbeats 8000000 in
theorem wdeg_6 (A B : Nat) (n : Int) (p : Nq) (h : Option Addr) (inp N hc k dc : Nat) (da : Option Addr) (f : Nat → Nat → Bool) (d : Nat → Int) (w : World)
  (hh : HgT w h inp N f) (hkN : k ≤ N) (hi : inp ≤ 64) (hd : SlI w da k dc ((List.range k).map d)) (hr : ∀ v, -1 ≤ d v ∧ d v ≤ 1099511627776) (hf : ∀ v, v < k → mvP inp (f v) = false → 0 ≤ d v) (hn : -1024 ≤ n ∧ n ≤ 1024) (hA : A < k) (hB : B < k) :
  Calls Tryz.prog 36 #[opV ⟨6, (A : Int), (B : Int), n, p⟩, .slice h inp hc, .slice da k dc] w fun e w' => e = .returned (.int .i64 (dgO d (fun v => mvP inp (f v)) ⟨6, (A : Int), (B : Int), n, p⟩)) ∧ Below w.heap.size w w' := by
 obtain ⟨wo, hwo⟩ : ∃ x, w.alloc (.cells #[.int .i64 6, .int .i64 (A : Int), .int .i64 (B : Int), .int .i64 n, .bool p.g, .slice p.a p.n p.c, .slice p.b p.m p.d] 73) = x := ⟨_, rfl⟩
 have br : BoxP wo w.heap.size [.int .i64 6, .int .i64 (A : Int), .int .i64 (B : Int), .int .i64 n, .bool p.g, .slice p.a p.n p.c, .slice p.b p.m p.d] := by rw [← hwo]; exact BoxP.made _ _ _
 have hbo : Below w.heap.size w wo := by rw [← hwo]; exact (Below.refl _ _).alloc (Nat.le_refl _) _
 have HB := hide hbo
 have y0 := (br.all 0 _ rfl).1
 have y1 := (br.all 1 _ rfl).1
 have y2 := (br.all 2 _ rfl).1
 have y3 := (br.all 3 _ rfl).1
 have y4 := (br.all 4 _ rfl).1
 have y5 := (br.all 5 _ rfl).1
 have y6 := (br.all 6 _ rfl).1
 have HO := hide (woperands_any ⟨6, (A : Int), (B : Int), n, p⟩ (by simp) (by simp) wo)
 rw [show opsL ⟨6, (A : Int), (B : Int), n, p⟩ = [(A : Int), (B : Int)] from by simp [opsL, twoK, oneK]] at HO
 obtain ⟨db, dz, rfl, hdc⟩ := (hd.below hbo).at (by omega)
 have eA : ((List.range k).map d).getD A 0 = d A := by rw [List.getD_eq_getElem?_getD, List.getElem?_map, List.getElem?_range hA]; rfl
 have dA := hdc A hA
 rw [eA] at dA
 obtain ⟨DA, hDA⟩ : ∃ x, d A = x := ⟨_, rfl⟩
 have rA := hr A
 rw [hDA] at dA rA
 have kA : (A : Int) < (k : Int) := by omega
 have eB : ((List.range k).map d).getD B 0 = d B := by rw [List.getD_eq_getElem?_getD, List.getElem?_map, List.getElem?_range hB]; rfl
 have dB := hdc B hB
 rw [eB] at dB
 obtain ⟨DB, hDB⟩ : ∃ x, d B = x := ⟨_, rfl⟩
 have rB := hr B
 rw [hDB] at dB rB
 have kB : (B : Int) < (k : Int) := by omega
 obtain ⟨R, hR⟩ : ∃ R, dgO d (fun v => mvP inp (f v)) ⟨6, (A : Int), (B : Int), n, p⟩ = R := ⟨_, rfl⟩
 rw [hR]
 have hR2 : (if DA = -1 ∨ DB = -1 then -1 else if mvP inp (f B) = true then -1 else DA) = R := by
  rw [← hR]
  unfold dgO
  simp only [opsL, twoK, oneK, Int.toNat_natCast]
  simp [hDA, hDB]
 have HFr := hide (fun (W : World) (hb : Below wo.heap.size wo W) => wfree_any h inp N hc B f W ((hh.below hbo).below hb) (by omega) hi)
 unfold opV at HO ⊢
 clear br hbo hh hkN hi hd hr hf hR hdc eA hDA hA eB hDB hB
 by_cases c1 : DA = -1
 ·rw [if_pos (.inl c1)] at hR2
  have HR := hide hR2.symm
  have q1 : (DA == -1) = true := by simpa using c1
  clear hR2 c1
  go_enter Tryz.func36, Tryz.ntmps36
  go_wp2_with fail
  refine (unhide HO).mono ?_
  rintro _ w1 ⟨z, m, c, rfl, hs, _, b1⟩
  have hm : m = 2 := by have := hs.len; simpa using this.symm
  subst hm
  have y0 := (b1.cell (World.block_lt_of_cell? _ _ y0)).trans y0
  have y1 := (b1.cell (World.block_lt_of_cell? _ _ y1)).trans y1
  have y2 := (b1.cell (World.block_lt_of_cell? _ _ y2)).trans y2
  have y3 := (b1.cell (World.block_lt_of_cell? _ _ y3)).trans y3
  have y4 := (b1.cell (World.block_lt_of_cell? _ _ y4)).trans y4
  have y5 := (b1.cell (World.block_lt_of_cell? _ _ y5)).trans y5
  have y6 := (b1.cell (World.block_lt_of_cell? _ _ y6)).trans y6
  have dA := (b1.cell (World.block_lt_of_cell? _ _ dA)).trans dA
  have dB := (b1.cell (World.block_lt_of_cell? _ _ dB)).trans dB
  have HB1 := hide b1
  clear b1 HO hs hwo
  go_wp2_with fail
  try go_ret
  exact ⟨by rw [unhide HR]; try rfl, (unhide HB).trans ((unhide HB1).mono (unhide HB).size)⟩
 ·have q1 : (DA == -1) = false := by simpa using c1
  by_cases c2 : DB = -1
  ·rw [if_pos (.inr c2)] at hR2
   have HR := hide hR2.symm
   have q2 : (DB == -1) = true := by simpa using c2
   clear hR2 c1 c2
   go_enter Tryz.func36, Tryz.ntmps36
   go_wp2_with fail
   refine (unhide HO).mono ?_
   rintro _ w1 ⟨z, m, c, rfl, hs, _, b1⟩
   have hm : m = 2 := by have := hs.len; simpa using this.symm
   subst hm
   have y0 := (b1.cell (World.block_lt_of_cell? _ _ y0)).trans y0
   have y1 := (b1.cell (World.block_lt_of_cell? _ _ y1)).trans y1
   have y2 := (b1.cell (World.block_lt_of_cell? _ _ y2)).trans y2
   have y3 := (b1.cell (World.block_lt_of_cell? _ _ y3)).trans y3
   have y4 := (b1.cell (World.block_lt_of_cell? _ _ y4)).trans y4
   have y5 := (b1.cell (World.block_lt_of_cell? _ _ y5)).trans y5
   have y6 := (b1.cell (World.block_lt_of_cell? _ _ y6)).trans y6
   have dA := (b1.cell (World.block_lt_of_cell? _ _ dA)).trans dA
   have dB := (b1.cell (World.block_lt_of_cell? _ _ dB)).trans dB
   have HB1 := hide b1
   clear b1 HO hs hwo
   go_wp2_with fail
   try go_ret
   exact ⟨by rw [unhide HR]; try rfl, (unhide HB).trans ((unhide HB1).mono (unhide HB).size)⟩
  ·have q2 : (DB == -1) = false := by simpa using c2
   rw [if_neg (by omega)] at hR2
   clear c1 c2
   cases c3 : mvP inp (f B)
   ·rw [if_neg (by rw [c3]; decide)] at hR2
    have HR := hide hR2.symm
    rw [c3] at HFr
    clear hR2 c3
    go_enter Tryz.func36, Tryz.ntmps36
    go_wp2_with fail
    refine (unhide HO).mono ?_
    rintro _ w1 ⟨z, m, c, rfl, hs, _, b1⟩
    have hm : m = 2 := by have := hs.len; simpa using this.symm
    subst hm
    have y0 := (b1.cell (World.block_lt_of_cell? _ _ y0)).trans y0
    have y1 := (b1.cell (World.block_lt_of_cell? _ _ y1)).trans y1
    have y2 := (b1.cell (World.block_lt_of_cell? _ _ y2)).trans y2
    have y3 := (b1.cell (World.block_lt_of_cell? _ _ y3)).trans y3
    have y4 := (b1.cell (World.block_lt_of_cell? _ _ y4)).trans y4
    have y5 := (b1.cell (World.block_lt_of_cell? _ _ y5)).trans y5
    have y6 := (b1.cell (World.block_lt_of_cell? _ _ y6)).trans y6
    have dA := (b1.cell (World.block_lt_of_cell? _ _ dA)).trans dA
    have dB := (b1.cell (World.block_lt_of_cell? _ _ dB)).trans dB
    have HB1 := hide b1
    clear b1 HO hs hwo
    go_wp2_with fail
    refine (unhide HFr w1 (unhide HB1)).mono ?_
    rintro _ wz ⟨rfl, hw⟩
    obtain rfl := hw.symm
    clear hw
    go_wp2_with fail
    try go_ret
    exact ⟨by rw [unhide HR]; try rfl, (unhide HB).trans ((unhide HB1).mono (unhide HB).size)⟩
   ·rw [if_pos c3] at hR2
    have HR := hide hR2.symm
    rw [c3] at HFr
    clear hR2 c3
    go_enter Tryz.func36, Tryz.ntmps36
    go_wp2_with fail
    refine (unhide HO).mono ?_
    rintro _ w1 ⟨z, m, c, rfl, hs, _, b1⟩
    have hm : m = 2 := by have := hs.len; simpa using this.symm
    subst hm
    have y0 := (b1.cell (World.block_lt_of_cell? _ _ y0)).trans y0
    have y1 := (b1.cell (World.block_lt_of_cell? _ _ y1)).trans y1
    have y2 := (b1.cell (World.block_lt_of_cell? _ _ y2)).trans y2
    have y3 := (b1.cell (World.block_lt_of_cell? _ _ y3)).trans y3
    have y4 := (b1.cell (World.block_lt_of_cell? _ _ y4)).trans y4
    have y5 := (b1.cell (World.block_lt_of_cell? _ _ y5)).trans y5
    have y6 := (b1.cell (World.block_lt_of_cell? _ _ y6)).trans y6
    have dA := (b1.cell (World.block_lt_of_cell? _ _ dA)).trans dA
    have dB := (b1.cell (World.block_lt_of_cell? _ _ dB)).trans dB
    have HB1 := hide b1
    clear b1 HO hs hwo
    go_wp2_with fail
    refine (unhide HFr w1 (unhide HB1)).mono ?_
    rintro _ wz ⟨rfl, hw⟩
    obtain rfl := hw.symm
    clear hw
    go_wp2_with fail
    try go_ret
    exact ⟨by rw [unhide HR]; try rfl, (unhide HB).trans ((unhide HB1).mono (unhide HB).size)⟩
set_option maxRecDepth 100000 in
set_option maxHeartbeats 8000000 in
theorem wdeg_7 (A B : Nat) (n : Int) (p : Nq) (h : Option Addr) (inp N hc k dc : Nat) (da : Option Addr) (f : Nat → Nat → Bool) (d : Nat → Int) (w : World)
  (hh : HgT w h inp N f) (hkN : k ≤ N) (hi : inp ≤ 64) (hd : SlI w da k dc ((List.range k).map d)) (hr : ∀ v, -1 ≤ d v ∧ d v ≤ 1099511627776) (hf : ∀ v, v < k → mvP inp (f v) = false → 0 ≤ d v) (hn : -1024 ≤ n ∧ n ≤ 1024) (hA : A < k) :
  Calls Tryz.prog 36 #[opV ⟨7, (A : Int), (B : Int), n, p⟩, .slice h inp hc, .slice da k dc] w fun e w' => e = .returned (.int .i64 (dgO d (fun v => mvP inp (f v)) ⟨7, (A : Int), (B : Int), n, p⟩)) ∧ Below w.heap.size w w' := by
 obtain ⟨wo, hwo⟩ : ∃ x, w.alloc (.cells #[.int .i64 7, .int .i64 (A : Int), .int .i64 (B : Int), .int .i64 n, .bool p.g, .slice p.a p.n p.c, .slice p.b p.m p.d] 73) = x := ⟨_, rfl⟩
 have br : BoxP wo w.heap.size [.int .i64 7, .int .i64 (A : Int), .int .i64 (B : Int), .int .i64 n, .bool p.g, .slice p.a p.n p.c, .slice p.b p.m p.d] := by rw [← hwo]; exact BoxP.made _ _ _
 have hbo : Below w.heap.size w wo := by rw [← hwo]; exact (Below.refl _ _).alloc (Nat.le_refl _) _
 have HB := hide hbo
 have y0 := (br.all 0 _ rfl).1
 have y1 := (br.all 1 _ rfl).1
 have y2 := (br.all 2 _ rfl).1
 have y3 := (br.all 3 _ rfl).1
 have y4 := (br.all 4 _ rfl).1
 have y5 := (br.all 5 _ rfl).1
 have y6 := (br.all 6 _ rfl).1
 have HO := hide (woperands_any ⟨7, (A : Int), (B : Int), n, p⟩ (by simp) (by simp) wo)
 rw [show opsL ⟨7, (A : Int), (B : Int), n, p⟩ = [(A : Int)] from by simp [opsL, twoK, oneK]] at HO
 obtain ⟨db, dz, rfl, hdc⟩ := (hd.below hbo).at (by omega)
 have eA : ((List.range k).map d).getD A 0 = d A := by rw [List.getD_eq_getElem?_getD, List.getElem?_map, List.getElem?_range hA]; rfl
 have dA := hdc A hA
 rw [eA] at dA
 obtain ⟨DA, hDA⟩ : ∃ x, d A = x := ⟨_, rfl⟩
 have rA := hr A
 rw [hDA] at dA rA
 have kA : (A : Int) < (k : Int) := by omega
 obtain ⟨R, hR⟩ : ∃ R, dgO d (fun v => mvP inp (f v)) ⟨7, (A : Int), (B : Int), n, p⟩ = R := ⟨_, rfl⟩
 rw [hR]
 have hR2 : (if DA = -1 then -1 else DA) = R := by
  rw [← hR]
  unfold dgO
  simp only [opsL, twoK, oneK, Int.toNat_natCast]
  simp [hDA]
 unfold opV at HO ⊢
 clear br hbo hh hkN hi hd hr hf hR hdc eA hDA hA
 by_cases c1 : DA = -1
 ·rw [if_pos c1] at hR2
  have HR := hide hR2.symm
  have q1 : (DA == -1) = true := by simpa using c1
  clear hR2 c1
  go_enter Tryz.func36, Tryz.ntmps36
  go_wp2_with fail
  refine (unhide HO).mono ?_
  rintro _ w1 ⟨z, m, c, rfl, hs, _, b1⟩
  have hm : m = 1 := by have := hs.len; simpa using this.symm
  subst hm
  have y0 := (b1.cell (World.block_lt_of_cell? _ _ y0)).trans y0
  have y1 := (b1.cell (World.block_lt_of_cell? _ _ y1)).trans y1
  have y2 := (b1.cell (World.block_lt_of_cell? _ _ y2)).trans y2
  have y3 := (b1.cell (World.block_lt_of_cell? _ _ y3)).trans y3
  have y4 := (b1.cell (World.block_lt_of_cell? _ _ y4)).trans y4
  have y5 := (b1.cell (World.block_lt_of_cell? _ _ y5)).trans y5
  have y6 := (b1.cell (World.block_lt_of_cell? _ _ y6)).trans y6
  have dA := (b1.cell (World.block_lt_of_cell? _ _ dA)).trans dA
  have HB1 := hide b1
  clear b1 HO hs hwo
  go_wp2_with fail
  try go_ret
  exact ⟨by rw [unhide HR]; try rfl, (unhide HB).trans ((unhide HB1).mono (unhide HB).size)⟩
 ·rw [if_neg c1] at hR2
  have HR := hide hR2.symm
  have q1 : (DA == -1) = false := by simpa using c1
  clear hR2 c1
  go_enter Tryz.func36, Tryz.ntmps36
  go_wp2_with fail
  refine (unhide HO).mono ?_
  rintro _ w1 ⟨z, m, c, rfl, hs, _, b1⟩
  have hm : m = 1 := by have := hs.len; simpa using this.symm
  subst hm
  have y0 := (b1.cell (World.block_lt_of_cell? _ _ y0)).trans y0
  have y1 := (b1.cell (World.block_lt_of_cell? _ _ y1)).trans y1
  have y2 := (b1.cell (World.block_lt_of_cell? _ _ y2)).trans y2
  have y3 := (b1.cell (World.block_lt_of_cell? _ _ y3)).trans y3
  have y4 := (b1.cell (World.block_lt_of_cell? _ _ y4)).trans y4
  have y5 := (b1.cell (World.block_lt_of_cell? _ _ y5)).trans y5
  have y6 := (b1.cell (World.block_lt_of_cell? _ _ y6)).trans y6
  have dA := (b1.cell (World.block_lt_of_cell? _ _ dA)).trans dA
  have HB1 := hide b1
  clear b1 HO hs hwo
  go_wp2_with fail
  try go_ret
  exact ⟨by rw [unhide HR]; try rfl, (unhide HB).trans ((unhide HB1).mono (unhide HB).size)⟩
set_option maxRecDepth 100000 in
set_option maxHeartbeats 8000000 in
theorem wdeg_8 (A B : Nat) (n : Int) (p : Nq) (h : Option Addr) (inp N hc k dc : Nat) (da : Option Addr) (f : Nat → Nat → Bool) (d : Nat → Int) (w : World)
  (hh : HgT w h inp N f) (hkN : k ≤ N) (hi : inp ≤ 64) (hd : SlI w da k dc ((List.range k).map d)) (hr : ∀ v, -1 ≤ d v ∧ d v ≤ 1099511627776) (hf : ∀ v, v < k → mvP inp (f v) = false → 0 ≤ d v) (hn : -1024 ≤ n ∧ n ≤ 1024) (hA : A < k) :
  Calls Tryz.prog 36 #[opV ⟨8, (A : Int), (B : Int), n, p⟩, .slice h inp hc, .slice da k dc] w fun e w' => e = .returned (.int .i64 (dgO d (fun v => mvP inp (f v)) ⟨8, (A : Int), (B : Int), n, p⟩)) ∧ Below w.heap.size w w' := by
 obtain ⟨wo, hwo⟩ : ∃ x, w.alloc (.cells #[.int .i64 8, .int .i64 (A : Int), .int .i64 (B : Int), .int .i64 n, .bool p.g, .slice p.a p.n p.c, .slice p.b p.m p.d] 73) = x := ⟨_, rfl⟩
 have br : BoxP wo w.heap.size [.int .i64 8, .int .i64 (A : Int), .int .i64 (B : Int), .int .i64 n, .bool p.g, .slice p.a p.n p.c, .slice p.b p.m p.d] := by rw [← hwo]; exact BoxP.made _ _ _
 have hbo : Below w.heap.size w wo := by rw [← hwo]; exact (Below.refl _ _).alloc (Nat.le_refl _) _
 have HB := hide hbo
 have y0 := (br.all 0 _ rfl).1
 have y1 := (br.all 1 _ rfl).1
 have y2 := (br.all 2 _ rfl).1
 have y3 := (br.all 3 _ rfl).1
 have y4 := (br.all 4 _ rfl).1
 have y5 := (br.all 5 _ rfl).1
 have y6 := (br.all 6 _ rfl).1
 have HO := hide (woperands_any ⟨8, (A : Int), (B : Int), n, p⟩ (by simp) (by simp) wo)
 rw [show opsL ⟨8, (A : Int), (B : Int), n, p⟩ = [(A : Int)] from by simp [opsL, twoK, oneK]] at HO
 obtain ⟨db, dz, rfl, hdc⟩ := (hd.below hbo).at (by omega)
 have eA : ((List.range k).map d).getD A 0 = d A := by rw [List.getD_eq_getElem?_getD, List.getElem?_map, List.getElem?_range hA]; rfl
 have dA := hdc A hA
 rw [eA] at dA
 obtain ⟨DA, hDA⟩ : ∃ x, d A = x := ⟨_, rfl⟩
 have rA := hr A
 rw [hDA] at dA rA
 have kA : (A : Int) < (k : Int) := by omega
 obtain ⟨R, hR⟩ : ∃ R, dgO d (fun v => mvP inp (f v)) ⟨8, (A : Int), (B : Int), n, p⟩ = R := ⟨_, rfl⟩
 rw [hR]
 have hR2 : (if n = 0 then 0 else if 0 < n ∧ DA ≠ -1 then capI (n * DA) else if n < 0 ∧ mvP inp (f A) = false then 0 else -1) = R := by
  rw [← hR]
  unfold dgO
  simp [hDA]
 have HFr := hide (fun (W : World) (hb : Below wo.heap.size wo W) => wfree_any h inp N hc A f W ((hh.below hbo).below hb) (by omega) hi)
 have hfA := hf A hA
 rw [hDA] at hfA
 have HCp := hide wcapped_any
 unfold opV at HO ⊢
 clear br hbo hh hkN hi hd hr hf hR hdc eA hDA hA
 by_cases c0 : n = 0
 ·rw [if_pos c0] at hR2
  have HR := hide hR2.symm
  have q0 : (n == 0) = true := by simpa using c0
  clear hR2 c0 hfA
  go_enter Tryz.func36, Tryz.ntmps36
  go_wp2_with fail
  refine (unhide HO).mono ?_
  rintro _ w1 ⟨z, m, c, rfl, hs, _, b1⟩
  have hm : m = 1 := by have := hs.len; simpa using this.symm
  subst hm
  have y0 := (b1.cell (World.block_lt_of_cell? _ _ y0)).trans y0
  have y1 := (b1.cell (World.block_lt_of_cell? _ _ y1)).trans y1
  have y2 := (b1.cell (World.block_lt_of_cell? _ _ y2)).trans y2
  have y3 := (b1.cell (World.block_lt_of_cell? _ _ y3)).trans y3
  have y4 := (b1.cell (World.block_lt_of_cell? _ _ y4)).trans y4
  have y5 := (b1.cell (World.block_lt_of_cell? _ _ y5)).trans y5
  have y6 := (b1.cell (World.block_lt_of_cell? _ _ y6)).trans y6
  have dA := (b1.cell (World.block_lt_of_cell? _ _ dA)).trans dA
  have HB1 := hide b1
  clear b1 HO hs hwo
  go_wp2_with fail
  try go_ret
  exact ⟨by rw [unhide HR]; try rfl, (unhide HB).trans ((unhide HB1).mono (unhide HB).size)⟩
 have q0 : (n == 0) = false := by simpa using c0
 by_cases c1 : DA = -1
 ·have e : R = -1 := by
   rw [← hR2, if_neg c0, if_neg (by omega)]
   by_cases g : n < 0 ∧ mvP inp (f A) = false
   ·have := hfA g.2; omega
   ·rw [if_neg g]
  have HR := hide e
  have q1 : (DA == -1) = true := by simpa using c1
  clear hR2 c1 c0 e hfA
  go_enter Tryz.func36, Tryz.ntmps36
  go_wp2_with fail
  refine (unhide HO).mono ?_
  rintro _ w1 ⟨z, m, c, rfl, hs, _, b1⟩
  have hm : m = 1 := by have := hs.len; simpa using this.symm
  subst hm
  have y0 := (b1.cell (World.block_lt_of_cell? _ _ y0)).trans y0
  have y1 := (b1.cell (World.block_lt_of_cell? _ _ y1)).trans y1
  have y2 := (b1.cell (World.block_lt_of_cell? _ _ y2)).trans y2
  have y3 := (b1.cell (World.block_lt_of_cell? _ _ y3)).trans y3
  have y4 := (b1.cell (World.block_lt_of_cell? _ _ y4)).trans y4
  have y5 := (b1.cell (World.block_lt_of_cell? _ _ y5)).trans y5
  have y6 := (b1.cell (World.block_lt_of_cell? _ _ y6)).trans y6
  have dA := (b1.cell (World.block_lt_of_cell? _ _ dA)).trans dA
  have HB1 := hide b1
  clear b1 HO hs hwo
  go_wp2_with fail
  try go_ret
  exact ⟨by rw [unhide HR]; try rfl, (unhide HB).trans ((unhide HB1).mono (unhide HB).size)⟩
 have q1 : (DA == -1) = false := by simpa using c1
 rw [if_neg c0] at hR2
 by_cases c2 : 0 < n
 ·rw [if_pos ⟨c2, c1⟩] at hR2
  have HR := hide hR2.symm
  obtain ⟨X, hX⟩ : ∃ X, n * DA = X := ⟨_, rfl⟩
  have hX1 : 0 ≤ X := by rw [← hX]; exact Int.mul_nonneg (by omega) (by omega)
  have hX2 : X ≤ 1024 * 1099511627776 := by rw [← hX]; exact Int.mul_le_mul hn.2 rA.2 (by omega) (by omega)
  rw [hX] at HR
  have HX := hide hX
  clear hR2 c1 c0 hfA hX
  go_enter Tryz.func36, Tryz.ntmps36
  go_wp2_with fail
  refine (unhide HO).mono ?_
  rintro _ w1 ⟨z, m, c, rfl, hs, _, b1⟩
  have hm : m = 1 := by have := hs.len; simpa using this.symm
  subst hm
  have y0 := (b1.cell (World.block_lt_of_cell? _ _ y0)).trans y0
  have y1 := (b1.cell (World.block_lt_of_cell? _ _ y1)).trans y1
  have y2 := (b1.cell (World.block_lt_of_cell? _ _ y2)).trans y2
  have y3 := (b1.cell (World.block_lt_of_cell? _ _ y3)).trans y3
  have y4 := (b1.cell (World.block_lt_of_cell? _ _ y4)).trans y4
  have y5 := (b1.cell (World.block_lt_of_cell? _ _ y5)).trans y5
  have y6 := (b1.cell (World.block_lt_of_cell? _ _ y6)).trans y6
  have dA := (b1.cell (World.block_lt_of_cell? _ _ dA)).trans dA
  have HB1 := hide b1
  clear b1 HO hs hwo
  go_wp2_with fail
  rw [unhide HX, show wrap64 X = X from by unfold wrap64; omega]
  refine (unhide HCp X _).mono ?_
  rintro _ wz ⟨rfl, hw⟩
  obtain rfl := hw.symm
  clear hw
  go_wp2_with fail
  try go_ret
  exact ⟨by rw [unhide HR]; try rfl, (unhide HB).trans ((unhide HB1).mono (unhide HB).size)⟩
 ·rw [if_neg (fun g => c2 g.1)] at hR2
  cases c3 : mvP inp (f A)
  ·rw [if_pos ⟨by omega, c3⟩] at hR2
   have HR := hide hR2.symm
   rw [c3] at HFr
   clear hR2 c3 c1 c0 hfA
   go_enter Tryz.func36, Tryz.ntmps36
   go_wp2_with fail
   refine (unhide HO).mono ?_
   rintro _ w1 ⟨z, m, c, rfl, hs, _, b1⟩
   have hm : m = 1 := by have := hs.len; simpa using this.symm
   subst hm
   have y0 := (b1.cell (World.block_lt_of_cell? _ _ y0)).trans y0
   have y1 := (b1.cell (World.block_lt_of_cell? _ _ y1)).trans y1
   have y2 := (b1.cell (World.block_lt_of_cell? _ _ y2)).trans y2
   have y3 := (b1.cell (World.block_lt_of_cell? _ _ y3)).trans y3
   have y4 := (b1.cell (World.block_lt_of_cell? _ _ y4)).trans y4
   have y5 := (b1.cell (World.block_lt_of_cell? _ _ y5)).trans y5
   have y6 := (b1.cell (World.block_lt_of_cell? _ _ y6)).trans y6
   have dA := (b1.cell (World.block_lt_of_cell? _ _ dA)).trans dA
   have HB1 := hide b1
   clear b1 HO hs hwo
   go_wp2_with fail
   refine (unhide HFr w1 (unhide HB1)).mono ?_
   rintro _ wz ⟨rfl, hw⟩
   obtain rfl := hw.symm
   clear hw
   go_wp2_with fail
   try go_ret
   exact ⟨by rw [unhide HR]; try rfl, (unhide HB).trans ((unhide HB1).mono (unhide HB).size)⟩
  ·rw [if_neg (fun g => by rw [c3] at g; cases g.2)] at hR2
   have HR := hide hR2.symm
   rw [c3] at HFr
   clear hR2 c3 c1 c0 hfA
   go_enter Tryz.func36, Tryz.ntmps36
   go_wp2_with fail
   refine (unhide HO).mono ?_
   rintro _ w1 ⟨z, m, c, rfl, hs, _, b1⟩
   have hm : m = 1 := by have := hs.len; simpa using this.symm
   subst hm
   have y0 := (b1.cell (World.block_lt_of_cell? _ _ y0)).trans y0
   have y1 := (b1.cell (World.block_lt_of_cell? _ _ y1)).trans y1
   have y2 := (b1.cell (World.block_lt_of_cell? _ _ y2)).trans y2
   have y3 := (b1.cell (World.block_lt_of_cell? _ _ y3)).trans y3
   have y4 := (b1.cell (World.block_lt_of_cell? _ _ y4)).trans y4
   have y5 := (b1.cell (World.block_lt_of_cell? _ _ y5)).trans y5
   have y6 := (b1.cell (World.block_lt_of_cell? _ _ y6)).trans y6
   have dA := (b1.cell (World.block_lt_of_cell? _ _ dA)).trans dA
   have HB1 := hide b1
   clear b1 HO hs hwo
   go_wp2_with fail
   refine (unhide HFr w1 (unhide HB1)).mono ?_
   rintro _ wz ⟨rfl, hw⟩
   obtain rfl := hw.symm
   clear hw
   go_wp2_with fail
   try go_ret
   exact ⟨by rw [unhide HR]; try rfl, (unhide HB).trans ((unhide HB1).mono (unhide HB).size)⟩
theorem wdeg_any (o : On) (h : Option Addr) (inp N hc k dc : Nat) (da : Option Addr) (f : Nat → Nat → Bool) (d : Nat → Int) (w : World)
  (hh : HgT w h inp N f) (hkN : k ≤ N) (hi : inp ≤ 64) (hd : SlI w da k dc ((List.range k).map d)) (hr : ∀ v, -1 ≤ d v ∧ d v ≤ 1099511627776) (hf : ∀ v, v < k → mvP inp (f v) = false → 0 ≤ d v) (ho : opF (inp : Int) k o = 0) (hn : k ≤ 2048) :
  Calls Tryz.prog 36 #[opV o, .slice h inp hc, .slice da k dc] w fun e w' => e = .returned (.int .i64 (dgO d (fun v => mvP inp (f v)) o)) ∧ Below w.heap.size w w' := by
 obtain ⟨h1, h2, h3, h4, h5, h6⟩ := op_ok ho
 obtain ⟨kk, a, b, n, p⟩ := o
 simp only at h1 h4 h5 h6
 have ea : 0 ≤ a := by
  by_cases k1 : kk = 1
  ·have := h4 k1; omega
  ·by_cases k2 : kk = 2
   ·unfold unuO at h3
    simp [k2] at h3
    omega
   ·have := h2 a (by
     unfold opsL twoK oneK
     by_cases e : 3 ≤ kk ∧ kk ≤ 6
     ·rw [if_pos (by simp; omega)]; simp
     ·rw [if_neg (by simp; omega), if_pos (by simp; omega)]; simp)
    omega
 have eb : 0 ≤ b := by
  by_cases e : 3 ≤ kk ∧ kk ≤ 6
  ·have := h2 b (by
    unfold opsL twoK
    rw [if_pos (by simp; omega)]
    simp)
   omega
  ·unfold unuO twoK at h3
   simp at h3
   omega
 obtain ⟨A, rfl⟩ : ∃ A : Nat, a = (A : Int) := ⟨a.toNat, by omega⟩
 obtain ⟨B, rfl⟩ : ∃ B : Nat, b = (B : Int) := ⟨b.toNat, by omega⟩
 have hA : 3 ≤ kk → A < k := fun e => by
  have := h2 (A : Int) (by
   unfold opsL twoK oneK
   by_cases e : 3 ≤ kk ∧ kk ≤ 6
   ·rw [if_pos (by simp; omega)]; simp
   ·rw [if_neg (by simp; omega), if_pos (by simp; omega)]; simp)
  omega
 have hB : 3 ≤ kk ∧ kk ≤ 6 → B < k := fun e => by
  have := h2 (B : Int) (by
   unfold opsL twoK
   rw [if_pos (by simp; omega)]; simp)
  omega
 obtain ⟨j, rfl⟩ : ∃ j : Nat, kk = (j : Int) := ⟨kk.toNat, by omega⟩
 match j, (show 1 ≤ j by omega), (show j ≤ 8 by omega), hA, hB with
 | 1, _, _, _, _ => exact wdeg_1 A B n p h inp N hc k dc da f d w hh hkN hi hd hr hf h6
 | 2, _, _, _, _ => exact wdeg_2 A B n p h inp N hc k dc da f d w hh hkN hi hd hr hf h6
 | 3, _, _, hA, hB => exact wdeg_3 A B n p h inp N hc k dc da f d w hh hkN hi hd hr hf h6 (hA (by decide)) (hB (by decide))
 | 4, _, _, hA, hB => exact wdeg_4 A B n p h inp N hc k dc da f d w hh hkN hi hd hr hf h6 (hA (by decide)) (hB (by decide))
 | 5, _, _, hA, hB => exact wdeg_5 A B n p h inp N hc k dc da f d w hh hkN hi hd hr hf h6 (hA (by decide)) (hB (by decide))
 | 6, _, _, hA, hB => exact wdeg_6 A B n p h inp N hc k dc da f d w hh hkN hi hd hr hf h6 (hA (by decide)) (hB (by decide))
 | 7, _, _, hA, hB => exact wdeg_7 A B n p h inp N hc k dc da f d w hh hkN hi hd hr hf h6 (hA (by decide))
 | 8, _, _, hA, hB => exact wdeg_8 A B n p h inp N hc k dc da f d w hh hkN hi hd hr hf h6 (hA (by decide))
end Go.Proofs.YtbbicappjicblaaGreatDoor
