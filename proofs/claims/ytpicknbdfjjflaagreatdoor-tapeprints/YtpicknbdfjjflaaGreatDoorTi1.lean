/- Ti1 -/
import Derived.Test.YtpicknbdfjjflaaGreatDoorTi0
namespace Go.Proofs.YtpicknbdfjjflaaGreatDoor
open Go.RowKit Go.Deep
set_option linter.unusedVariables false
set_option linter.unusedSimpArgs false
structure LnW (o : On) (k : Nat) (PT : ByteArray) (L : ByteArray) : Prop where
  txt : bl L ++ [10] = bl (opTx PT o k)
  sz : L.size ≤ 300000
set_option maxRecDepth 100000 in
set_option maxHeartbeats 8000000 in
theorem wline_1 (a b n : Int) (p : Nq) (PT : ByteArray) (w : World) (hg : OpRg ⟨1, a, b, n, p⟩) (hPT : (1 : Int) = 2 → PrOw w p PT) (hsz : PT.size ≤ 200000) (hP : TabPw w) :
    Calls Tryz.prog 54 #[opV ⟨1, a, b, n, p⟩] w fun e w' => ∃ L, e = .returned (.string L) ∧ LnW ⟨1, a, b, n, p⟩ 1 PT L ∧ Below w.heap.size w w' := by
  obtain ⟨wo, hwo⟩ : ∃ x, w.alloc (.cells #[.int .i64 1, .int .i64 a, .int .i64 b, .int .i64 n, .bool p.g, .slice p.a p.n p.c, .slice p.b p.m p.d] 55) = x := ⟨_, rfl⟩
  have br : BoxP wo w.heap.size [.int .i64 1, .int .i64 a, .int .i64 b, .int .i64 n, .bool p.g, .slice p.a p.n p.c, .slice p.b p.m p.d] := by rw [← hwo]; exact BoxP.made _ _ _
  have hbo : Below w.heap.size w wo := by rw [← hwo]; exact (Below.refl _ _).alloc (Nat.le_refl _) _
  have y0 := (br.all 0 _ rfl).1
  have y1 := (br.all 1 _ rfl).1
  have y2 := (br.all 2 _ rfl).1
  have y3 := (br.all 3 _ rfl).1
  have y4 := (br.all 4 _ rfl).1
  have y5 := (br.all 5 _ rfl).1
  have y6 := (br.all 6 _ rfl).1
  have HB0 := hide hbo
  have HI := hide (fun (x : Int) (h0 : -4000000 ≤ x ∧ x ≤ 4000000) (W : World) (hb : Below wo.heap.size wo W) => titoa_any x (by omega) (by omega) W ((hP.below hbo).below hb))
  have HPT := hide (fun (h : (1 : Int) = 2) => (show PrOw wo p PT from fun W hb => hPT h W (hbo.trans (hb.mono hbo.size))))
  have HG := hide hg
  have HZ := hide hsz
  have sa := itS_size a (by have := hg.a; simp only at this; omega) (by have := hg.a; simp only at this; omega)
  have sb := itS_size b (by have := hg.b; simp only at this; omega) (by have := hg.b; simp only at this; omega)
  have sn := itS_size n (by have := hg.n; simp only at this; omega) (by have := hg.n; simp only at this; omega)
  obtain ⟨IA, hIA⟩ : ∃ x, itS a = x := ⟨_, rfl⟩
  obtain ⟨IB, hIB⟩ : ∃ x, itS b = x := ⟨_, rfl⟩
  obtain ⟨IN, hIN⟩ : ∃ x, itS n = x := ⟨_, rfl⟩
  have HA := hide (unhide HI a hg.a)
  have HBi := hide (unhide HI b hg.b)
  have HNi := hide (unhide HI n hg.n)
  simp only [hIA] at HA
  simp only [hIB] at HBi
  simp only [hIN] at HNi
  rw [hIA] at sa
  rw [hIB] at sb
  rw [hIN] at sn
  have HE := hide (And.intro hIA (And.intro hIB hIN))
  clear br hbo hPT hP hg hsz hIA hIB hIN HI
  unfold opV
  go_enter Tryz.func54, Tryz.ntmps54
  go_wp2_with fail
  refine (unhide HA wo (Below.refl _ _)).mono ?_
  rintro _ w1 ⟨rfl, b1⟩
  have y0 := (b1.cell (World.block_lt_of_cell? _ _ y0)).trans y0
  have y1 := (b1.cell (World.block_lt_of_cell? _ _ y1)).trans y1
  have y2 := (b1.cell (World.block_lt_of_cell? _ _ y2)).trans y2
  have y3 := (b1.cell (World.block_lt_of_cell? _ _ y3)).trans y3
  have y4 := (b1.cell (World.block_lt_of_cell? _ _ y4)).trans y4
  have y5 := (b1.cell (World.block_lt_of_cell? _ _ y5)).trans y5
  have y6 := (b1.cell (World.block_lt_of_cell? _ _ y6)).trans y6
  have HB1 := hide b1
  clear b1 HA hwo
  go_wp2_with fail
  refine (unhide HBi w1 (unhide HB1)).mono ?_
  rintro _ w2 ⟨rfl, b2⟩
  have y0 := (b2.cell (World.block_lt_of_cell? _ _ y0)).trans y0
  have y3 := (b2.cell (World.block_lt_of_cell? _ _ y3)).trans y3
  have y4 := (b2.cell (World.block_lt_of_cell? _ _ y4)).trans y4
  have y5 := (b2.cell (World.block_lt_of_cell? _ _ y5)).trans y5
  have y6 := (b2.cell (World.block_lt_of_cell? _ _ y6)).trans y6
  have HB2 := hide ((unhide HB1).trans (b2.mono (unhide HB1).size))
  clear b2 HBi HB1 y1 y2
  go_wp2_with fail
  go_ret
  exact ⟨_, rfl, ⟨by
    obtain ⟨e1, e2, e3⟩ := unhide HE
    first
    | (simp only [opTx, shC, shB, shN, lnT, wdT, List.foldl, bl_app, ← e1, ← e2, ← e3]
       simp [bl, spB, nlB, strB, strOfNums, shW])
    | (simp [opTx, shC, shB, shN, lnT, wdT, bl, spB, nlB, strB, strOfNums, shW, ← e1, ← e2, ← e3]), by
    simp only [ByteArray.size_append]
    have hz := unhide HZ
    have l1 : ({ data := #[105, 110, 32] } : ByteArray).size = 3 := rfl
    have l2 : ({ data := #[32] } : ByteArray).size = 1 := rfl
    omega⟩, (unhide HB0).trans ((unhide HB2).mono (unhide HB0).size)⟩
set_option maxRecDepth 100000 in
set_option maxHeartbeats 8000000 in
theorem wline_2 (a b n : Int) (p : Nq) (PT : ByteArray) (w : World) (hg : OpRg ⟨2, a, b, n, p⟩) (hPT : (2 : Int) = 2 → PrOw w p PT) (hsz : PT.size ≤ 200000) (hP : TabPw w) :
    Calls Tryz.prog 54 #[opV ⟨2, a, b, n, p⟩] w fun e w' => ∃ L, e = .returned (.string L) ∧ LnW ⟨2, a, b, n, p⟩ 2 PT L ∧ Below w.heap.size w w' := by
  obtain ⟨wo, hwo⟩ : ∃ x, w.alloc (.cells #[.int .i64 2, .int .i64 a, .int .i64 b, .int .i64 n, .bool p.g, .slice p.a p.n p.c, .slice p.b p.m p.d] 55) = x := ⟨_, rfl⟩
  have br : BoxP wo w.heap.size [.int .i64 2, .int .i64 a, .int .i64 b, .int .i64 n, .bool p.g, .slice p.a p.n p.c, .slice p.b p.m p.d] := by rw [← hwo]; exact BoxP.made _ _ _
  have hbo : Below w.heap.size w wo := by rw [← hwo]; exact (Below.refl _ _).alloc (Nat.le_refl _) _
  have y0 := (br.all 0 _ rfl).1
  have y1 := (br.all 1 _ rfl).1
  have y2 := (br.all 2 _ rfl).1
  have y3 := (br.all 3 _ rfl).1
  have y4 := (br.all 4 _ rfl).1
  have y5 := (br.all 5 _ rfl).1
  have y6 := (br.all 6 _ rfl).1
  have HB0 := hide hbo
  have HI := hide (fun (x : Int) (h0 : -4000000 ≤ x ∧ x ≤ 4000000) (W : World) (hb : Below wo.heap.size wo W) => titoa_any x (by omega) (by omega) W ((hP.below hbo).below hb))
  have HPT := hide (fun (h : (2 : Int) = 2) => (show PrOw wo p PT from fun W hb => hPT h W (hbo.trans (hb.mono hbo.size))))
  have HG := hide hg
  have HZ := hide hsz
  have sa := itS_size a (by have := hg.a; simp only at this; omega) (by have := hg.a; simp only at this; omega)
  have sb := itS_size b (by have := hg.b; simp only at this; omega) (by have := hg.b; simp only at this; omega)
  have sn := itS_size n (by have := hg.n; simp only at this; omega) (by have := hg.n; simp only at this; omega)
  obtain ⟨IA, hIA⟩ : ∃ x, itS a = x := ⟨_, rfl⟩
  obtain ⟨IB, hIB⟩ : ∃ x, itS b = x := ⟨_, rfl⟩
  obtain ⟨IN, hIN⟩ : ∃ x, itS n = x := ⟨_, rfl⟩
  have HA := hide (unhide HI a hg.a)
  have HBi := hide (unhide HI b hg.b)
  have HNi := hide (unhide HI n hg.n)
  simp only [hIA] at HA
  simp only [hIB] at HBi
  simp only [hIN] at HNi
  rw [hIA] at sa
  rw [hIB] at sb
  rw [hIN] at sn
  have HE := hide (And.intro hIA (And.intro hIB hIN))
  clear br hbo hPT hP hg hsz hIA hIB hIN HI
  unfold opV
  go_enter Tryz.func54, Tryz.ntmps54
  go_wp2_with fail
  refine (unhide HA wo (Below.refl _ _)).mono ?_
  rintro _ w1 ⟨rfl, b1⟩
  have y0 := (b1.cell (World.block_lt_of_cell? _ _ y0)).trans y0
  have y1 := (b1.cell (World.block_lt_of_cell? _ _ y1)).trans y1
  have y2 := (b1.cell (World.block_lt_of_cell? _ _ y2)).trans y2
  have y3 := (b1.cell (World.block_lt_of_cell? _ _ y3)).trans y3
  have y4 := (b1.cell (World.block_lt_of_cell? _ _ y4)).trans y4
  have y5 := (b1.cell (World.block_lt_of_cell? _ _ y5)).trans y5
  have y6 := (b1.cell (World.block_lt_of_cell? _ _ y6)).trans y6
  have HB1 := hide b1
  clear b1 HA hwo
  go_wp2_with fail
  refine (unhide HBi w1 (unhide HB1)).mono ?_
  rintro _ w2 ⟨rfl, b2⟩
  have y0 := (b2.cell (World.block_lt_of_cell? _ _ y0)).trans y0
  have y3 := (b2.cell (World.block_lt_of_cell? _ _ y3)).trans y3
  have y4 := (b2.cell (World.block_lt_of_cell? _ _ y4)).trans y4
  have y5 := (b2.cell (World.block_lt_of_cell? _ _ y5)).trans y5
  have y6 := (b2.cell (World.block_lt_of_cell? _ _ y6)).trans y6
  have HB2 := hide ((unhide HB1).trans (b2.mono (unhide HB1).size))
  clear b2 HBi HB1 y1 y2
  obtain ⟨er, K⟩ := unhide HPT (by first | rfl | trivial) w2 (unhide HB2)
  have HK := hide K
  clear K
  go_wp2_with fail
  refine (unhide HK).mono ?_
  rintro _ w3 ⟨rfl, b3⟩
  have HB3 := hide ((unhide HB2).trans (b3.mono (unhide HB2).size))
  have hpz := unhide HZ
  clear b3 HK
  go_wp2_with fail
  go_ret
  exact ⟨_, rfl, ⟨by
    obtain ⟨e1, e2, e3⟩ := unhide HE
    first
    | (simp only [opTx, shC, shB, shN, lnT, wdT, List.foldl, bl_app, ← e1, ← e2, ← e3]
       simp [bl, spB, nlB, strB, strOfNums, shW])
    | (simp [opTx, shC, shB, shN, lnT, wdT, bl, spB, nlB, strB, strOfNums, shW, ← e1, ← e2, ← e3]), by
    simp only [ByteArray.size_append]
    have hz := unhide HZ
    have l1 : ({ data := #[99, 111, 110, 115, 116, 32] } : ByteArray).size = 6 := rfl
    have l2 : ({ data := #[32] } : ByteArray).size = 1 := rfl
    omega⟩, (unhide HB0).trans ((unhide HB3).mono (unhide HB0).size)⟩
set_option maxRecDepth 100000 in
set_option maxHeartbeats 8000000 in
theorem wline_3 (a b n : Int) (p : Nq) (PT : ByteArray) (w : World) (hg : OpRg ⟨3, a, b, n, p⟩) (hPT : (3 : Int) = 2 → PrOw w p PT) (hsz : PT.size ≤ 200000) (hP : TabPw w) :
    Calls Tryz.prog 54 #[opV ⟨3, a, b, n, p⟩] w fun e w' => ∃ L, e = .returned (.string L) ∧ LnW ⟨3, a, b, n, p⟩ 3 PT L ∧ Below w.heap.size w w' := by
  obtain ⟨wo, hwo⟩ : ∃ x, w.alloc (.cells #[.int .i64 3, .int .i64 a, .int .i64 b, .int .i64 n, .bool p.g, .slice p.a p.n p.c, .slice p.b p.m p.d] 55) = x := ⟨_, rfl⟩
  have br : BoxP wo w.heap.size [.int .i64 3, .int .i64 a, .int .i64 b, .int .i64 n, .bool p.g, .slice p.a p.n p.c, .slice p.b p.m p.d] := by rw [← hwo]; exact BoxP.made _ _ _
  have hbo : Below w.heap.size w wo := by rw [← hwo]; exact (Below.refl _ _).alloc (Nat.le_refl _) _
  have y0 := (br.all 0 _ rfl).1
  have y1 := (br.all 1 _ rfl).1
  have y2 := (br.all 2 _ rfl).1
  have y3 := (br.all 3 _ rfl).1
  have y4 := (br.all 4 _ rfl).1
  have y5 := (br.all 5 _ rfl).1
  have y6 := (br.all 6 _ rfl).1
  have HB0 := hide hbo
  have HI := hide (fun (x : Int) (h0 : -4000000 ≤ x ∧ x ≤ 4000000) (W : World) (hb : Below wo.heap.size wo W) => titoa_any x (by omega) (by omega) W ((hP.below hbo).below hb))
  have HPT := hide (fun (h : (3 : Int) = 2) => (show PrOw wo p PT from fun W hb => hPT h W (hbo.trans (hb.mono hbo.size))))
  have HG := hide hg
  have HZ := hide hsz
  have sa := itS_size a (by have := hg.a; simp only at this; omega) (by have := hg.a; simp only at this; omega)
  have sb := itS_size b (by have := hg.b; simp only at this; omega) (by have := hg.b; simp only at this; omega)
  have sn := itS_size n (by have := hg.n; simp only at this; omega) (by have := hg.n; simp only at this; omega)
  obtain ⟨IA, hIA⟩ : ∃ x, itS a = x := ⟨_, rfl⟩
  obtain ⟨IB, hIB⟩ : ∃ x, itS b = x := ⟨_, rfl⟩
  obtain ⟨IN, hIN⟩ : ∃ x, itS n = x := ⟨_, rfl⟩
  have HA := hide (unhide HI a hg.a)
  have HBi := hide (unhide HI b hg.b)
  have HNi := hide (unhide HI n hg.n)
  simp only [hIA] at HA
  simp only [hIB] at HBi
  simp only [hIN] at HNi
  rw [hIA] at sa
  rw [hIB] at sb
  rw [hIN] at sn
  have HE := hide (And.intro hIA (And.intro hIB hIN))
  clear br hbo hPT hP hg hsz hIA hIB hIN HI
  unfold opV
  go_enter Tryz.func54, Tryz.ntmps54
  go_wp2_with fail
  refine (unhide HA wo (Below.refl _ _)).mono ?_
  rintro _ w1 ⟨rfl, b1⟩
  have y0 := (b1.cell (World.block_lt_of_cell? _ _ y0)).trans y0
  have y1 := (b1.cell (World.block_lt_of_cell? _ _ y1)).trans y1
  have y2 := (b1.cell (World.block_lt_of_cell? _ _ y2)).trans y2
  have y3 := (b1.cell (World.block_lt_of_cell? _ _ y3)).trans y3
  have y4 := (b1.cell (World.block_lt_of_cell? _ _ y4)).trans y4
  have y5 := (b1.cell (World.block_lt_of_cell? _ _ y5)).trans y5
  have y6 := (b1.cell (World.block_lt_of_cell? _ _ y6)).trans y6
  have HB1 := hide b1
  clear b1 HA hwo
  go_wp2_with fail
  refine (unhide HBi w1 (unhide HB1)).mono ?_
  rintro _ w2 ⟨rfl, b2⟩
  have y0 := (b2.cell (World.block_lt_of_cell? _ _ y0)).trans y0
  have y3 := (b2.cell (World.block_lt_of_cell? _ _ y3)).trans y3
  have y4 := (b2.cell (World.block_lt_of_cell? _ _ y4)).trans y4
  have y5 := (b2.cell (World.block_lt_of_cell? _ _ y5)).trans y5
  have y6 := (b2.cell (World.block_lt_of_cell? _ _ y6)).trans y6
  have HB2 := hide ((unhide HB1).trans (b2.mono (unhide HB1).size))
  clear b2 HBi HB1 y1 y2
  go_wp2_with fail
  go_ret
  exact ⟨_, rfl, ⟨by
    obtain ⟨e1, e2, e3⟩ := unhide HE
    first
    | (simp only [opTx, shC, shB, shN, lnT, wdT, List.foldl, bl_app, ← e1, ← e2, ← e3]
       simp [bl, spB, nlB, strB, strOfNums, shW])
    | (simp [opTx, shC, shB, shN, lnT, wdT, bl, spB, nlB, strB, strOfNums, shW, ← e1, ← e2, ← e3]), by
    simp only [ByteArray.size_append]
    have hz := unhide HZ
    have l1 : ({ data := #[97, 100, 100, 32] } : ByteArray).size = 4 := rfl
    have l2 : ({ data := #[32] } : ByteArray).size = 1 := rfl
    omega⟩, (unhide HB0).trans ((unhide HB2).mono (unhide HB0).size)⟩
set_option maxRecDepth 100000 in
set_option maxHeartbeats 8000000 in
theorem wline_4 (a b n : Int) (p : Nq) (PT : ByteArray) (w : World) (hg : OpRg ⟨4, a, b, n, p⟩) (hPT : (4 : Int) = 2 → PrOw w p PT) (hsz : PT.size ≤ 200000) (hP : TabPw w) :
    Calls Tryz.prog 54 #[opV ⟨4, a, b, n, p⟩] w fun e w' => ∃ L, e = .returned (.string L) ∧ LnW ⟨4, a, b, n, p⟩ 4 PT L ∧ Below w.heap.size w w' := by
  obtain ⟨wo, hwo⟩ : ∃ x, w.alloc (.cells #[.int .i64 4, .int .i64 a, .int .i64 b, .int .i64 n, .bool p.g, .slice p.a p.n p.c, .slice p.b p.m p.d] 55) = x := ⟨_, rfl⟩
  have br : BoxP wo w.heap.size [.int .i64 4, .int .i64 a, .int .i64 b, .int .i64 n, .bool p.g, .slice p.a p.n p.c, .slice p.b p.m p.d] := by rw [← hwo]; exact BoxP.made _ _ _
  have hbo : Below w.heap.size w wo := by rw [← hwo]; exact (Below.refl _ _).alloc (Nat.le_refl _) _
  have y0 := (br.all 0 _ rfl).1
  have y1 := (br.all 1 _ rfl).1
  have y2 := (br.all 2 _ rfl).1
  have y3 := (br.all 3 _ rfl).1
  have y4 := (br.all 4 _ rfl).1
  have y5 := (br.all 5 _ rfl).1
  have y6 := (br.all 6 _ rfl).1
  have HB0 := hide hbo
  have HI := hide (fun (x : Int) (h0 : -4000000 ≤ x ∧ x ≤ 4000000) (W : World) (hb : Below wo.heap.size wo W) => titoa_any x (by omega) (by omega) W ((hP.below hbo).below hb))
  have HPT := hide (fun (h : (4 : Int) = 2) => (show PrOw wo p PT from fun W hb => hPT h W (hbo.trans (hb.mono hbo.size))))
  have HG := hide hg
  have HZ := hide hsz
  have sa := itS_size a (by have := hg.a; simp only at this; omega) (by have := hg.a; simp only at this; omega)
  have sb := itS_size b (by have := hg.b; simp only at this; omega) (by have := hg.b; simp only at this; omega)
  have sn := itS_size n (by have := hg.n; simp only at this; omega) (by have := hg.n; simp only at this; omega)
  obtain ⟨IA, hIA⟩ : ∃ x, itS a = x := ⟨_, rfl⟩
  obtain ⟨IB, hIB⟩ : ∃ x, itS b = x := ⟨_, rfl⟩
  obtain ⟨IN, hIN⟩ : ∃ x, itS n = x := ⟨_, rfl⟩
  have HA := hide (unhide HI a hg.a)
  have HBi := hide (unhide HI b hg.b)
  have HNi := hide (unhide HI n hg.n)
  simp only [hIA] at HA
  simp only [hIB] at HBi
  simp only [hIN] at HNi
  rw [hIA] at sa
  rw [hIB] at sb
  rw [hIN] at sn
  have HE := hide (And.intro hIA (And.intro hIB hIN))
  clear br hbo hPT hP hg hsz hIA hIB hIN HI
  unfold opV
  go_enter Tryz.func54, Tryz.ntmps54
  go_wp2_with fail
  refine (unhide HA wo (Below.refl _ _)).mono ?_
  rintro _ w1 ⟨rfl, b1⟩
  have y0 := (b1.cell (World.block_lt_of_cell? _ _ y0)).trans y0
  have y1 := (b1.cell (World.block_lt_of_cell? _ _ y1)).trans y1
  have y2 := (b1.cell (World.block_lt_of_cell? _ _ y2)).trans y2
  have y3 := (b1.cell (World.block_lt_of_cell? _ _ y3)).trans y3
  have y4 := (b1.cell (World.block_lt_of_cell? _ _ y4)).trans y4
  have y5 := (b1.cell (World.block_lt_of_cell? _ _ y5)).trans y5
  have y6 := (b1.cell (World.block_lt_of_cell? _ _ y6)).trans y6
  have HB1 := hide b1
  clear b1 HA hwo
  go_wp2_with fail
  refine (unhide HBi w1 (unhide HB1)).mono ?_
  rintro _ w2 ⟨rfl, b2⟩
  have y0 := (b2.cell (World.block_lt_of_cell? _ _ y0)).trans y0
  have y3 := (b2.cell (World.block_lt_of_cell? _ _ y3)).trans y3
  have y4 := (b2.cell (World.block_lt_of_cell? _ _ y4)).trans y4
  have y5 := (b2.cell (World.block_lt_of_cell? _ _ y5)).trans y5
  have y6 := (b2.cell (World.block_lt_of_cell? _ _ y6)).trans y6
  have HB2 := hide ((unhide HB1).trans (b2.mono (unhide HB1).size))
  clear b2 HBi HB1 y1 y2
  go_wp2_with fail
  go_ret
  exact ⟨_, rfl, ⟨by
    obtain ⟨e1, e2, e3⟩ := unhide HE
    first
    | (simp only [opTx, shC, shB, shN, lnT, wdT, List.foldl, bl_app, ← e1, ← e2, ← e3]
       simp [bl, spB, nlB, strB, strOfNums, shW])
    | (simp [opTx, shC, shB, shN, lnT, wdT, bl, spB, nlB, strB, strOfNums, shW, ← e1, ← e2, ← e3]), by
    simp only [ByteArray.size_append]
    have hz := unhide HZ
    have l1 : ({ data := #[115, 117, 98, 32] } : ByteArray).size = 4 := rfl
    have l2 : ({ data := #[32] } : ByteArray).size = 1 := rfl
    omega⟩, (unhide HB0).trans ((unhide HB2).mono (unhide HB0).size)⟩
set_option maxRecDepth 100000 in
set_option maxHeartbeats 8000000 in
theorem wline_5 (a b n : Int) (p : Nq) (PT : ByteArray) (w : World) (hg : OpRg ⟨5, a, b, n, p⟩) (hPT : (5 : Int) = 2 → PrOw w p PT) (hsz : PT.size ≤ 200000) (hP : TabPw w) :
    Calls Tryz.prog 54 #[opV ⟨5, a, b, n, p⟩] w fun e w' => ∃ L, e = .returned (.string L) ∧ LnW ⟨5, a, b, n, p⟩ 5 PT L ∧ Below w.heap.size w w' := by
  obtain ⟨wo, hwo⟩ : ∃ x, w.alloc (.cells #[.int .i64 5, .int .i64 a, .int .i64 b, .int .i64 n, .bool p.g, .slice p.a p.n p.c, .slice p.b p.m p.d] 55) = x := ⟨_, rfl⟩
  have br : BoxP wo w.heap.size [.int .i64 5, .int .i64 a, .int .i64 b, .int .i64 n, .bool p.g, .slice p.a p.n p.c, .slice p.b p.m p.d] := by rw [← hwo]; exact BoxP.made _ _ _
  have hbo : Below w.heap.size w wo := by rw [← hwo]; exact (Below.refl _ _).alloc (Nat.le_refl _) _
  have y0 := (br.all 0 _ rfl).1
  have y1 := (br.all 1 _ rfl).1
  have y2 := (br.all 2 _ rfl).1
  have y3 := (br.all 3 _ rfl).1
  have y4 := (br.all 4 _ rfl).1
  have y5 := (br.all 5 _ rfl).1
  have y6 := (br.all 6 _ rfl).1
  have HB0 := hide hbo
  have HI := hide (fun (x : Int) (h0 : -4000000 ≤ x ∧ x ≤ 4000000) (W : World) (hb : Below wo.heap.size wo W) => titoa_any x (by omega) (by omega) W ((hP.below hbo).below hb))
  have HPT := hide (fun (h : (5 : Int) = 2) => (show PrOw wo p PT from fun W hb => hPT h W (hbo.trans (hb.mono hbo.size))))
  have HG := hide hg
  have HZ := hide hsz
  have sa := itS_size a (by have := hg.a; simp only at this; omega) (by have := hg.a; simp only at this; omega)
  have sb := itS_size b (by have := hg.b; simp only at this; omega) (by have := hg.b; simp only at this; omega)
  have sn := itS_size n (by have := hg.n; simp only at this; omega) (by have := hg.n; simp only at this; omega)
  obtain ⟨IA, hIA⟩ : ∃ x, itS a = x := ⟨_, rfl⟩
  obtain ⟨IB, hIB⟩ : ∃ x, itS b = x := ⟨_, rfl⟩
  obtain ⟨IN, hIN⟩ : ∃ x, itS n = x := ⟨_, rfl⟩
  have HA := hide (unhide HI a hg.a)
  have HBi := hide (unhide HI b hg.b)
  have HNi := hide (unhide HI n hg.n)
  simp only [hIA] at HA
  simp only [hIB] at HBi
  simp only [hIN] at HNi
  rw [hIA] at sa
  rw [hIB] at sb
  rw [hIN] at sn
  have HE := hide (And.intro hIA (And.intro hIB hIN))
  clear br hbo hPT hP hg hsz hIA hIB hIN HI
  unfold opV
  go_enter Tryz.func54, Tryz.ntmps54
  go_wp2_with fail
  refine (unhide HA wo (Below.refl _ _)).mono ?_
  rintro _ w1 ⟨rfl, b1⟩
  have y0 := (b1.cell (World.block_lt_of_cell? _ _ y0)).trans y0
  have y1 := (b1.cell (World.block_lt_of_cell? _ _ y1)).trans y1
  have y2 := (b1.cell (World.block_lt_of_cell? _ _ y2)).trans y2
  have y3 := (b1.cell (World.block_lt_of_cell? _ _ y3)).trans y3
  have y4 := (b1.cell (World.block_lt_of_cell? _ _ y4)).trans y4
  have y5 := (b1.cell (World.block_lt_of_cell? _ _ y5)).trans y5
  have y6 := (b1.cell (World.block_lt_of_cell? _ _ y6)).trans y6
  have HB1 := hide b1
  clear b1 HA hwo
  go_wp2_with fail
  refine (unhide HBi w1 (unhide HB1)).mono ?_
  rintro _ w2 ⟨rfl, b2⟩
  have y0 := (b2.cell (World.block_lt_of_cell? _ _ y0)).trans y0
  have y3 := (b2.cell (World.block_lt_of_cell? _ _ y3)).trans y3
  have y4 := (b2.cell (World.block_lt_of_cell? _ _ y4)).trans y4
  have y5 := (b2.cell (World.block_lt_of_cell? _ _ y5)).trans y5
  have y6 := (b2.cell (World.block_lt_of_cell? _ _ y6)).trans y6
  have HB2 := hide ((unhide HB1).trans (b2.mono (unhide HB1).size))
  clear b2 HBi HB1 y1 y2
  go_wp2_with fail
  go_ret
  exact ⟨_, rfl, ⟨by
    obtain ⟨e1, e2, e3⟩ := unhide HE
    first
    | (simp only [opTx, shC, shB, shN, lnT, wdT, List.foldl, bl_app, ← e1, ← e2, ← e3]
       simp [bl, spB, nlB, strB, strOfNums, shW])
    | (simp [opTx, shC, shB, shN, lnT, wdT, bl, spB, nlB, strB, strOfNums, shW, ← e1, ← e2, ← e3]), by
    simp only [ByteArray.size_append]
    have hz := unhide HZ
    have l1 : ({ data := #[109, 117, 108, 32] } : ByteArray).size = 4 := rfl
    have l2 : ({ data := #[32] } : ByteArray).size = 1 := rfl
    omega⟩, (unhide HB0).trans ((unhide HB2).mono (unhide HB0).size)⟩
set_option maxRecDepth 100000 in
set_option maxHeartbeats 8000000 in
theorem wline_6 (a b n : Int) (p : Nq) (PT : ByteArray) (w : World) (hg : OpRg ⟨6, a, b, n, p⟩) (hPT : (6 : Int) = 2 → PrOw w p PT) (hsz : PT.size ≤ 200000) (hP : TabPw w) :
    Calls Tryz.prog 54 #[opV ⟨6, a, b, n, p⟩] w fun e w' => ∃ L, e = .returned (.string L) ∧ LnW ⟨6, a, b, n, p⟩ 6 PT L ∧ Below w.heap.size w w' := by
  obtain ⟨wo, hwo⟩ : ∃ x, w.alloc (.cells #[.int .i64 6, .int .i64 a, .int .i64 b, .int .i64 n, .bool p.g, .slice p.a p.n p.c, .slice p.b p.m p.d] 55) = x := ⟨_, rfl⟩
  have br : BoxP wo w.heap.size [.int .i64 6, .int .i64 a, .int .i64 b, .int .i64 n, .bool p.g, .slice p.a p.n p.c, .slice p.b p.m p.d] := by rw [← hwo]; exact BoxP.made _ _ _
  have hbo : Below w.heap.size w wo := by rw [← hwo]; exact (Below.refl _ _).alloc (Nat.le_refl _) _
  have y0 := (br.all 0 _ rfl).1
  have y1 := (br.all 1 _ rfl).1
  have y2 := (br.all 2 _ rfl).1
  have y3 := (br.all 3 _ rfl).1
  have y4 := (br.all 4 _ rfl).1
  have y5 := (br.all 5 _ rfl).1
  have y6 := (br.all 6 _ rfl).1
  have HB0 := hide hbo
  have HI := hide (fun (x : Int) (h0 : -4000000 ≤ x ∧ x ≤ 4000000) (W : World) (hb : Below wo.heap.size wo W) => titoa_any x (by omega) (by omega) W ((hP.below hbo).below hb))
  have HPT := hide (fun (h : (6 : Int) = 2) => (show PrOw wo p PT from fun W hb => hPT h W (hbo.trans (hb.mono hbo.size))))
  have HG := hide hg
  have HZ := hide hsz
  have sa := itS_size a (by have := hg.a; simp only at this; omega) (by have := hg.a; simp only at this; omega)
  have sb := itS_size b (by have := hg.b; simp only at this; omega) (by have := hg.b; simp only at this; omega)
  have sn := itS_size n (by have := hg.n; simp only at this; omega) (by have := hg.n; simp only at this; omega)
  obtain ⟨IA, hIA⟩ : ∃ x, itS a = x := ⟨_, rfl⟩
  obtain ⟨IB, hIB⟩ : ∃ x, itS b = x := ⟨_, rfl⟩
  obtain ⟨IN, hIN⟩ : ∃ x, itS n = x := ⟨_, rfl⟩
  have HA := hide (unhide HI a hg.a)
  have HBi := hide (unhide HI b hg.b)
  have HNi := hide (unhide HI n hg.n)
  simp only [hIA] at HA
  simp only [hIB] at HBi
  simp only [hIN] at HNi
  rw [hIA] at sa
  rw [hIB] at sb
  rw [hIN] at sn
  have HE := hide (And.intro hIA (And.intro hIB hIN))
  clear br hbo hPT hP hg hsz hIA hIB hIN HI
  unfold opV
  go_enter Tryz.func54, Tryz.ntmps54
  go_wp2_with fail
  refine (unhide HA wo (Below.refl _ _)).mono ?_
  rintro _ w1 ⟨rfl, b1⟩
  have y0 := (b1.cell (World.block_lt_of_cell? _ _ y0)).trans y0
  have y1 := (b1.cell (World.block_lt_of_cell? _ _ y1)).trans y1
  have y2 := (b1.cell (World.block_lt_of_cell? _ _ y2)).trans y2
  have y3 := (b1.cell (World.block_lt_of_cell? _ _ y3)).trans y3
  have y4 := (b1.cell (World.block_lt_of_cell? _ _ y4)).trans y4
  have y5 := (b1.cell (World.block_lt_of_cell? _ _ y5)).trans y5
  have y6 := (b1.cell (World.block_lt_of_cell? _ _ y6)).trans y6
  have HB1 := hide b1
  clear b1 HA hwo
  go_wp2_with fail
  refine (unhide HBi w1 (unhide HB1)).mono ?_
  rintro _ w2 ⟨rfl, b2⟩
  have y0 := (b2.cell (World.block_lt_of_cell? _ _ y0)).trans y0
  have y3 := (b2.cell (World.block_lt_of_cell? _ _ y3)).trans y3
  have y4 := (b2.cell (World.block_lt_of_cell? _ _ y4)).trans y4
  have y5 := (b2.cell (World.block_lt_of_cell? _ _ y5)).trans y5
  have y6 := (b2.cell (World.block_lt_of_cell? _ _ y6)).trans y6
  have HB2 := hide ((unhide HB1).trans (b2.mono (unhide HB1).size))
  clear b2 HBi HB1 y1 y2
  go_wp2_with fail
  go_ret
  exact ⟨_, rfl, ⟨by
    obtain ⟨e1, e2, e3⟩ := unhide HE
    first
    | (simp only [opTx, shC, shB, shN, lnT, wdT, List.foldl, bl_app, ← e1, ← e2, ← e3]
       simp [bl, spB, nlB, strB, strOfNums, shW])
    | (simp [opTx, shC, shB, shN, lnT, wdT, bl, spB, nlB, strB, strOfNums, shW, ← e1, ← e2, ← e3]), by
    simp only [ByteArray.size_append]
    have hz := unhide HZ
    have l1 : ({ data := #[100, 105, 118, 32] } : ByteArray).size = 4 := rfl
    have l2 : ({ data := #[32] } : ByteArray).size = 1 := rfl
    omega⟩, (unhide HB0).trans ((unhide HB2).mono (unhide HB0).size)⟩
set_option maxRecDepth 100000 in
set_option maxHeartbeats 8000000 in
theorem wline_7 (a b n : Int) (p : Nq) (PT : ByteArray) (w : World) (hg : OpRg ⟨7, a, b, n, p⟩) (hPT : (7 : Int) = 2 → PrOw w p PT) (hsz : PT.size ≤ 200000) (hP : TabPw w) :
    Calls Tryz.prog 54 #[opV ⟨7, a, b, n, p⟩] w fun e w' => ∃ L, e = .returned (.string L) ∧ LnW ⟨7, a, b, n, p⟩ 7 PT L ∧ Below w.heap.size w w' := by
  obtain ⟨wo, hwo⟩ : ∃ x, w.alloc (.cells #[.int .i64 7, .int .i64 a, .int .i64 b, .int .i64 n, .bool p.g, .slice p.a p.n p.c, .slice p.b p.m p.d] 55) = x := ⟨_, rfl⟩
  have br : BoxP wo w.heap.size [.int .i64 7, .int .i64 a, .int .i64 b, .int .i64 n, .bool p.g, .slice p.a p.n p.c, .slice p.b p.m p.d] := by rw [← hwo]; exact BoxP.made _ _ _
  have hbo : Below w.heap.size w wo := by rw [← hwo]; exact (Below.refl _ _).alloc (Nat.le_refl _) _
  have y0 := (br.all 0 _ rfl).1
  have y1 := (br.all 1 _ rfl).1
  have y2 := (br.all 2 _ rfl).1
  have y3 := (br.all 3 _ rfl).1
  have y4 := (br.all 4 _ rfl).1
  have y5 := (br.all 5 _ rfl).1
  have y6 := (br.all 6 _ rfl).1
  have HB0 := hide hbo
  have HI := hide (fun (x : Int) (h0 : -4000000 ≤ x ∧ x ≤ 4000000) (W : World) (hb : Below wo.heap.size wo W) => titoa_any x (by omega) (by omega) W ((hP.below hbo).below hb))
  have HPT := hide (fun (h : (7 : Int) = 2) => (show PrOw wo p PT from fun W hb => hPT h W (hbo.trans (hb.mono hbo.size))))
  have HG := hide hg
  have HZ := hide hsz
  have sa := itS_size a (by have := hg.a; simp only at this; omega) (by have := hg.a; simp only at this; omega)
  have sb := itS_size b (by have := hg.b; simp only at this; omega) (by have := hg.b; simp only at this; omega)
  have sn := itS_size n (by have := hg.n; simp only at this; omega) (by have := hg.n; simp only at this; omega)
  obtain ⟨IA, hIA⟩ : ∃ x, itS a = x := ⟨_, rfl⟩
  obtain ⟨IB, hIB⟩ : ∃ x, itS b = x := ⟨_, rfl⟩
  obtain ⟨IN, hIN⟩ : ∃ x, itS n = x := ⟨_, rfl⟩
  have HA := hide (unhide HI a hg.a)
  have HBi := hide (unhide HI b hg.b)
  have HNi := hide (unhide HI n hg.n)
  simp only [hIA] at HA
  simp only [hIB] at HBi
  simp only [hIN] at HNi
  rw [hIA] at sa
  rw [hIB] at sb
  rw [hIN] at sn
  have HE := hide (And.intro hIA (And.intro hIB hIN))
  clear br hbo hPT hP hg hsz hIA hIB hIN HI
  unfold opV
  go_enter Tryz.func54, Tryz.ntmps54
  go_wp2_with fail
  refine (unhide HA wo (Below.refl _ _)).mono ?_
  rintro _ w1 ⟨rfl, b1⟩
  have y0 := (b1.cell (World.block_lt_of_cell? _ _ y0)).trans y0
  have y1 := (b1.cell (World.block_lt_of_cell? _ _ y1)).trans y1
  have y2 := (b1.cell (World.block_lt_of_cell? _ _ y2)).trans y2
  have y3 := (b1.cell (World.block_lt_of_cell? _ _ y3)).trans y3
  have y4 := (b1.cell (World.block_lt_of_cell? _ _ y4)).trans y4
  have y5 := (b1.cell (World.block_lt_of_cell? _ _ y5)).trans y5
  have y6 := (b1.cell (World.block_lt_of_cell? _ _ y6)).trans y6
  have HB1 := hide b1
  clear b1 HA hwo
  go_wp2_with fail
  refine (unhide HBi w1 (unhide HB1)).mono ?_
  rintro _ w2 ⟨rfl, b2⟩
  have y0 := (b2.cell (World.block_lt_of_cell? _ _ y0)).trans y0
  have y3 := (b2.cell (World.block_lt_of_cell? _ _ y3)).trans y3
  have y4 := (b2.cell (World.block_lt_of_cell? _ _ y4)).trans y4
  have y5 := (b2.cell (World.block_lt_of_cell? _ _ y5)).trans y5
  have y6 := (b2.cell (World.block_lt_of_cell? _ _ y6)).trans y6
  have HB2 := hide ((unhide HB1).trans (b2.mono (unhide HB1).size))
  clear b2 HBi HB1 y1 y2
  go_wp2_with fail
  go_ret
  exact ⟨_, rfl, ⟨by
    obtain ⟨e1, e2, e3⟩ := unhide HE
    first
    | (simp only [opTx, shC, shB, shN, lnT, wdT, List.foldl, bl_app, ← e1, ← e2, ← e3]
       simp [bl, spB, nlB, strB, strOfNums, shW])
    | (simp [opTx, shC, shB, shN, lnT, wdT, bl, spB, nlB, strB, strOfNums, shW, ← e1, ← e2, ← e3]), by
    simp only [ByteArray.size_append]
    have hz := unhide HZ
    have l1 : ({ data := #[110, 101, 103, 32] } : ByteArray).size = 4 := rfl
    have l2 : ({ data := #[32] } : ByteArray).size = 1 := rfl
    omega⟩, (unhide HB0).trans ((unhide HB2).mono (unhide HB0).size)⟩
set_option maxRecDepth 100000 in
set_option maxHeartbeats 8000000 in
theorem wline_8 (a b n : Int) (p : Nq) (PT : ByteArray) (w : World) (hg : OpRg ⟨8, a, b, n, p⟩) (hPT : (8 : Int) = 2 → PrOw w p PT) (hsz : PT.size ≤ 200000) (hP : TabPw w) :
    Calls Tryz.prog 54 #[opV ⟨8, a, b, n, p⟩] w fun e w' => ∃ L, e = .returned (.string L) ∧ LnW ⟨8, a, b, n, p⟩ 8 PT L ∧ Below w.heap.size w w' := by
  obtain ⟨wo, hwo⟩ : ∃ x, w.alloc (.cells #[.int .i64 8, .int .i64 a, .int .i64 b, .int .i64 n, .bool p.g, .slice p.a p.n p.c, .slice p.b p.m p.d] 55) = x := ⟨_, rfl⟩
  have br : BoxP wo w.heap.size [.int .i64 8, .int .i64 a, .int .i64 b, .int .i64 n, .bool p.g, .slice p.a p.n p.c, .slice p.b p.m p.d] := by rw [← hwo]; exact BoxP.made _ _ _
  have hbo : Below w.heap.size w wo := by rw [← hwo]; exact (Below.refl _ _).alloc (Nat.le_refl _) _
  have y0 := (br.all 0 _ rfl).1
  have y1 := (br.all 1 _ rfl).1
  have y2 := (br.all 2 _ rfl).1
  have y3 := (br.all 3 _ rfl).1
  have y4 := (br.all 4 _ rfl).1
  have y5 := (br.all 5 _ rfl).1
  have y6 := (br.all 6 _ rfl).1
  have HB0 := hide hbo
  have HI := hide (fun (x : Int) (h0 : -4000000 ≤ x ∧ x ≤ 4000000) (W : World) (hb : Below wo.heap.size wo W) => titoa_any x (by omega) (by omega) W ((hP.below hbo).below hb))
  have HPT := hide (fun (h : (8 : Int) = 2) => (show PrOw wo p PT from fun W hb => hPT h W (hbo.trans (hb.mono hbo.size))))
  have HG := hide hg
  have HZ := hide hsz
  have sa := itS_size a (by have := hg.a; simp only at this; omega) (by have := hg.a; simp only at this; omega)
  have sb := itS_size b (by have := hg.b; simp only at this; omega) (by have := hg.b; simp only at this; omega)
  have sn := itS_size n (by have := hg.n; simp only at this; omega) (by have := hg.n; simp only at this; omega)
  obtain ⟨IA, hIA⟩ : ∃ x, itS a = x := ⟨_, rfl⟩
  obtain ⟨IB, hIB⟩ : ∃ x, itS b = x := ⟨_, rfl⟩
  obtain ⟨IN, hIN⟩ : ∃ x, itS n = x := ⟨_, rfl⟩
  have HA := hide (unhide HI a hg.a)
  have HBi := hide (unhide HI b hg.b)
  have HNi := hide (unhide HI n hg.n)
  simp only [hIA] at HA
  simp only [hIB] at HBi
  simp only [hIN] at HNi
  rw [hIA] at sa
  rw [hIB] at sb
  rw [hIN] at sn
  have HE := hide (And.intro hIA (And.intro hIB hIN))
  clear br hbo hPT hP hg hsz hIA hIB hIN HI
  unfold opV
  go_enter Tryz.func54, Tryz.ntmps54
  go_wp2_with fail
  refine (unhide HA wo (Below.refl _ _)).mono ?_
  rintro _ w1 ⟨rfl, b1⟩
  have y0 := (b1.cell (World.block_lt_of_cell? _ _ y0)).trans y0
  have y1 := (b1.cell (World.block_lt_of_cell? _ _ y1)).trans y1
  have y2 := (b1.cell (World.block_lt_of_cell? _ _ y2)).trans y2
  have y3 := (b1.cell (World.block_lt_of_cell? _ _ y3)).trans y3
  have y4 := (b1.cell (World.block_lt_of_cell? _ _ y4)).trans y4
  have y5 := (b1.cell (World.block_lt_of_cell? _ _ y5)).trans y5
  have y6 := (b1.cell (World.block_lt_of_cell? _ _ y6)).trans y6
  have HB1 := hide b1
  clear b1 HA hwo
  go_wp2_with fail
  refine (unhide HBi w1 (unhide HB1)).mono ?_
  rintro _ w2 ⟨rfl, b2⟩
  have y0 := (b2.cell (World.block_lt_of_cell? _ _ y0)).trans y0
  have y3 := (b2.cell (World.block_lt_of_cell? _ _ y3)).trans y3
  have y4 := (b2.cell (World.block_lt_of_cell? _ _ y4)).trans y4
  have y5 := (b2.cell (World.block_lt_of_cell? _ _ y5)).trans y5
  have y6 := (b2.cell (World.block_lt_of_cell? _ _ y6)).trans y6
  have HB2 := hide ((unhide HB1).trans (b2.mono (unhide HB1).size))
  clear b2 HBi HB1 y1 y2
  go_wp2_with fail
  refine (unhide HNi w2 (unhide HB2)).mono ?_
  rintro _ w3 ⟨rfl, b3⟩
  have HB3 := hide ((unhide HB2).trans (b3.mono (unhide HB2).size))
  clear b3
  go_wp2_with fail
  go_ret
  exact ⟨_, rfl, ⟨by
    obtain ⟨e1, e2, e3⟩ := unhide HE
    first
    | (simp only [opTx, shC, shB, shN, lnT, wdT, List.foldl, bl_app, ← e1, ← e2, ← e3]
       simp [bl, spB, nlB, strB, strOfNums, shW])
    | (simp [opTx, shC, shB, shN, lnT, wdT, bl, spB, nlB, strB, strOfNums, shW, ← e1, ← e2, ← e3]), by
    simp only [ByteArray.size_append]
    have hz := unhide HZ
    have l1 : ({ data := #[112, 111, 119, 32] } : ByteArray).size = 4 := rfl
    have l2 : ({ data := #[32] } : ByteArray).size = 1 := rfl
    omega⟩, (unhide HB0).trans ((unhide HB3).mono (unhide HB0).size)⟩
end Go.Proofs.YtpicknbdfjjflaaGreatDoor
