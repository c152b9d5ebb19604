/- Te3 -/
import Derived.Test.YtiadccaaoenccaaDoorTe2
namespace Go.Proofs.YtiadccaaoenccaaDoor
open Go.RowKit Go.Deep
set_option linter.unusedVariables false
set_option maxRecDepth 100000 in
set_option maxHeartbeats 8000000 in
theorem tleaves_1 (a b n : Int) (p : Nq) (w : World) (hx : p.n = p.x.length) (hy : p.m = p.y.length) :
    Calls Tryd.prog 41 #[.agg #[.string (strB (shW 1)), .bool true, .bool false, .bool false, .bool false], opV ⟨1, a, b, n, p⟩] w fun e w' => e = .returned (.bool (!unuO ⟨1, a, b, n, p⟩)) ∧ Below w.heap.size w w' := by
  generalize strB (shW 1) = WW
  obtain ⟨wa, hwa⟩ : ∃ x, w.alloc (.cells #[.string WW, .bool true, .bool false, .bool false, .bool false] 109) = x := ⟨_, rfl⟩
  have bx : BoxP wa w.heap.size [.string WW, .bool true, .bool false, .bool false, .bool false] := by rw [← hwa]; exact BoxP.made _ _ _
  have hba : Below w.heap.size w wa := by rw [← hwa]; exact (Below.refl _ _).alloc (Nat.le_refl _) _
  obtain ⟨wo, hwo⟩ : ∃ x, wa.alloc (.cells #[.int .i64 1, .int .i64 a, .int .i64 b, .int .i64 n, .bool p.g, .slice p.a p.n p.c, .slice p.b p.m p.d] 54) = x := ⟨_, rfl⟩
  have br : BoxP wo wa.heap.size [.int .i64 1, .int .i64 a, .int .i64 b, .int .i64 n, .bool p.g, .slice p.a p.n p.c, .slice p.b p.m p.d] := by rw [← hwo]; exact BoxP.made _ _ _
  have hbo : Below wa.heap.size wa wo := by rw [← hwo]; exact (Below.refl _ _).alloc (Nat.le_refl _) _
  have bx2 := bx.below hbo
  have hB := hba.trans (hbo.mono hba.size)
  have HB := hide hB
  have g1 := (bx2.all 1 _ rfl).1
  have g2 := (bx2.all 2 _ rfl).1
  have g3 := (bx2.all 3 _ rfl).1
  have g4 := (bx2.all 4 _ rfl).1
  have f1 := (br.all 1 _ rfl).1
  have f2 := (br.all 2 _ rfl).1
  have f3 := (br.all 3 _ rfl).1
  have f4 := (br.all 4 _ rfl).1
  have f5 := (br.all 5 _ rfl).1
  have f6 := (br.all 6 _ rfl).1
  have KB := hide (fun (W : World) => tblank_any p W hx hy)
  unfold opV
  clear bx bx2 br hba hbo hB hx hy
  by_cases hb : b = 0
  rotate_left
  · have eb : (b == 0) = false := by simpa using hb
    rw [show (!unuO ⟨1, a, b, n, p⟩) = false by simp [unuO, twoK, hb]]
    go_enter Tryd.func41, Tryd.ntmps41
    go_wp2_with fail
    go_ret
    exact ⟨rfl, unhide HB⟩
  subst hb
  by_cases hn : n = 0
  rotate_left
  · have en : (n == 0) = false := by simpa using hn
    rw [show (!unuO ⟨1, a, 0, n, p⟩) = false by simp [unuO, twoK, hn]]
    go_enter Tryd.func41, Tryd.ntmps41
    go_wp2_with fail
    go_ret
    exact ⟨rfl, unhide HB⟩
  subst hn
  rw [show (!unuO ⟨1, a, 0, 0, p⟩) = blankQ p by simp [unuO, twoK]]
  go_enter Tryd.func41, Tryd.ntmps41
  go_wp2_with fail
  refine (unhide KB wo).mono ?_
  rintro _ w' ⟨rfl, hb⟩
  have HE := hide ((unhide HB).trans (hb.mono (unhide HB).size))
  clear hb
  go_wp2_with fail
  go_ret
  exact ⟨rfl, unhide HE⟩
set_option maxRecDepth 100000 in
set_option maxHeartbeats 8000000 in
theorem tleaves_2 (a b n : Int) (p : Nq) (w : World) (hx : p.n = p.x.length) (hy : p.m = p.y.length) :
    Calls Tryd.prog 41 #[.agg #[.string (strB (shW 2)), .bool false, .bool false, .bool false, .bool true], opV ⟨2, a, b, n, p⟩] w fun e w' => e = .returned (.bool (!unuO ⟨2, a, b, n, p⟩)) ∧ Below w.heap.size w w' := by
  generalize strB (shW 2) = WW
  obtain ⟨wa, hwa⟩ : ∃ x, w.alloc (.cells #[.string WW, .bool false, .bool false, .bool false, .bool true] 109) = x := ⟨_, rfl⟩
  have bx : BoxP wa w.heap.size [.string WW, .bool false, .bool false, .bool false, .bool true] := by rw [← hwa]; exact BoxP.made _ _ _
  have hba : Below w.heap.size w wa := by rw [← hwa]; exact (Below.refl _ _).alloc (Nat.le_refl _) _
  obtain ⟨wo, hwo⟩ : ∃ x, wa.alloc (.cells #[.int .i64 2, .int .i64 a, .int .i64 b, .int .i64 n, .bool p.g, .slice p.a p.n p.c, .slice p.b p.m p.d] 54) = x := ⟨_, rfl⟩
  have br : BoxP wo wa.heap.size [.int .i64 2, .int .i64 a, .int .i64 b, .int .i64 n, .bool p.g, .slice p.a p.n p.c, .slice p.b p.m p.d] := by rw [← hwo]; exact BoxP.made _ _ _
  have hbo : Below wa.heap.size wa wo := by rw [← hwo]; exact (Below.refl _ _).alloc (Nat.le_refl _) _
  have bx2 := bx.below hbo
  have hB := hba.trans (hbo.mono hba.size)
  have HB := hide hB
  have g1 := (bx2.all 1 _ rfl).1
  have g2 := (bx2.all 2 _ rfl).1
  have g3 := (bx2.all 3 _ rfl).1
  have g4 := (bx2.all 4 _ rfl).1
  have f1 := (br.all 1 _ rfl).1
  have f2 := (br.all 2 _ rfl).1
  have f3 := (br.all 3 _ rfl).1
  have f4 := (br.all 4 _ rfl).1
  have f5 := (br.all 5 _ rfl).1
  have f6 := (br.all 6 _ rfl).1
  have KB := hide (fun (W : World) => tblank_any p W hx hy)
  unfold opV
  clear bx bx2 br hba hbo hB hx hy
  by_cases ha : a = 0
  rotate_left
  · have ea : (a == 0) = false := by simpa using ha
    rw [show (!unuO ⟨2, a, b, n, p⟩) = false by simp [unuO, twoK, ha]]
    go_enter Tryd.func41, Tryd.ntmps41
    go_wp2_with fail
    go_ret
    exact ⟨rfl, unhide HB⟩
  subst ha
  by_cases hb : b = 0
  rotate_left
  · have eb : (b == 0) = false := by simpa using hb
    rw [show (!unuO ⟨2, 0, b, n, p⟩) = false by simp [unuO, twoK, hb]]
    go_enter Tryd.func41, Tryd.ntmps41
    go_wp2_with fail
    go_ret
    exact ⟨rfl, unhide HB⟩
  subst hb
  by_cases hn : n = 0
  rotate_left
  · have en : (n == 0) = false := by simpa using hn
    rw [show (!unuO ⟨2, 0, 0, n, p⟩) = false by simp [unuO, twoK, hn]]
    go_enter Tryd.func41, Tryd.ntmps41
    go_wp2_with fail
    go_ret
    exact ⟨rfl, unhide HB⟩
  subst hn
  rw [show (!unuO ⟨2, 0, 0, 0, p⟩) = true by simp [unuO, twoK]]
  go_enter Tryd.func41, Tryd.ntmps41
  go_wp2_with fail
  go_ret
  exact ⟨rfl, unhide HB⟩
set_option maxRecDepth 100000 in
set_option maxHeartbeats 8000000 in
theorem tleaves_3 (a b n : Int) (p : Nq) (w : World) (hx : p.n = p.x.length) (hy : p.m = p.y.length) :
    Calls Tryd.prog 41 #[.agg #[.string (strB (shW 3)), .bool true, .bool true, .bool false, .bool false], opV ⟨3, a, b, n, p⟩] w fun e w' => e = .returned (.bool (!unuO ⟨3, a, b, n, p⟩)) ∧ Below w.heap.size w w' := by
  generalize strB (shW 3) = WW
  obtain ⟨wa, hwa⟩ : ∃ x, w.alloc (.cells #[.string WW, .bool true, .bool true, .bool false, .bool false] 109) = x := ⟨_, rfl⟩
  have bx : BoxP wa w.heap.size [.string WW, .bool true, .bool true, .bool false, .bool false] := by rw [← hwa]; exact BoxP.made _ _ _
  have hba : Below w.heap.size w wa := by rw [← hwa]; exact (Below.refl _ _).alloc (Nat.le_refl _) _
  obtain ⟨wo, hwo⟩ : ∃ x, wa.alloc (.cells #[.int .i64 3, .int .i64 a, .int .i64 b, .int .i64 n, .bool p.g, .slice p.a p.n p.c, .slice p.b p.m p.d] 54) = x := ⟨_, rfl⟩
  have br : BoxP wo wa.heap.size [.int .i64 3, .int .i64 a, .int .i64 b, .int .i64 n, .bool p.g, .slice p.a p.n p.c, .slice p.b p.m p.d] := by rw [← hwo]; exact BoxP.made _ _ _
  have hbo : Below wa.heap.size wa wo := by rw [← hwo]; exact (Below.refl _ _).alloc (Nat.le_refl _) _
  have bx2 := bx.below hbo
  have hB := hba.trans (hbo.mono hba.size)
  have HB := hide hB
  have g1 := (bx2.all 1 _ rfl).1
  have g2 := (bx2.all 2 _ rfl).1
  have g3 := (bx2.all 3 _ rfl).1
  have g4 := (bx2.all 4 _ rfl).1
  have f1 := (br.all 1 _ rfl).1
  have f2 := (br.all 2 _ rfl).1
  have f3 := (br.all 3 _ rfl).1
  have f4 := (br.all 4 _ rfl).1
  have f5 := (br.all 5 _ rfl).1
  have f6 := (br.all 6 _ rfl).1
  have KB := hide (fun (W : World) => tblank_any p W hx hy)
  unfold opV
  clear bx bx2 br hba hbo hB hx hy
  by_cases hn : n = 0
  rotate_left
  · have en : (n == 0) = false := by simpa using hn
    rw [show (!unuO ⟨3, a, b, n, p⟩) = false by simp [unuO, twoK, hn]]
    go_enter Tryd.func41, Tryd.ntmps41
    go_wp2_with fail
    go_ret
    exact ⟨rfl, unhide HB⟩
  subst hn
  rw [show (!unuO ⟨3, a, b, 0, p⟩) = blankQ p by simp [unuO, twoK]]
  go_enter Tryd.func41, Tryd.ntmps41
  go_wp2_with fail
  refine (unhide KB wo).mono ?_
  rintro _ w' ⟨rfl, hb⟩
  have HE := hide ((unhide HB).trans (hb.mono (unhide HB).size))
  clear hb
  go_wp2_with fail
  go_ret
  exact ⟨rfl, unhide HE⟩
set_option maxRecDepth 100000 in
set_option maxHeartbeats 8000000 in
theorem tleaves_4 (a b n : Int) (p : Nq) (w : World) (hx : p.n = p.x.length) (hy : p.m = p.y.length) :
    Calls Tryd.prog 41 #[.agg #[.string (strB (shW 4)), .bool true, .bool true, .bool false, .bool false], opV ⟨4, a, b, n, p⟩] w fun e w' => e = .returned (.bool (!unuO ⟨4, a, b, n, p⟩)) ∧ Below w.heap.size w w' := by
  generalize strB (shW 4) = WW
  obtain ⟨wa, hwa⟩ : ∃ x, w.alloc (.cells #[.string WW, .bool true, .bool true, .bool false, .bool false] 109) = x := ⟨_, rfl⟩
  have bx : BoxP wa w.heap.size [.string WW, .bool true, .bool true, .bool false, .bool false] := by rw [← hwa]; exact BoxP.made _ _ _
  have hba : Below w.heap.size w wa := by rw [← hwa]; exact (Below.refl _ _).alloc (Nat.le_refl _) _
  obtain ⟨wo, hwo⟩ : ∃ x, wa.alloc (.cells #[.int .i64 4, .int .i64 a, .int .i64 b, .int .i64 n, .bool p.g, .slice p.a p.n p.c, .slice p.b p.m p.d] 54) = x := ⟨_, rfl⟩
  have br : BoxP wo wa.heap.size [.int .i64 4, .int .i64 a, .int .i64 b, .int .i64 n, .bool p.g, .slice p.a p.n p.c, .slice p.b p.m p.d] := by rw [← hwo]; exact BoxP.made _ _ _
  have hbo : Below wa.heap.size wa wo := by rw [← hwo]; exact (Below.refl _ _).alloc (Nat.le_refl _) _
  have bx2 := bx.below hbo
  have hB := hba.trans (hbo.mono hba.size)
  have HB := hide hB
  have g1 := (bx2.all 1 _ rfl).1
  have g2 := (bx2.all 2 _ rfl).1
  have g3 := (bx2.all 3 _ rfl).1
  have g4 := (bx2.all 4 _ rfl).1
  have f1 := (br.all 1 _ rfl).1
  have f2 := (br.all 2 _ rfl).1
  have f3 := (br.all 3 _ rfl).1
  have f4 := (br.all 4 _ rfl).1
  have f5 := (br.all 5 _ rfl).1
  have f6 := (br.all 6 _ rfl).1
  have KB := hide (fun (W : World) => tblank_any p W hx hy)
  unfold opV
  clear bx bx2 br hba hbo hB hx hy
  by_cases hn : n = 0
  rotate_left
  · have en : (n == 0) = false := by simpa using hn
    rw [show (!unuO ⟨4, a, b, n, p⟩) = false by simp [unuO, twoK, hn]]
    go_enter Tryd.func41, Tryd.ntmps41
    go_wp2_with fail
    go_ret
    exact ⟨rfl, unhide HB⟩
  subst hn
  rw [show (!unuO ⟨4, a, b, 0, p⟩) = blankQ p by simp [unuO, twoK]]
  go_enter Tryd.func41, Tryd.ntmps41
  go_wp2_with fail
  refine (unhide KB wo).mono ?_
  rintro _ w' ⟨rfl, hb⟩
  have HE := hide ((unhide HB).trans (hb.mono (unhide HB).size))
  clear hb
  go_wp2_with fail
  go_ret
  exact ⟨rfl, unhide HE⟩
set_option maxRecDepth 100000 in
set_option maxHeartbeats 8000000 in
theorem tleaves_5 (a b n : Int) (p : Nq) (w : World) (hx : p.n = p.x.length) (hy : p.m = p.y.length) :
    Calls Tryd.prog 41 #[.agg #[.string (strB (shW 5)), .bool true, .bool true, .bool false, .bool false], opV ⟨5, a, b, n, p⟩] w fun e w' => e = .returned (.bool (!unuO ⟨5, a, b, n, p⟩)) ∧ Below w.heap.size w w' := by
  generalize strB (shW 5) = WW
  obtain ⟨wa, hwa⟩ : ∃ x, w.alloc (.cells #[.string WW, .bool true, .bool true, .bool false, .bool false] 109) = x := ⟨_, rfl⟩
  have bx : BoxP wa w.heap.size [.string WW, .bool true, .bool true, .bool false, .bool false] := by rw [← hwa]; exact BoxP.made _ _ _
  have hba : Below w.heap.size w wa := by rw [← hwa]; exact (Below.refl _ _).alloc (Nat.le_refl _) _
  obtain ⟨wo, hwo⟩ : ∃ x, wa.alloc (.cells #[.int .i64 5, .int .i64 a, .int .i64 b, .int .i64 n, .bool p.g, .slice p.a p.n p.c, .slice p.b p.m p.d] 54) = x := ⟨_, rfl⟩
  have br : BoxP wo wa.heap.size [.int .i64 5, .int .i64 a, .int .i64 b, .int .i64 n, .bool p.g, .slice p.a p.n p.c, .slice p.b p.m p.d] := by rw [← hwo]; exact BoxP.made _ _ _
  have hbo : Below wa.heap.size wa wo := by rw [← hwo]; exact (Below.refl _ _).alloc (Nat.le_refl _) _
  have bx2 := bx.below hbo
  have hB := hba.trans (hbo.mono hba.size)
  have HB := hide hB
  have g1 := (bx2.all 1 _ rfl).1
  have g2 := (bx2.all 2 _ rfl).1
  have g3 := (bx2.all 3 _ rfl).1
  have g4 := (bx2.all 4 _ rfl).1
  have f1 := (br.all 1 _ rfl).1
  have f2 := (br.all 2 _ rfl).1
  have f3 := (br.all 3 _ rfl).1
  have f4 := (br.all 4 _ rfl).1
  have f5 := (br.all 5 _ rfl).1
  have f6 := (br.all 6 _ rfl).1
  have KB := hide (fun (W : World) => tblank_any p W hx hy)
  unfold opV
  clear bx bx2 br hba hbo hB hx hy
  by_cases hn : n = 0
  rotate_left
  · have en : (n == 0) = false := by simpa using hn
    rw [show (!unuO ⟨5, a, b, n, p⟩) = false by simp [unuO, twoK, hn]]
    go_enter Tryd.func41, Tryd.ntmps41
    go_wp2_with fail
    go_ret
    exact ⟨rfl, unhide HB⟩
  subst hn
  rw [show (!unuO ⟨5, a, b, 0, p⟩) = blankQ p by simp [unuO, twoK]]
  go_enter Tryd.func41, Tryd.ntmps41
  go_wp2_with fail
  refine (unhide KB wo).mono ?_
  rintro _ w' ⟨rfl, hb⟩
  have HE := hide ((unhide HB).trans (hb.mono (unhide HB).size))
  clear hb
  go_wp2_with fail
  go_ret
  exact ⟨rfl, unhide HE⟩
set_option maxRecDepth 100000 in
set_option maxHeartbeats 8000000 in
theorem tleaves_6 (a b n : Int) (p : Nq) (w : World) (hx : p.n = p.x.length) (hy : p.m = p.y.length) :
    Calls Tryd.prog 41 #[.agg #[.string (strB (shW 6)), .bool true, .bool true, .bool false, .bool false], opV ⟨6, a, b, n, p⟩] w fun e w' => e = .returned (.bool (!unuO ⟨6, a, b, n, p⟩)) ∧ Below w.heap.size w w' := by
  generalize strB (shW 6) = WW
  obtain ⟨wa, hwa⟩ : ∃ x, w.alloc (.cells #[.string WW, .bool true, .bool true, .bool false, .bool false] 109) = x := ⟨_, rfl⟩
  have bx : BoxP wa w.heap.size [.string WW, .bool true, .bool true, .bool false, .bool false] := by rw [← hwa]; exact BoxP.made _ _ _
  have hba : Below w.heap.size w wa := by rw [← hwa]; exact (Below.refl _ _).alloc (Nat.le_refl _) _
  obtain ⟨wo, hwo⟩ : ∃ x, wa.alloc (.cells #[.int .i64 6, .int .i64 a, .int .i64 b, .int .i64 n, .bool p.g, .slice p.a p.n p.c, .slice p.b p.m p.d] 54) = x := ⟨_, rfl⟩
  have br : BoxP wo wa.heap.size [.int .i64 6, .int .i64 a, .int .i64 b, .int .i64 n, .bool p.g, .slice p.a p.n p.c, .slice p.b p.m p.d] := by rw [← hwo]; exact BoxP.made _ _ _
  have hbo : Below wa.heap.size wa wo := by rw [← hwo]; exact (Below.refl _ _).alloc (Nat.le_refl _) _
  have bx2 := bx.below hbo
  have hB := hba.trans (hbo.mono hba.size)
  have HB := hide hB
  have g1 := (bx2.all 1 _ rfl).1
  have g2 := (bx2.all 2 _ rfl).1
  have g3 := (bx2.all 3 _ rfl).1
  have g4 := (bx2.all 4 _ rfl).1
  have f1 := (br.all 1 _ rfl).1
  have f2 := (br.all 2 _ rfl).1
  have f3 := (br.all 3 _ rfl).1
  have f4 := (br.all 4 _ rfl).1
  have f5 := (br.all 5 _ rfl).1
  have f6 := (br.all 6 _ rfl).1
  have KB := hide (fun (W : World) => tblank_any p W hx hy)
  unfold opV
  clear bx bx2 br hba hbo hB hx hy
  by_cases hn : n = 0
  rotate_left
  · have en : (n == 0) = false := by simpa using hn
    rw [show (!unuO ⟨6, a, b, n, p⟩) = false by simp [unuO, twoK, hn]]
    go_enter Tryd.func41, Tryd.ntmps41
    go_wp2_with fail
    go_ret
    exact ⟨rfl, unhide HB⟩
  subst hn
  rw [show (!unuO ⟨6, a, b, 0, p⟩) = blankQ p by simp [unuO, twoK]]
  go_enter Tryd.func41, Tryd.ntmps41
  go_wp2_with fail
  refine (unhide KB wo).mono ?_
  rintro _ w' ⟨rfl, hb⟩
  have HE := hide ((unhide HB).trans (hb.mono (unhide HB).size))
  clear hb
  go_wp2_with fail
  go_ret
  exact ⟨rfl, unhide HE⟩
set_option maxRecDepth 100000 in
set_option maxHeartbeats 8000000 in
theorem tleaves_7 (a b n : Int) (p : Nq) (w : World) (hx : p.n = p.x.length) (hy : p.m = p.y.length) :
    Calls Tryd.prog 41 #[.agg #[.string (strB (shW 7)), .bool true, .bool false, .bool false, .bool false], opV ⟨7, a, b, n, p⟩] w fun e w' => e = .returned (.bool (!unuO ⟨7, a, b, n, p⟩)) ∧ Below w.heap.size w w' := by
  generalize strB (shW 7) = WW
  obtain ⟨wa, hwa⟩ : ∃ x, w.alloc (.cells #[.string WW, .bool true, .bool false, .bool false, .bool false] 109) = x := ⟨_, rfl⟩
  have bx : BoxP wa w.heap.size [.string WW, .bool true, .bool false, .bool false, .bool false] := by rw [← hwa]; exact BoxP.made _ _ _
  have hba : Below w.heap.size w wa := by rw [← hwa]; exact (Below.refl _ _).alloc (Nat.le_refl _) _
  obtain ⟨wo, hwo⟩ : ∃ x, wa.alloc (.cells #[.int .i64 7, .int .i64 a, .int .i64 b, .int .i64 n, .bool p.g, .slice p.a p.n p.c, .slice p.b p.m p.d] 54) = x := ⟨_, rfl⟩
  have br : BoxP wo wa.heap.size [.int .i64 7, .int .i64 a, .int .i64 b, .int .i64 n, .bool p.g, .slice p.a p.n p.c, .slice p.b p.m p.d] := by rw [← hwo]; exact BoxP.made _ _ _
  have hbo : Below wa.heap.size wa wo := by rw [← hwo]; exact (Below.refl _ _).alloc (Nat.le_refl _) _
  have bx2 := bx.below hbo
  have hB := hba.trans (hbo.mono hba.size)
  have HB := hide hB
  have g1 := (bx2.all 1 _ rfl).1
  have g2 := (bx2.all 2 _ rfl).1
  have g3 := (bx2.all 3 _ rfl).1
  have g4 := (bx2.all 4 _ rfl).1
  have f1 := (br.all 1 _ rfl).1
  have f2 := (br.all 2 _ rfl).1
  have f3 := (br.all 3 _ rfl).1
  have f4 := (br.all 4 _ rfl).1
  have f5 := (br.all 5 _ rfl).1
  have f6 := (br.all 6 _ rfl).1
  have KB := hide (fun (W : World) => tblank_any p W hx hy)
  unfold opV
  clear bx bx2 br hba hbo hB hx hy
  by_cases hb : b = 0
  rotate_left
  · have eb : (b == 0) = false := by simpa using hb
    rw [show (!unuO ⟨7, a, b, n, p⟩) = false by simp [unuO, twoK, hb]]
    go_enter Tryd.func41, Tryd.ntmps41
    go_wp2_with fail
    go_ret
    exact ⟨rfl, unhide HB⟩
  subst hb
  by_cases hn : n = 0
  rotate_left
  · have en : (n == 0) = false := by simpa using hn
    rw [show (!unuO ⟨7, a, 0, n, p⟩) = false by simp [unuO, twoK, hn]]
    go_enter Tryd.func41, Tryd.ntmps41
    go_wp2_with fail
    go_ret
    exact ⟨rfl, unhide HB⟩
  subst hn
  rw [show (!unuO ⟨7, a, 0, 0, p⟩) = blankQ p by simp [unuO, twoK]]
  go_enter Tryd.func41, Tryd.ntmps41
  go_wp2_with fail
  refine (unhide KB wo).mono ?_
  rintro _ w' ⟨rfl, hb⟩
  have HE := hide ((unhide HB).trans (hb.mono (unhide HB).size))
  clear hb
  go_wp2_with fail
  go_ret
  exact ⟨rfl, unhide HE⟩
set_option maxRecDepth 100000 in
set_option maxHeartbeats 8000000 in
theorem tleaves_8 (a b n : Int) (p : Nq) (w : World) (hx : p.n = p.x.length) (hy : p.m = p.y.length) :
    Calls Tryd.prog 41 #[.agg #[.string (strB (shW 8)), .bool true, .bool false, .bool true, .bool false], opV ⟨8, a, b, n, p⟩] w fun e w' => e = .returned (.bool (!unuO ⟨8, a, b, n, p⟩)) ∧ Below w.heap.size w w' := by
  generalize strB (shW 8) = WW
  obtain ⟨wa, hwa⟩ : ∃ x, w.alloc (.cells #[.string WW, .bool true, .bool false, .bool true, .bool false] 109) = x := ⟨_, rfl⟩
  have bx : BoxP wa w.heap.size [.string WW, .bool true, .bool false, .bool true, .bool false] := by rw [← hwa]; exact BoxP.made _ _ _
  have hba : Below w.heap.size w wa := by rw [← hwa]; exact (Below.refl _ _).alloc (Nat.le_refl _) _
  obtain ⟨wo, hwo⟩ : ∃ x, wa.alloc (.cells #[.int .i64 8, .int .i64 a, .int .i64 b, .int .i64 n, .bool p.g, .slice p.a p.n p.c, .slice p.b p.m p.d] 54) = x := ⟨_, rfl⟩
  have br : BoxP wo wa.heap.size [.int .i64 8, .int .i64 a, .int .i64 b, .int .i64 n, .bool p.g, .slice p.a p.n p.c, .slice p.b p.m p.d] := by rw [← hwo]; exact BoxP.made _ _ _
  have hbo : Below wa.heap.size wa wo := by rw [← hwo]; exact (Below.refl _ _).alloc (Nat.le_refl _) _
  have bx2 := bx.below hbo
  have hB := hba.trans (hbo.mono hba.size)
  have HB := hide hB
  have g1 := (bx2.all 1 _ rfl).1
  have g2 := (bx2.all 2 _ rfl).1
  have g3 := (bx2.all 3 _ rfl).1
  have g4 := (bx2.all 4 _ rfl).1
  have f1 := (br.all 1 _ rfl).1
  have f2 := (br.all 2 _ rfl).1
  have f3 := (br.all 3 _ rfl).1
  have f4 := (br.all 4 _ rfl).1
  have f5 := (br.all 5 _ rfl).1
  have f6 := (br.all 6 _ rfl).1
  have KB := hide (fun (W : World) => tblank_any p W hx hy)
  unfold opV
  clear bx bx2 br hba hbo hB hx hy
  by_cases hb : b = 0
  rotate_left
  · have eb : (b == 0) = false := by simpa using hb
    rw [show (!unuO ⟨8, a, b, n, p⟩) = false by simp [unuO, twoK, hb]]
    go_enter Tryd.func41, Tryd.ntmps41
    go_wp2_with fail
    go_ret
    exact ⟨rfl, unhide HB⟩
  subst hb
  rw [show (!unuO ⟨8, a, 0, n, p⟩) = blankQ p by simp [unuO, twoK]]
  go_enter Tryd.func41, Tryd.ntmps41
  go_wp2_with fail
  refine (unhide KB wo).mono ?_
  rintro _ w' ⟨rfl, hb⟩
  have HE := hide ((unhide HB).trans (hb.mono (unhide HB).size))
  clear hb
  go_wp2_with fail
  go_ret
  exact ⟨rfl, unhide HE⟩
theorem tleaves_any (o : On) (k : Nat) (hk : o.k = (k : Int)) (h1 : 1 ≤ k) (h8 : k ≤ 8) (w : World) (hx : o.p.n = o.p.x.length) (hy : o.p.m = o.p.y.length) :
    Calls Tryd.prog 41 #[.agg (shV k).toArray, opV o] w fun e w' => e = .returned (.bool (!unuO o)) ∧ Below w.heap.size w w' := by
  obtain ⟨ok, a, b, n, p⟩ := o
  simp only at hk hx hy
  subst hk
  match k, h1, h8 with
  | 1, _, _ => exact tleaves_1 a b n p w hx hy
  | 2, _, _ => exact tleaves_2 a b n p w hx hy
  | 3, _, _ => exact tleaves_3 a b n p w hx hy
  | 4, _, _ => exact tleaves_4 a b n p w hx hy
  | 5, _, _ => exact tleaves_5 a b n p w hx hy
  | 6, _, _ => exact tleaves_6 a b n p w hx hy
  | 7, _, _ => exact tleaves_7 a b n p w hx hy
  | 8, _, _ => exact tleaves_8 a b n p w hx hy
end Go.Proofs.YtiadccaaoenccaaDoor
