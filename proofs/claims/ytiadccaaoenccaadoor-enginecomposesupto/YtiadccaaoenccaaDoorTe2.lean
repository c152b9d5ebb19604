/- Te1 -/
import Derived.Test.YtiadccaaoenccaaDoorTe0
import Derived.Test.YtiadccaaoenccaaDoorWr1
namespace Go.Proofs.YtiadccaaoenccaaDoor
open Go.RowKit Go.Deep
set_option linter.unusedVariables false
theorem tisKind_any (k : Int) (w : World) : Calls Tryd.prog 39 #[.int .i64 k] w fun e w' => e = .returned (.bool (decide (1 ≤ k) && decide (k ≤ 8))) ∧ w' = w := by
  by_cases h1 : 1 ≤ k
  · have h1' : ¬ k < 1 := by omega
    by_cases h2 : k ≤ 8
    · have h2' : ¬ 8 < k := by omega
      rw [show (decide (1 ≤ k) && decide (k ≤ 8)) = true by simp [h1, h2]]
      go_enter Tryd.func39, Tryd.ntmps39
      go_wp2_with fail
      go_ret
      exact ⟨rfl, rfl⟩
    · have h2' : 8 < k := by omega
      rw [show (decide (1 ≤ k) && decide (k ≤ 8)) = false by simp [h2]]
      go_enter Tryd.func39, Tryd.ntmps39
      go_wp2_with fail
      go_ret
      exact ⟨rfl, rfl⟩
  · have h1' : k < 1 := by omega
    rw [show (decide (1 ≤ k) && decide (k ≤ 8)) = false by simp [h1]]
    go_enter Tryd.func39, Tryd.ntmps39
    go_wp2_with fail
    go_ret
    exact ⟨rfl, rfl⟩
theorem tbelow_any (k n : Int) (w : World) : Calls Tryd.prog 33 #[.int .i64 k, .int .i64 n] w fun e w' => e = .returned (.bool (!offI k n)) ∧ w' = w := by
  by_cases h1 : 0 ≤ k
  · have h1' : ¬ k < 0 := by omega
    by_cases h2 : k < n
    · have h2' : ¬ n ≤ k := by omega
      rw [show (!offI k n) = true by simp [offI, h1', h2']]
      go_enter Tryd.func33, Tryd.ntmps33
      go_wp2_with fail
      go_ret
      exact ⟨rfl, rfl⟩
    · have h2' : n ≤ k := by omega
      rw [show (!offI k n) = false by simp [offI, h2']]
      go_enter Tryd.func33, Tryd.ntmps33
      go_wp2_with fail
      go_ret
      exact ⟨rfl, rfl⟩
  · have h1' : k < 0 := by omega
    rw [show (!offI k n) = false by simp [offI, h1']]
    go_enter Tryd.func33, Tryd.ntmps33
    go_wp2_with fail
    go_ret
    exact ⟨rfl, rfl⟩
theorem two_any (k : Int) (w : World) : Calls Tryd.prog 48 #[.int .i64 k] w fun e w' => e = .returned (.bool (twoK k)) ∧ w' = w := by
  by_cases h3 : k = 3
  · subst h3
    go_enter Tryd.func48, Tryd.ntmps48
    go_wp2_with fail
    go_ret
    exact ⟨rfl, rfl⟩
  by_cases h4 : k = 4
  · subst h4
    go_enter Tryd.func48, Tryd.ntmps48
    go_wp2_with fail
    go_ret
    exact ⟨rfl, rfl⟩
  by_cases h5 : k = 5
  · subst h5
    go_enter Tryd.func48, Tryd.ntmps48
    go_wp2_with fail
    go_ret
    exact ⟨rfl, rfl⟩
  by_cases h6 : k = 6
  · subst h6
    go_enter Tryd.func48, Tryd.ntmps48
    go_wp2_with fail
    go_ret
    exact ⟨rfl, rfl⟩
  have e : twoK k = false := by unfold twoK; simp; omega
  have a3 : (k == 3) = false := by simpa using h3
  have a4 : (k == 4) = false := by simpa using h4
  have a5 : (k == 5) = false := by simpa using h5
  have a6 : (k == 6) = false := by simpa using h6
  rw [e]
  go_enter Tryd.func48, Tryd.ntmps48
  go_wp2_with fail
  go_ret
  exact ⟨rfl, rfl⟩
theorem onef_any (k : Int) (w : World) : Calls Tryd.prog 47 #[.int .i64 k] w fun e w' => e = .returned (.bool (oneK k)) ∧ w' = w := by
  by_cases h3 : k = 7
  · subst h3
    go_enter Tryd.func47, Tryd.ntmps47
    go_wp2_with fail
    go_ret
    exact ⟨rfl, rfl⟩
  by_cases h4 : k = 8
  · subst h4
    go_enter Tryd.func47, Tryd.ntmps47
    go_wp2_with fail
    go_ret
    exact ⟨rfl, rfl⟩
  have e : oneK k = false := by unfold oneK; simp; omega
  have a3 : (k == 7) = false := by simpa using h3
  have a4 : (k == 8) = false := by simpa using h4
  rw [e]
  go_enter Tryd.func47, Tryd.ntmps47
  go_wp2_with fail
  go_ret
  exact ⟨rfl, rfl⟩
theorem tblank_any (p : Nq) (w : World) (hx : p.n = p.x.length) (hy : p.m = p.y.length) : Calls Tryd.prog 49 #[.agg #[.bool p.g, .slice p.a p.n p.c, .slice p.b p.m p.d]] w fun e w' => e = .returned (.bool (blankQ p)) ∧ Below w.heap.size w w' := by
  have bx := Box.made w p.g p.a p.n p.c p.b p.m p.d
  obtain ⟨wa, hwa⟩ : ∃ wa, ratBox w p.g p.a p.n p.c p.b p.m p.d = wa := ⟨_, rfl⟩
  rw [hwa] at bx
  have hba : Below w.heap.size w wa := by rw [← hwa]; exact (Below.refl _ _).alloc (Nat.le_refl _) _
  unfold ratBox at hwa
  have p0 := bx.d0
  have p1 := bx.d1
  have p2 := bx.d2
  have HB := hide hba
  clear bx hba
  obtain ⟨g, a, n, c, x, b, m, d, y⟩ := p
  simp only at hx hy hwa p0 p1 p2 ⊢
  cases g
  · by_cases h1 : x = []
    · subst h1
      obtain rfl : n = 0 := hx
      by_cases h2 : y = []
      · subst h2
        obtain rfl : m = 0 := hy
        go_enter Tryd.func49, Tryd.ntmps49
        go_wp2_with fail
        go_ret
        exact ⟨rfl, unhide HB⟩
      · have e : ((m : Int) == 0) = false := by
          have : y.length ≠ 0 := by simpa using h2
          simp; omega
        clear hy
        rw [show blankQ ⟨false, a, 0, c, [], b, m, d, y⟩ = false by simp [blankQ, h2]]
        go_enter Tryd.func49, Tryd.ntmps49
        go_wp2_with fail
        go_ret
        exact ⟨rfl, unhide HB⟩
    · have e : ((n : Int) == 0) = false := by
        have : x.length ≠ 0 := by simpa using h1
        simp; omega
      clear hx hy
      rw [show blankQ ⟨false, a, n, c, x, b, m, d, y⟩ = false by simp [blankQ, h1]]
      go_enter Tryd.func49, Tryd.ntmps49
      go_wp2_with fail
      go_ret
      exact ⟨rfl, unhide HB⟩
  · clear hx hy
    rw [show blankQ ⟨true, a, n, c, x, b, m, d, y⟩ = false by simp [blankQ]]
    go_enter Tryd.func49, Tryd.ntmps49
    go_wp2_with fail
    go_ret
    exact ⟨rfl, unhide HB⟩
theorem wnone_any (p : Nq) (w : World) (hx : p.n = p.x.length) (hy : p.m = p.y.length) : Calls Tryd.prog 53 #[.agg #[.bool p.g, .slice p.a p.n p.c, .slice p.b p.m p.d]] w fun e w' => e = .returned (.bool (blankQ p)) ∧ Below w.heap.size w w' := by
  have bx := Box.made w p.g p.a p.n p.c p.b p.m p.d
  obtain ⟨wa, hwa⟩ : ∃ wa, ratBox w p.g p.a p.n p.c p.b p.m p.d = wa := ⟨_, rfl⟩
  rw [hwa] at bx
  have hba : Below w.heap.size w wa := by rw [← hwa]; exact (Below.refl _ _).alloc (Nat.le_refl _) _
  unfold ratBox at hwa
  have p0 := bx.d0
  have p1 := bx.d1
  have p2 := bx.d2
  have HB := hide hba
  clear bx hba
  obtain ⟨g, a, n, c, x, b, m, d, y⟩ := p
  simp only at hx hy hwa p0 p1 p2 ⊢
  cases g
  · by_cases h1 : x = []
    · subst h1
      obtain rfl : n = 0 := hx
      by_cases h2 : y = []
      · subst h2
        obtain rfl : m = 0 := hy
        go_enter Tryd.func53, Tryd.ntmps53
        go_wp2_with fail
        go_ret
        exact ⟨rfl, unhide HB⟩
      · have e : ((m : Int) == 0) = false := by
          have : y.length ≠ 0 := by simpa using h2
          simp; omega
        clear hy
        rw [show blankQ ⟨false, a, 0, c, [], b, m, d, y⟩ = false by simp [blankQ, h2]]
        go_enter Tryd.func53, Tryd.ntmps53
        go_wp2_with fail
        go_ret
        exact ⟨rfl, unhide HB⟩
    · have e : ((n : Int) == 0) = false := by
        have : x.length ≠ 0 := by simpa using h1
        simp; omega
      clear hx hy
      rw [show blankQ ⟨false, a, n, c, x, b, m, d, y⟩ = false by simp [blankQ, h1]]
      go_enter Tryd.func53, Tryd.ntmps53
      go_wp2_with fail
      go_ret
      exact ⟨rfl, unhide HB⟩
  · clear hx hy
    rw [show blankQ ⟨true, a, n, c, x, b, m, d, y⟩ = false by simp [blankQ]]
    go_enter Tryd.func53, Tryd.ntmps53
    go_wp2_with fail
    go_ret
    exact ⟨rfl, unhide HB⟩
theorem Chg.put {S : Nat → Prop} {w w' : World} (h : Chg S w w') (b q : Nat) (v : Value) (hs : S b) : Chg S w (w'.setCell ⟨b, q, none⟩ v) := h.trans (Chg.of_set _ _ _ _ hs)
def shW : Nat → List Nat
  | 1 => [105, 110]
  | 2 => [99, 111, 110, 115, 116]
  | 3 => [97, 100, 100]
  | 4 => [115, 117, 98]
  | 5 => [109, 117, 108]
  | 6 => [100, 105, 118]
  | 7 => [110, 101, 103]
  | 8 => [112, 111, 119]
  | _ => []
def shA (k : Nat) : Bool := k != 0 && k != 2
def shB (k : Nat) : Bool := k == 3 || k == 4 || k == 5 || k == 6
def shN (k : Nat) : Bool := k == 8
def shC (k : Nat) : Bool := k == 2
def shV (k : Nat) : List Value := [.string (strB (shW k)), .bool (shA k), .bool (shB k), .bool (shN k), .bool (shC k)]
def TabSh (w : World) : Prop := ∀ k j : Nat, k < 9 → j < 5 → w.cell? ⟨0, k * 5 + j, none⟩ = (shV k)[j]?
theorem TabSh.below {w w' : World} (h : TabSh w) (k : Below w.heap.size w w') : TabSh w' := by
  intro a j ha hj
  have h1 := h a j ha hj
  have h2 : (shV a)[j]? = some ((shV a)[j]'hj) := List.getElem?_eq_getElem hj
  rw [h2] at h1 ⊢
  rw [k.cell (World.block_lt_of_cell? _ _ h1)]
  exact h1
set_option maxRecDepth 100000 in
theorem tshape_any (k : Nat) (h1 : 1 ≤ k) (h8 : k ≤ 8) (w : World) (hT : TabSh w) : Calls Tryd.prog 40 #[.int .i64 (k : Int)] w fun e w' => e = .returned (.agg (shV k).toArray) ∧ Below w.heap.size w w' := by
  obtain ⟨wa, hwa⟩ : ∃ x, w.alloc (.cells #[.string { data := #[] }, .bool false, .bool false, .bool false, .bool false] 109) = x := ⟨_, rfl⟩
  have bx : BoxP wa w.heap.size [.string { data := #[] }, .bool false, .bool false, .bool false, .bool false] := by rw [← hwa]; exact BoxP.made _ _ _
  have hba : Below w.heap.size w wa := by rw [← hwa]; exact (Below.refl _ _).alloc (Nat.le_refl _) _
  have hT' := hT.below hba
  have c0 := hT' k 0 (by omega) (by omega)
  have c1 := hT' k 1 (by omega) (by omega)
  have c2 := hT' k 2 (by omega) (by omega)
  have c3 := hT' k 3 (by omega) (by omega)
  have c4 := hT' k 4 (by omega) (by omega)
  have g0 := (bx.all 0 _ rfl).1
  have g1 := (bx.all 1 _ rfl).1
  have g2 := (bx.all 2 _ rfl).1
  have g3 := (bx.all 3 _ rfl).1
  have g4 := (bx.all 4 _ rfl).1
  have z0 := (bx.all 0 _ rfl).2
  have z1 := (bx.all 1 _ rfl).2
  have z2 := (bx.all 2 _ rfl).2
  have z3 := (bx.all 3 _ rfl).2
  have z4 := (bx.all 4 _ rfl).2
  have HB := hide hba
  have HX := hide bx
  clear hT hT' hba bx
  unfold shV at *
  generalize strB (shW k) = W at *
  generalize shA k = A at *
  generalize shB k = B at *
  generalize shN k = N at *
  generalize shC k = C at *
  simp only [List.getElem?_cons_zero, List.getElem?_cons_succ, Nat.add_zero] at c0 c1 c2 c3 c4
  have h1' : 0 ≤ (k : Int) := by omega
  have h2' : (k : Int) < 9 := by omega
  go_enter Tryd.func40, Tryd.ntmps40
  go_wp2_with fail
  have bF := (((((unhide HX).put 0 (.string W)).put 1 (.bool A)).put 2 (.bool B)).put 3 (.bool N)).put 4 (.bool C)
  have cF : Chg (fun j => j = w.heap.size) wa (((((wa.setCell ⟨w.heap.size, 0, none⟩ (.string W)).setCell ⟨w.heap.size, 1, none⟩ (.bool A)).setCell ⟨w.heap.size, 2, none⟩ (.bool B)).setCell ⟨w.heap.size, 3, none⟩ (.bool N)).setCell ⟨w.heap.size, 4, none⟩ (.bool C)) := (((((Chg.refl (fun j => j = w.heap.size) wa).put _ _ _ rfl).put _ _ _ rfl).put _ _ _ rfl).put _ _ _ rfl).put _ _ _ rfl
  generalize ((((wa.setCell ⟨w.heap.size, 0, none⟩ (.string W)).setCell ⟨w.heap.size, 1, none⟩ (.bool A)).setCell ⟨w.heap.size, 2, none⟩ (.bool B)).setCell ⟨w.heap.size, 3, none⟩ (.bool N)).setCell ⟨w.heap.size, 4, none⟩ (.bool C) = wf at *
  have t0 := (bF.all 0 _ rfl).1
  have t1 := (bF.all 1 _ rfl).1
  have t2 := (bF.all 2 _ rfl).1
  have t3 := (bF.all 3 _ rfl).1
  have t4 := (bF.all 4 _ rfl).1
  refine bodyPost_ret (by simp [results, Tryd.results40, go_sem, t0, t1, t2, t3, t4]; try rfl) rfl ?_
  exact ⟨rfl, (unhide HB).trans (cF.below (B := w.heap.size) (unhide HB).size (fun j hj e => by omega))⟩
end Go.Proofs.YtiadccaaoenccaaDoor
