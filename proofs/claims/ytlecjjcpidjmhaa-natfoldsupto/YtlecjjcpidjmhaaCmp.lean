/-
  natural.compare, Cmp; sloperef1.May, Cmp: contracts.
-/
import Derived.Test.YtlecjjcpidjmhaaFrom
namespace Go.Proofs.Ytlecjjcpidjmhaa
open Go.RowKit Go.Deep
set_option linter.unusedVariables false

set_option maxHeartbeats 1600000 in
theorem compare_some (b1 o1 b2 o2 : Nat) (n c1 c2 : Nat) (xs ys : List Nat) (w : World) (hn : n ≤ maxLen) (hx : xs.length = n) (hy : ys.length = n) (ox : Ok xs) (oy : Ok ys)
   (h1 : Cells w b1 o1 xs) (h2 : Cells w b2 o2 ys) :
    Calls Try.prog 60 #[.slice (some ⟨b1, o1, none⟩) n c1, .slice (some ⟨b2, o2, none⟩) n c2] w fun e w' => e = .returned (.int .i64 (cmpN (val xs) (val ys))) ∧ ∃ k, w' = w.drewN k := by
  unfold maxLen at hn
  go_enter Try.func60, Try.ntmps60
  go_wp2
  go_loopw [5] (fun i wr => ∃ k : Nat, k ≤ n ∧ i = .int .i64 ((k : Int) - 1) ∧ (∀ j, k ≤ j → xs.getD j 0 = ys.getD j 0) ∧ ∃ d, wr = w.drewN d) (fun i _ => (intOf i + 1).toNat)
  case atStart => exact ⟨n, Nat.le_refl _, rfl, fun j hj => by rw [getD_ge (by omega), getD_ge (by omega)], 0, rfl⟩
  case round =>
    obtain ⟨k, hk, rfl, ht, d, rfl⟩ := hrel
    by_cases hlt : 0 < k
    · have hlt' : (0:Int) ≤ (k:Int) - 1 := by omega
      have hlt2 : (k:Int) - 1 < (n:Int) := by omega
      have hk1 : ((k:Int) - 1).toNat = k - 1 := by omega
      have g1 := h1 (k - 1) (by omega)
      have g2 := h2 (k - 1) (by omega)
      by_cases he : xs.getD (k - 1) 0 = ys.getD (k - 1) 0
      · have HT : ∀ j, k - 1 ≤ j → xs.getD j 0 = ys.getD j 0 := fun j hj => by
          by_cases e : j = k - 1
          · rw [e]; exact he
          · exact ht j (by omega)
        have HT' := hide HT
        have hb : (((xs.getD (k - 1) 0 : Nat) : Int) != ((ys.getD (k - 1) 0 : Nat) : Int)) = false := by rw [he]; simp
        generalize ((xs.getD (k - 1) 0 : Nat) : Int) = u at g1 hb
        generalize ((ys.getD (k - 1) 0 : Nat) : Int) = v at g2 hb
        clear he h1 h2 HT ht
        go_wp2_with fail
        go_quiet (fail)
        go_wp2
        exact ⟨⟨k - 1, by omega, by congr 1; omega, unhide HT', _, rfl⟩, by simp [intOf]; omega⟩
      · have hb : (((xs.getD (k - 1) 0 : Nat) : Int) != ((ys.getD (k - 1) 0 : Nat) : Int)) = true := by rw [bne_iff_ne]; omega
        have hr : ((xs.getD (k - 1) 0 : Nat) : Int) < ((ys.getD (k - 1) 0 : Nat) : Int) ∧ cmpN (val xs) (val ys) = -1 ∨ ¬ ((xs.getD (k - 1) 0 : Nat) : Int) < ((ys.getD (k - 1) 0 : Nat) : Int) ∧ cmpN (val xs) (val ys) = 1 := by
          by_cases hh : xs.getD (k - 1) 0 < ys.getD (k - 1) 0
          · exact .inl ⟨by omega, cmpN_lt (val_lt_of (i := k - 1) (hx.trans hy.symm) ox oy (by omega) (fun j hj => ht j (by omega)) hh)⟩
          · exact .inr ⟨by omega, cmpN_gt (val_lt_of (i := k - 1) (hy.trans hx.symm) oy ox (by omega) (fun j hj => (ht j (by omega)).symm) (by omega))⟩
        generalize ((xs.getD (k - 1) 0 : Nat) : Int) = u at g1 hb hr
        generalize ((ys.getD (k - 1) 0 : Nat) : Int) = v at g2 hb hr
        clear he h1 h2 ht
        rcases hr with ⟨hr, hc⟩ | ⟨hr, hc⟩
        · have HC := hide hc
          clear hc
          go_wp2_with fail
          go_quiet (fail)
          go_wp2_with fail
          go_quiet (fail)
          go_wp2
          go_ret
          exact ⟨by rw [unhide HC]; rfl, _, drewN_add3 _ _ _ _⟩
        · have HC := hide hc
          clear hc
          go_wp2_with fail
          go_quiet (fail)
          go_wp2_with fail
          go_quiet (fail)
          go_wp2
          go_ret
          exact ⟨by rw [unhide HC]; rfl, _, drewN_add3 _ _ _ _⟩
    · have hk0 : ¬ (0:Int) ≤ (k:Int) - 1 := by omega
      have : xs = ys := ext_getD (hx.trans hy.symm) (fun i _ => ht i (by omega))
      have HE := hide this
      clear this h1 h2 ht
      go_wp2
      go_ret
      exact ⟨by rw [cmpN_eq (by rw [unhide HE])]; rfl, _, rfl⟩

set_option maxHeartbeats 400000 in
theorem compare_len (a1 a2 : Option Addr) (n1 n2 c1 c2 : Nat) (w : World) (hn : ((n1:Int) != (n2:Int)) = true) :
    Calls Try.prog 60 #[.slice a1 n1 c1, .slice a2 n2 c2] w fun e w' => e = .returned (.int .i64 (if (n1:Int) < (n2:Int) then -1 else 1)) ∧ w' = w := by
  by_cases h : (n1:Int) < (n2:Int)
  · go_enter Try.func60, Try.ntmps60
    go_wp2
    go_ret
    exact ⟨rfl, rfl⟩
  · go_enter Try.func60, Try.ntmps60
    go_wp2
    go_ret
    exact ⟨rfl, rfl⟩

set_option maxHeartbeats 400000 in
theorem compare_nil (a1 a2 : Option Addr) (c1 c2 : Nat) (w : World) :
    Calls Try.prog 60 #[.slice a1 0 c1, .slice a2 0 c2] w fun e w' => e = .returned (.int .i64 0) ∧ w' = w := by
  go_enter Try.func60, Try.ntmps60
  go_wp2
  go_loop [5] (fun i => i = .int .i64 (-1)) (fun i => (intOf i).toNat)
  case atStart => rfl
  case round =>
    subst hrel
    go_wp2
    go_ret
    exact ⟨rfl, rfl⟩

theorem cmp_len {xs ys : List Nat} (ox : Ok xs) (oy : Ok ys) (nx : Norm xs) (ny : Norm ys) (h : xs.length ≠ ys.length) :
    (if (xs.length:Int) < (ys.length:Int) then -1 else 1 : Int) = cmpN (val xs) (val ys) := by
  by_cases hl : xs.length < ys.length
  · rw [if_pos (by omega), cmpN_lt (len_lt_val ox ny hl)]
  · rw [if_neg (by omega), cmpN_gt (len_lt_val oy nx (by omega))]

/-- natural.compare. -/
theorem compare_any (a1 a2 : Option Addr) (n1 c1 n2 c2 : Nat) (xs ys : List Nat) (w : World) (h1 : Sl w a1 n1 c1 xs) (h2 : Sl w a2 n2 c2 ys) (ox : Ok xs) (oy : Ok ys) (nx : Norm xs) (ny : Norm ys) :
    Calls Try.prog 60 #[.slice a1 n1 c1, .slice a2 n2 c2] w fun e w' => e = .returned (.int .i64 (cmpN (val xs) (val ys))) ∧ ∃ k, w' = w.drewN k := by
  have l1 := h1.len
  have l2 := h2.len
  by_cases e : n1 = n2
  · subst e
    by_cases z : n1 = 0
    · subst z
      have e1 : xs = [] := List.eq_nil_of_length_eq_zero l1
      have e2 : ys = [] := List.eq_nil_of_length_eq_zero l2
      subst e1 e2
      refine (compare_nil a1 a2 c1 c2 w).mono ?_
      rintro e w' ⟨rfl, rfl⟩
      exact ⟨rfl, 0, rfl⟩
    · rcases h1.cells with e1 | ⟨b1, o1, rfl, k1⟩
      · subst e1; simp at l1; omega
      · rcases h2.cells with e2 | ⟨b2, o2, rfl, k2⟩
        · subst e2; simp at l2; omega
        · exact compare_some b1 o1 b2 o2 n1 c1 c2 xs ys w (Nat.le_trans h1.le h1.cap) l1 l2 ox oy k1 k2
  · refine (compare_len a1 a2 n1 n2 c1 c2 w (by rw [bne_iff_ne]; omega)).mono ?_
    rintro e w' ⟨rfl, rfl⟩
    rw [← l1, ← l2, cmp_len ox oy nx ny (by omega)]
    exact ⟨rfl, 0, rfl⟩

/-- What Cmp answers. -/
def cmpL (xs ys : List Nat) : Int := if MayL xs && MayL ys then cmpN (val xs) (val ys) else 0

set_option maxHeartbeats 400000 in
theorem rmay_nil (a : Option Addr) (cap : Nat) (w : World) :
    Calls Try.prog 39 #[.slice a 0 cap] w fun e w' => e = .returned (.bool true) ∧ w' = w := by
  go_enter Try.func39, Try.ntmps39
  go_wp2
  go_ret
  exact ⟨rfl, rfl⟩
set_option maxHeartbeats 400000 in
theorem rmay_long (a : Option Addr) (len cap : Nat) (w : World) (h : 2048 < len) (hm : len ≤ maxLen) :
    Calls Try.prog 39 #[.slice a len cap] w fun e w' => e = .returned (.bool false) ∧ w' = w := by
  unfold maxLen at hm
  go_enter Try.func39, Try.ntmps39
  go_wp2
  go_ret
  exact ⟨rfl, rfl⟩
set_option maxHeartbeats 400000 in
theorem rmay_some (b off : Nat) (n cap : Nat) (x : Int) (w : World) (h : (n:Int) ≤ 2048) (h0 : 0 < n) (hc : w.cell? ⟨b, off + (n-1), none⟩ = some (.int .u32 x)) :
    Calls Try.prog 39 #[.slice (some ⟨b, off, none⟩) n cap] w fun e w' => e = .returned (.bool (x != 0)) ∧ w' = w := by
  have h1 : ((n:Int) == 0) = false := by simp; omega
  have h2 : ((n:Int) - 1).toNat = n - 1 := by omega
  go_enter Try.func39, Try.ntmps39
  go_wp2
  go_ret
  exact ⟨rfl, rfl⟩

/-- sloperef1.May. -/
theorem rmay_any (a : Option Addr) (n c : Nat) (xs : List Nat) (w : World) (h : Sl w a n c xs) :
    Calls Try.prog 39 #[.slice a n c] w fun e w' => e = .returned (.bool (MayL xs)) ∧ w' = w := by
  have hl := h.len
  by_cases hlong : 2048 < n
  · refine (rmay_long a n c w hlong (Nat.le_trans h.le h.cap)).mono ?_
    rintro e w' ⟨rfl, rfl⟩
    have : MayL xs = false := by simp [MayL]; omega
    rw [this]; exact ⟨rfl, rfl⟩
  · rcases h.cells with h0 | ⟨b, off, rfl, hc⟩
    · subst h0
      simp at hl
      subst hl
      refine (rmay_nil a c w).mono ?_
      rintro e w' ⟨rfl, rfl⟩
      exact ⟨rfl, rfl⟩
    · by_cases hz : n = 0
      · subst hz
        have : xs = [] := List.eq_nil_of_length_eq_zero hl
        subst this
        refine (rmay_nil _ c w).mono ?_
        rintro e w' ⟨rfl, rfl⟩
        exact ⟨rfl, rfl⟩
      · have := hc (n - 1) (by omega)
        refine (rmay_some b off n c _ w (by omega) (by omega) this).mono ?_
        rintro e w' ⟨rfl, rfl⟩
        refine ⟨?_, rfl⟩
        have e1 : xs.isEmpty = false := by cases xs with | nil => simp at hl; omega | cons => rfl
        have e2 : MayL xs = (((xs.getD (n - 1) 0 : Nat) : Int) != 0) := by
          simp only [MayL, hl, e1, Bool.false_or]
          rw [show decide (n ≤ 2048) = true from by simp; omega]
          simp only [Bool.true_and]
          rw [Bool.eq_iff_iff, bne_iff_ne, bne_iff_ne]
          omega
        rw [e2]


end Go.Proofs.Ytlecjjcpidjmhaa
