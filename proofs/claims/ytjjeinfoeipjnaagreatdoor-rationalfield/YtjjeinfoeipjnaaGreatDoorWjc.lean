/-
  rational.Pow: contract.
-/
import Derived.Test.YtjjeinfoeipjnaaGreatDoorWif
import Derived.Test.YtjjeinfoeipjnaaGreatDoorPw2
namespace Go.Proofs.YtjjeinfoeipjnaaGreatDoor
open Go.RowKit Go.Deep
set_option linter.unusedVariables false

/-- What Pow answers. -/
def pwF (g : Bool) (X Y : List Nat) (k : Nat) : (Bool × List Nat × List Nat) × Int := if bigN (val X ^ k) || bigN (val Y ^ k) then ((false, [], []), 2) else ((((g && decide (k % 2 = 1)) && decide (val X ^ k ≠ 0)), limbs (val X ^ k), limbs (val Y ^ k)), 0)
def PowF (g : Bool) (x y : List Nat) (k : Int) : (Bool × List Nat × List Nat) × Int := if MayR g x y then (if k < -1024 ∨ 1024 < k then ((false, [], []), 1) else if k < 0 then (if x = [] then ((false, [], []), 3) else pwF g y x (-k).toNat) else pwF g x y k.toNat) else ((false, [], []), 40)
theorem powL_fit {X : List Nat} {k : Nat} (m : MayL X = true) (hk : k ≤ 1024) : powL X (k : Int) = fitL (val X ^ k) := by
  unfold powL
  rw [if_pos m, if_neg (by omega), Int.toNat_natCast]
theorem Tok.len_pos {v : Nat} {m : Nat} (h : (limbs v).length = m) : decide (0 < m) = decide (v ≠ 0) := by
  by_cases e : v = 0
  · have hl : limbs v = [] := by
      have := limbs_val (xs := []) (by intro x hx; cases hx) (by simp [Norm])
      rw [e]; simpa [val] using this
    rw [hl] at h
    simp at h
    simp [e, ← h]
  · have : limbs v ≠ [] := limbs_ne (by omega)
    have h2 := List.length_pos_iff.2 this
    rw [decide_eq_true (by omega), decide_eq_true e]

set_option maxHeartbeats 8000000 in
set_option maxRecDepth 100000 in
theorem ratpow_bad (g : Bool) (a b : Option Addr) (n c m d : Nat) (x y : List Nat) (k : Int) (w : World) (hx : Sl w a n c x) (hy : Sl w b m d y) (ox : Ok x) (oy : Ok y) (hT : Tab64 w) (hm : MayR g x y = false) :
    Calls Tryz.prog 7 #[ratV g a n c b m d, .int .i64 k] w fun e w' => ResR w w' false [] [] 40 e := by
  have bx := Box.made w g a n c b m d
  obtain ⟨wa, hwa⟩ : ∃ wa, ratBox w g a n c b m d = wa := ⟨_, rfl⟩
  rw [hwa] at bx
  obtain ⟨wb, hwb⟩ : ∃ wb, wa.alloc (.cells #[.bool false, .slice none 0 0, .slice none 0 0] 25) = wb := ⟨_, rfl⟩
  have hba : Below w.heap.size w wa := by rw [← hwa]; exact (Below.refl _ _).alloc (Nat.le_refl _) _
  have hbb : Below wa.heap.size wa wb := by rw [← hwb]; exact (Below.refl _ _).alloc (Nat.le_refl _) _
  have hO : Out wb wa.heap.size := by rw [← hwb]; exact Out.made wa
  have hoR : Out wb w.heap.size := by
    have h0 := bx.keep hbb
    unfold ratBox at hwa
    refine ⟨fun i hi => ?_, fun i hi => ?_, h0.lt⟩
    · match i, hi with
      | 0, _ => exact ⟨_, h0.d0⟩
      | 1, _ => exact ⟨_, h0.d1⟩
      | 2, _ => exact ⟨_, h0.d2⟩
    · match i, hi with
      | 0, _ => rw [← hwb, ← hwa]; simp
      | 1, _ => rw [← hwb, ← hwa]; simp
      | 2, _ => rw [← hwb, ← hwa]; simp
  have hX := bx.keep hbb
  have hB := hba.trans (hbb.mono hba.size)
  have hlt := bx.lt
  have d0 := hX.d0
  have d1 := hX.d1
  have d2 := hX.d2
  unfold ratBox at hwa
  have KM := ratMay_any g a b n c m d x y wb (hx.below hB) (hy.below hB) ox oy (hT.below hB)
  rw [hm] at KM
  have HKM := hide KM
  have HX := hide (And.intro hX (And.intro hO (And.intro hoR hB)))
  have HS := hide (And.intro hx hy)
  have HLn := hide hx.len
  unfold ratV at HKM ⊢
  clear bx hX hO hoR hB hba hbb KM hx hy hT
  go_enter Tryz.func7, Tryz.ntmps7
  go_wp2_with fail
  refine (unhide HKM).mono ?_
  rintro _ wl ⟨rfl, b1⟩
  have HY := hide (And.intro ((unhide HX).1.keep b1) (And.intro ((unhide HX).2.1.keep b1) (And.intro ((unhide HX).2.2.1.keep b1) ((unhide HX).2.2.2.trans (b1.mono (unhide HX).2.2.2.size)))))
  clear b1 HKM HX d0 d1 d2
  have hO1 := (unhide HY).2.1
  obtain ⟨x0, q0⟩ := hO1.cells 0 (by decide)
  obtain ⟨x1, q1⟩ := hO1.cells 1 (by decide)
  obtain ⟨x2, q2⟩ := hO1.cells 2 (by decide)
  have r0 := hO1.fz 0 (by decide)
  have r1 := hO1.fz 1 (by decide)
  have r2 := hO1.fz 2 (by decide)
  have H4 := hide (three_set wl wa.heap.size (.bool false) (.slice none 0 0) (.slice none 0 0) hO1.cells)
  have HB := hide (unhide HY).2.2.2
  clear hO1
  go_wp2_with fail
  obtain ⟨p0, p1, p2, c4⟩ := unhide H4
  generalize ((wl.setCell ⟨wa.heap.size, 0, none⟩ (.bool false)).setCell ⟨wa.heap.size, 1, none⟩ (.slice none 0 0)).setCell ⟨wa.heap.size, 2, none⟩ (.slice none 0 0) = wf at *
  refine bodyPost_ret (by simp [results, Tryz.results7, go_sem, p0, p1, p2]; try rfl) rfl ?_
  exact ⟨_, rfl, none, 0, 0, none, 0, 0, rfl, sl_nil _, sl_nil _, newAt_nil _, newAt_nil _, (unhide HB).trans (c4.below (unhide HB).size (fun k hk => by omega))⟩

set_option maxHeartbeats 8000000 in
set_option maxRecDepth 100000 in
theorem ratpow_arg (g : Bool) (a b : Option Addr) (n c m d : Nat) (x y : List Nat) (k : Int) (w : World) (hx : Sl w a n c x) (hy : Sl w b m d y) (ox : Ok x) (oy : Ok y) (hT : Tab64 w) (hm : MayR g x y = true) (hk : k < -1024 ∨ 1024 < k) :
    Calls Tryz.prog 7 #[ratV g a n c b m d, .int .i64 k] w fun e w' => ResR w w' false [] [] 1 e := by
  have bx := Box.made w g a n c b m d
  obtain ⟨wa, hwa⟩ : ∃ wa, ratBox w g a n c b m d = wa := ⟨_, rfl⟩
  rw [hwa] at bx
  obtain ⟨wb, hwb⟩ : ∃ wb, wa.alloc (.cells #[.bool false, .slice none 0 0, .slice none 0 0] 25) = wb := ⟨_, rfl⟩
  have hba : Below w.heap.size w wa := by rw [← hwa]; exact (Below.refl _ _).alloc (Nat.le_refl _) _
  have hbb : Below wa.heap.size wa wb := by rw [← hwb]; exact (Below.refl _ _).alloc (Nat.le_refl _) _
  have hO : Out wb wa.heap.size := by rw [← hwb]; exact Out.made wa
  have hoR : Out wb w.heap.size := by
    have h0 := bx.keep hbb
    unfold ratBox at hwa
    refine ⟨fun i hi => ?_, fun i hi => ?_, h0.lt⟩
    · match i, hi with
      | 0, _ => exact ⟨_, h0.d0⟩
      | 1, _ => exact ⟨_, h0.d1⟩
      | 2, _ => exact ⟨_, h0.d2⟩
    · match i, hi with
      | 0, _ => rw [← hwb, ← hwa]; simp
      | 1, _ => rw [← hwb, ← hwa]; simp
      | 2, _ => rw [← hwb, ← hwa]; simp
  have hX := bx.keep hbb
  have hB := hba.trans (hbb.mono hba.size)
  have hlt := bx.lt
  have d0 := hX.d0
  have d1 := hX.d1
  have d2 := hX.d2
  unfold ratBox at hwa
  have KM := ratMay_any g a b n c m d x y wb (hx.below hB) (hy.below hB) ox oy (hT.below hB)
  rw [hm] at KM
  have HKM := hide KM
  have HX := hide (And.intro hX (And.intro hO (And.intro hoR hB)))
  have HS := hide (And.intro hx hy)
  have HLn := hide hx.len
  unfold ratV at HKM ⊢
  clear bx hX hO hoR hB hba hbb KM hx hy hT
  rcases hk with hk | hk
  focus
    have hk2 : k < -1024 := hk
  rotate_left
  focus
    have hk2 : ¬ k < -1024 := by omega
  all_goals
    go_enter Tryz.func7, Tryz.ntmps7
    go_wp2_with fail
    refine (unhide HKM).mono ?_
    rintro _ wl ⟨rfl, b1⟩
    have HY := hide (And.intro ((unhide HX).1.keep b1) (And.intro ((unhide HX).2.1.keep b1) (And.intro ((unhide HX).2.2.1.keep b1) ((unhide HX).2.2.2.trans (b1.mono (unhide HX).2.2.2.size)))))
    clear b1 HKM HX d0 d1 d2
    have hO1 := (unhide HY).2.1
    obtain ⟨x0, q0⟩ := hO1.cells 0 (by decide)
    obtain ⟨x1, q1⟩ := hO1.cells 1 (by decide)
    obtain ⟨x2, q2⟩ := hO1.cells 2 (by decide)
    have r0 := hO1.fz 0 (by decide)
    have r1 := hO1.fz 1 (by decide)
    have r2 := hO1.fz 2 (by decide)
    have H4 := hide (three_set wl wa.heap.size (.bool false) (.slice none 0 0) (.slice none 0 0) hO1.cells)
    have HB := hide (unhide HY).2.2.2
    clear hO1
    go_wp2_with fail
    obtain ⟨p0, p1, p2, c4⟩ := unhide H4
    generalize ((wl.setCell ⟨wa.heap.size, 0, none⟩ (.bool false)).setCell ⟨wa.heap.size, 1, none⟩ (.slice none 0 0)).setCell ⟨wa.heap.size, 2, none⟩ (.slice none 0 0) = wf at *
    refine bodyPost_ret (by simp [results, Tryz.results7, go_sem, p0, p1, p2]; try rfl) rfl ?_
    exact ⟨_, rfl, none, 0, 0, none, 0, 0, rfl, sl_nil _, sl_nil _, newAt_nil _, newAt_nil _, (unhide HB).trans (c4.below (unhide HB).size (fun k hk => by omega))⟩

set_option maxHeartbeats 8000000 in
set_option maxRecDepth 100000 in
theorem ratpow_zero (g : Bool) (a b : Option Addr) (n c m d : Nat) (x y : List Nat) (k : Int) (w : World) (hx : Sl w a n c x) (hy : Sl w b m d y) (ox : Ok x) (oy : Ok y) (hT : Tab64 w) (hm : MayR g x y = true) (hk1 : -1024 ≤ k) (hk2 : k < 0) (hz : n = 0) :
    Calls Tryz.prog 7 #[ratV g a n c b m d, .int .i64 k] w fun e w' => ResR w w' false [] [] 3 e := by
  have bx := Box.made w g a n c b m d
  obtain ⟨wa, hwa⟩ : ∃ wa, ratBox w g a n c b m d = wa := ⟨_, rfl⟩
  rw [hwa] at bx
  obtain ⟨wb, hwb⟩ : ∃ wb, wa.alloc (.cells #[.bool false, .slice none 0 0, .slice none 0 0] 25) = wb := ⟨_, rfl⟩
  have hba : Below w.heap.size w wa := by rw [← hwa]; exact (Below.refl _ _).alloc (Nat.le_refl _) _
  have hbb : Below wa.heap.size wa wb := by rw [← hwb]; exact (Below.refl _ _).alloc (Nat.le_refl _) _
  have hO : Out wb wa.heap.size := by rw [← hwb]; exact Out.made wa
  have hoR : Out wb w.heap.size := by
    have h0 := bx.keep hbb
    unfold ratBox at hwa
    refine ⟨fun i hi => ?_, fun i hi => ?_, h0.lt⟩
    · match i, hi with
      | 0, _ => exact ⟨_, h0.d0⟩
      | 1, _ => exact ⟨_, h0.d1⟩
      | 2, _ => exact ⟨_, h0.d2⟩
    · match i, hi with
      | 0, _ => rw [← hwb, ← hwa]; simp
      | 1, _ => rw [← hwb, ← hwa]; simp
      | 2, _ => rw [← hwb, ← hwa]; simp
  have hX := bx.keep hbb
  have hB := hba.trans (hbb.mono hba.size)
  have hlt := bx.lt
  have d0 := hX.d0
  have d1 := hX.d1
  have d2 := hX.d2
  unfold ratBox at hwa
  have KM := ratMay_any g a b n c m d x y wb (hx.below hB) (hy.below hB) ox oy (hT.below hB)
  rw [hm] at KM
  have HKM := hide KM
  have HX := hide (And.intro hX (And.intro hO (And.intro hoR hB)))
  have HS := hide (And.intro hx hy)
  have HLn := hide hx.len
  unfold ratV at HKM ⊢
  clear bx hX hO hoR hB hba hbb KM hx hy hT
  have u1 : ¬ k < -1024 := by omega
  have u2 : ¬ 1024 < k := by omega
  have HZ := hide hz
  clear hz
  go_enter Tryz.func7, Tryz.ntmps7
  go_wp2_with fail
  refine (unhide HKM).mono ?_
  rintro _ wl ⟨rfl, b1⟩
  have HY := hide (And.intro ((unhide HX).1.keep b1) (And.intro ((unhide HX).2.1.keep b1) (And.intro ((unhide HX).2.2.1.keep b1) ((unhide HX).2.2.2.trans (b1.mono (unhide HX).2.2.2.size)))))
  clear b1 HKM HX d0 d1 d2
  have z := (unhide HY).1
  have e0 := z.d0
  have e1 := z.d1
  have e2 := z.d2
  have KZ := isZero_any g a b n c m d wl
  rw [decide_eq_true (unhide HZ)] at KZ
  have HKZ := hide KZ
  unfold ratV at HKZ
  clear z KZ
  go_wp2_with fail
  refine (unhide HKZ).mono ?_
  rintro _ wl2 ⟨rfl, b2⟩
  have HY2 := hide (And.intro ((unhide HY).1.keep b2) (And.intro ((unhide HY).2.1.keep b2) (And.intro ((unhide HY).2.2.1.keep b2) ((unhide HY).2.2.2.trans (b2.mono (unhide HY).2.2.2.size)))))
  clear b2 HKZ HY e0 e1 e2
  have hO1 := (unhide HY2).2.1
  obtain ⟨x0, q0⟩ := hO1.cells 0 (by decide)
  obtain ⟨x1, q1⟩ := hO1.cells 1 (by decide)
  obtain ⟨x2, q2⟩ := hO1.cells 2 (by decide)
  have r0 := hO1.fz 0 (by decide)
  have r1 := hO1.fz 1 (by decide)
  have r2 := hO1.fz 2 (by decide)
  have H4 := hide (three_set wl2 wa.heap.size (.bool false) (.slice none 0 0) (.slice none 0 0) hO1.cells)
  have HB := hide (unhide HY2).2.2.2
  clear hO1
  go_wp2_with fail
  obtain ⟨p0, p1, p2, c4⟩ := unhide H4
  generalize ((wl2.setCell ⟨wa.heap.size, 0, none⟩ (.bool false)).setCell ⟨wa.heap.size, 1, none⟩ (.slice none 0 0)).setCell ⟨wa.heap.size, 2, none⟩ (.slice none 0 0) = wf at *
  refine bodyPost_ret (by simp [results, Tryz.results7, go_sem, p0, p1, p2]; try rfl) rfl ?_
  exact ⟨_, rfl, none, 0, 0, none, 0, 0, rfl, sl_nil _, sl_nil _, newAt_nil _, newAt_nil _, (unhide HB).trans (c4.below (unhide HB).size (fun k hk => by omega))⟩

set_option maxHeartbeats 8000000 in
set_option maxRecDepth 100000 in
theorem ratpow_pos (g : Bool) (a b : Option Addr) (n c m d : Nat) (x y : List Nat) (kk : Nat) (w : World) (hx : Sl w a n c x) (hy : Sl w b m d y) (ox : Ok x) (oy : Ok y) (hT : Tab64 w) (hm : MayR g x y = true) (hkk : kk ≤ 1024) :
    Calls Tryz.prog 7 #[ratV g a n c b m d, .int .i64 (kk : Int)] w fun e w' => ResR w w' (pwF g x y kk).1.1 (pwF g x y kk).1.2.1 (pwF g x y kk).1.2.2 (pwF g x y kk).2 e := by
  have HMM := hide (And.intro (MayR.parts hm).1 (MayR.parts hm).2.1)
  obtain ⟨N, hN⟩ : ∃ N, val x ^ kk = N := ⟨_, rfl⟩
  obtain ⟨M, hM⟩ : ∃ M, val y ^ kk = M := ⟨_, rfl⟩
  obtain ⟨SB, hSB⟩ : ∃ SB, (g && decide (kk % 2 = 1)) = SB := ⟨_, rfl⟩
  unfold pwF
  rw [hN, hM, hSB]
  obtain ⟨RR, hRR⟩ : ∃ r, (if bigN N || bigN M then (((false, [], []), 2) : (Bool × List Nat × List Nat) × Int) else ((SB && decide (N ≠ 0), limbs N, limbs M), 0)) = r := ⟨_, rfl⟩
  rw [hRR]
  have HRR := hide hRR
  clear hRR
  have HNM := hide (And.intro hN hM)
  have HPAR := hide (show (g = false ∧ SB = false) ∨ (g = true ∧ kk % 2 = 1 ∧ SB = true) ∨ (g = true ∧ kk % 2 = 0 ∧ SB = false) by
    cases g
    · exact .inl ⟨rfl, by rw [← hSB]; rfl⟩
    · rcases (show kk % 2 = 1 ∨ kk % 2 = 0 by omega) with h | h
      · exact .inr (.inl ⟨rfl, h, by rw [← hSB]; simp [h]⟩)
      · exact .inr (.inr ⟨rfl, h, by rw [← hSB]; simp [h]⟩))
  clear hN hM hSB
  have bx := Box.made w g a n c b m d
  obtain ⟨wa, hwa⟩ : ∃ wa, ratBox w g a n c b m d = wa := ⟨_, rfl⟩
  rw [hwa] at bx
  obtain ⟨wb, hwb⟩ : ∃ wb, wa.alloc (.cells #[.bool false, .slice none 0 0, .slice none 0 0] 25) = wb := ⟨_, rfl⟩
  have hba : Below w.heap.size w wa := by rw [← hwa]; exact (Below.refl _ _).alloc (Nat.le_refl _) _
  have hbb : Below wa.heap.size wa wb := by rw [← hwb]; exact (Below.refl _ _).alloc (Nat.le_refl _) _
  have hO : Out wb wa.heap.size := by rw [← hwb]; exact Out.made wa
  have hoR : Out wb w.heap.size := by
    have h0 := bx.keep hbb
    unfold ratBox at hwa
    refine ⟨fun i hi => ?_, fun i hi => ?_, h0.lt⟩
    · match i, hi with
      | 0, _ => exact ⟨_, h0.d0⟩
      | 1, _ => exact ⟨_, h0.d1⟩
      | 2, _ => exact ⟨_, h0.d2⟩
    · match i, hi with
      | 0, _ => rw [← hwb, ← hwa]; simp
      | 1, _ => rw [← hwb, ← hwa]; simp
      | 2, _ => rw [← hwb, ← hwa]; simp
  have hX := bx.keep hbb
  have hB := hba.trans (hbb.mono hba.size)
  have hlt := bx.lt
  have d0 := hX.d0
  have d1 := hX.d1
  have d2 := hX.d2
  unfold ratBox at hwa
  have KM := ratMay_any g a b n c m d x y wb (hx.below hB) (hy.below hB) ox oy (hT.below hB)
  rw [hm] at KM
  have HKM := hide KM
  have HX := hide (And.intro hX (And.intro hO (And.intro hoR hB)))
  have HS := hide (And.intro hx hy)
  have HLn := hide hx.len
  unfold ratV at HKM ⊢
  clear bx hX hO hoR hB hba hbb KM hx hy hT
  have u1 : ¬ (kk : Int) < -1024 := by omega
  have u2 : ¬ 1024 < (kk : Int) := by omega
  have u3 : ¬ (kk : Int) < 0 := by omega
  go_enter Tryz.func7, Tryz.ntmps7
  go_wp2_with fail
  refine (unhide HKM).mono ?_
  rintro _ wl ⟨rfl, b1⟩
  have HY := hide (And.intro ((unhide HX).1.keep b1) (And.intro ((unhide HX).2.1.keep b1) (And.intro ((unhide HX).2.2.1.keep b1) ((unhide HX).2.2.2.trans (b1.mono (unhide HX).2.2.2.size)))))
  clear b1 HKM HX d0 d1 d2
  have HSL := hide (And.intro ((unhide HS).1.below (unhide HY).2.2.2) ((unhide HS).2.below (unhide HY).2.2.2))
  have e0 := (unhide HY).1.d0
  have e1 := (unhide HY).1.d1
  have e2 := (unhide HY).1.d2
  have mX := (unhide HMM).1
  have mY := (unhide HMM).2
  have z := (unhide HY).1
  have KN := npow_any a n c x (kk : Int) wl (unhide HSL).1 ox
  rw [powL_fit mX hkk, (unhide HNM).1] at KN
  have HKN := hide KN
  clear KN z
  go_wp2_with fail
  refine (unhide HKN).mono ?_
  rintro _ w1 ⟨aq, mq, cq, rfl, sq, nq, bq⟩
  have KM := npow_any b m d y (kk : Int) w1 ((unhide HSL).2.below bq) oy
  rw [powL_fit mY hkk, (unhide HNM).2] at KM
  have HKM2 := hide KM
  have q0 := (bq.cell (p := ⟨w.heap.size, 0, none⟩) (World.block_lt_of_cell? _ _ e0)).trans e0
  have q2 := (bq.cell (p := ⟨w.heap.size, 2, none⟩) (World.block_lt_of_cell? _ _ e2)).trans e2
  have HQ := hide (And.intro sq (And.intro nq bq))
  clear KM sq nq bq HKN
  go_wp2_with fail
  refine (unhide HKM2).mono ?_
  rintro _ w2 ⟨az, mz, cz, rfl, sz, nz, bz⟩
  have t0 := (bz.cell (p := ⟨w.heap.size, 0, none⟩) (World.block_lt_of_cell? _ _ q0)).trans q0
  have hb2 := (unhide HQ).2.2.trans (bz.mono (unhide HQ).2.2.size)
  have hlo := (unhide HY).2.1.lt
  have HNE := hide (And.intro (fun x hx => by have h1 := (unhide HQ).2.1 x hx; omega : ∀ x, aq = some x → x.block ≠ wa.heap.size) (fun x hx => by have h1 := nz x hx; have h2 := (unhide HQ).2.2.size; omega : ∀ x, az = some x → x.block ≠ wa.heap.size))
  have HP := hide (And.intro ((unhide HQ).1.below bz) (And.intro sz (And.intro (fun x hx => by have h1 := (unhide HQ).2.1 x hx; have h2 := (unhide HY).2.2.2.size; omega : NewAt w.heap.size aq) (And.intro (fun x hx => by have h1 := nz x hx; have h2 := (unhide HQ).2.2.size; have h3 := (unhide HY).2.2.2.size; omega : NewAt w.heap.size az) (And.intro ((unhide HY).2.2.2.trans (hb2.mono (unhide HY).2.2.2.size)) ((unhide HY).2.1.keep hb2))))))
  clear HQ sz nz bz hb2 hlo HKM2 HY HSL e0 e1 e2 q0 q2 mX mY HNM
  cases hbN : bigN N
  · cases hbM : bigN M
    · have eN : fitL N = (limbs N, 0) := fitL_ok (by unfold bigN at hbN; simpa using hbN)
      have eM : fitL M = (limbs M, 0) := fitL_ok (by unfold bigN at hbM; simpa using hbM)
      rw [eN, eM] at HP
      rw [eN, eM]
      dsimp only at HP ⊢
      have K := answer_any SB aq az mq cq mz cz 0 w2
      unfold AnPost at K
      rw [if_pos rfl] at K
      unfold ratV at K
      obtain ⟨SG, hSG⟩ : ∃ SG, (SB && decide (0 < mq)) = SG := ⟨_, rfl⟩
      rw [hSG] at K
      have HSG := hide hSG
      have HK := hide K
      have HBB := hide (And.intro hbN hbM)
      clear K eN eM hbN hbM hSG
      rcases unhide HPAR with ⟨hg, hs⟩ | ⟨hg, hk2, hs⟩ | ⟨hg, hk2, hs⟩
      all_goals
        subst hg
        subst hs
        try (have k1 : (kk : Int) % 2 = 1 := by omega)
        try (have k1 : (kk : Int) % 2 = 0 := by omega)
        go_wp2_with fail
        refine (unhide HK).mono ?_
        rintro _ wy ⟨rfl, hby⟩
        have hO3 := (unhide HP).2.2.2.2.2.keep hby
        obtain ⟨i0, o0⟩ := hO3.cells 0 (by decide)
        obtain ⟨i1, o1⟩ := hO3.cells 1 (by decide)
        obtain ⟨i2, o2⟩ := hO3.cells 2 (by decide)
        have r0 := hO3.fz 0 (by decide)
        have r1 := hO3.fz 1 (by decide)
        have r2 := hO3.fz 2 (by decide)
        have H4 := hide (three_set wy wa.heap.size (.bool SG) (.slice aq mq cq) (.slice az mz cz) hO3.cells)
        have HBy := hide hby
        clear hO3 hby HK
        go_wp2_with fail
        obtain ⟨t0, t1, t2, c4⟩ := unhide H4
        generalize ((wy.setCell ⟨wa.heap.size, 0, none⟩ (.bool SG)).setCell ⟨wa.heap.size, 1, none⟩ (.slice aq mq cq)).setCell ⟨wa.heap.size, 2, none⟩ (.slice az mz cz) = wk at *
        refine bodyPost_ret (by simp [results, Tryz.results7, go_sem, t0, t1, t2]; try rfl) rfl ?_
        have hRr := unhide HRR
        rw [(unhide HBB).1, (unhide HBB).2] at hRr
        rw [← hRr]
        have hBy : Below w.heap.size w wy := (unhide HP).2.2.2.2.1.trans ((unhide HBy).mono (unhide HP).2.2.2.2.1.size)
        have hln := (unhide HP).1.len
        refine ⟨_, rfl, aq, mq, cq, az, mz, cz, ?_, ((unhide HP).1.below (unhide HBy)).chg c4 (fun x hx _ => (unhide HNE).1 x hx), ((unhide HP).2.1.below (unhide HBy)).chg c4 (fun x hx _ => (unhide HNE).2 x hx), (unhide HP).2.2.1, (unhide HP).2.2.2.1, hBy.trans (c4.below hBy.size (fun k hk => by omega))⟩
        unfold ratV
        rw [← unhide HSG, Tok.len_pos hln]
        rfl
    · have eN : fitL N = (limbs N, 0) := fitL_ok (by unfold bigN at hbN; simpa using hbN)
      have eM : fitL M = ([], 2) := fitL_big (by unfold bigN at hbM; simpa using hbM)
      rw [eN, eM] at HP
      rw [eN, eM]
      dsimp only at HP ⊢
      have K := answer_any SB aq az mq cq mz cz 2 w2
      unfold AnPost at K
      rw [if_neg (by decide)] at K
      unfold ratV at K
      have HK := hide K
      have HBB := hide (And.intro hbN hbM)
      clear K eN eM hbN hbM
      rcases unhide HPAR with ⟨hg, hs⟩ | ⟨hg, hk2, hs⟩ | ⟨hg, hk2, hs⟩
      all_goals
        subst hg
        subst hs
        try (have k1 : (kk : Int) % 2 = 1 := by omega)
        try (have k1 : (kk : Int) % 2 = 0 := by omega)
        go_wp2_with fail
        refine (unhide HK).mono ?_
        rintro _ wy ⟨rfl, hby⟩
        have hO3 := (unhide HP).2.2.2.2.2.keep hby
        obtain ⟨i0, o0⟩ := hO3.cells 0 (by decide)
        obtain ⟨i1, o1⟩ := hO3.cells 1 (by decide)
        obtain ⟨i2, o2⟩ := hO3.cells 2 (by decide)
        have r0 := hO3.fz 0 (by decide)
        have r1 := hO3.fz 1 (by decide)
        have r2 := hO3.fz 2 (by decide)
        have H4 := hide (three_set wy wa.heap.size (.bool false) (.slice none 0 0) (.slice none 0 0) hO3.cells)
        have HBy := hide hby
        clear hO3 hby HK
        go_wp2_with fail
        obtain ⟨t0, t1, t2, c4⟩ := unhide H4
        generalize ((wy.setCell ⟨wa.heap.size, 0, none⟩ (.bool false)).setCell ⟨wa.heap.size, 1, none⟩ (.slice none 0 0)).setCell ⟨wa.heap.size, 2, none⟩ (.slice none 0 0) = wk at *
        refine bodyPost_ret (by simp [results, Tryz.results7, go_sem, t0, t1, t2]; try rfl) rfl ?_
        rw [show RR = ((false, [], []), 2) from by rw [← unhide HRR, (unhide HBB).1, (unhide HBB).2]; rfl]
        have hBy : Below w.heap.size w wy := (unhide HP).2.2.2.2.1.trans ((unhide HBy).mono (unhide HP).2.2.2.2.1.size)
        exact ⟨_, rfl, none, 0, 0, none, 0, 0, rfl, sl_nil _, sl_nil _, newAt_nil _, newAt_nil _, hBy.trans (c4.below hBy.size (fun k hk => by omega))⟩
  · cases hbM : bigN M
    · have eN : fitL N = ([], 2) := fitL_big (by unfold bigN at hbN; simpa using hbN)
      have eM : fitL M = (limbs M, 0) := fitL_ok (by unfold bigN at hbM; simpa using hbM)
      rw [eN, eM] at HP
      rw [eN, eM]
      dsimp only at HP ⊢
      have K := answer_any SB aq az mq cq mz cz 2 w2
      unfold AnPost at K
      rw [if_neg (by decide)] at K
      unfold ratV at K
      have HK := hide K
      have HBB := hide (And.intro hbN hbM)
      clear K eN eM hbN hbM
      rcases unhide HPAR with ⟨hg, hs⟩ | ⟨hg, hk2, hs⟩ | ⟨hg, hk2, hs⟩
      all_goals
        subst hg
        subst hs
        try (have k1 : (kk : Int) % 2 = 1 := by omega)
        try (have k1 : (kk : Int) % 2 = 0 := by omega)
        go_wp2_with fail
        refine (unhide HK).mono ?_
        rintro _ wy ⟨rfl, hby⟩
        have hO3 := (unhide HP).2.2.2.2.2.keep hby
        obtain ⟨i0, o0⟩ := hO3.cells 0 (by decide)
        obtain ⟨i1, o1⟩ := hO3.cells 1 (by decide)
        obtain ⟨i2, o2⟩ := hO3.cells 2 (by decide)
        have r0 := hO3.fz 0 (by decide)
        have r1 := hO3.fz 1 (by decide)
        have r2 := hO3.fz 2 (by decide)
        have H4 := hide (three_set wy wa.heap.size (.bool false) (.slice none 0 0) (.slice none 0 0) hO3.cells)
        have HBy := hide hby
        clear hO3 hby HK
        go_wp2_with fail
        obtain ⟨t0, t1, t2, c4⟩ := unhide H4
        generalize ((wy.setCell ⟨wa.heap.size, 0, none⟩ (.bool false)).setCell ⟨wa.heap.size, 1, none⟩ (.slice none 0 0)).setCell ⟨wa.heap.size, 2, none⟩ (.slice none 0 0) = wk at *
        refine bodyPost_ret (by simp [results, Tryz.results7, go_sem, t0, t1, t2]; try rfl) rfl ?_
        rw [show RR = ((false, [], []), 2) from by rw [← unhide HRR, (unhide HBB).1, (unhide HBB).2]; rfl]
        have hBy : Below w.heap.size w wy := (unhide HP).2.2.2.2.1.trans ((unhide HBy).mono (unhide HP).2.2.2.2.1.size)
        exact ⟨_, rfl, none, 0, 0, none, 0, 0, rfl, sl_nil _, sl_nil _, newAt_nil _, newAt_nil _, hBy.trans (c4.below hBy.size (fun k hk => by omega))⟩
    · have eN : fitL N = ([], 2) := fitL_big (by unfold bigN at hbN; simpa using hbN)
      have eM : fitL M = ([], 2) := fitL_big (by unfold bigN at hbM; simpa using hbM)
      rw [eN, eM] at HP
      rw [eN, eM]
      dsimp only at HP ⊢
      have K := answer_any SB aq az mq cq mz cz 2 w2
      unfold AnPost at K
      rw [if_neg (by decide)] at K
      unfold ratV at K
      have HK := hide K
      have HBB := hide (And.intro hbN hbM)
      clear K eN eM hbN hbM
      rcases unhide HPAR with ⟨hg, hs⟩ | ⟨hg, hk2, hs⟩ | ⟨hg, hk2, hs⟩
      all_goals
        subst hg
        subst hs
        try (have k1 : (kk : Int) % 2 = 1 := by omega)
        try (have k1 : (kk : Int) % 2 = 0 := by omega)
        go_wp2_with fail
        refine (unhide HK).mono ?_
        rintro _ wy ⟨rfl, hby⟩
        have hO3 := (unhide HP).2.2.2.2.2.keep hby
        obtain ⟨i0, o0⟩ := hO3.cells 0 (by decide)
        obtain ⟨i1, o1⟩ := hO3.cells 1 (by decide)
        obtain ⟨i2, o2⟩ := hO3.cells 2 (by decide)
        have r0 := hO3.fz 0 (by decide)
        have r1 := hO3.fz 1 (by decide)
        have r2 := hO3.fz 2 (by decide)
        have H4 := hide (three_set wy wa.heap.size (.bool false) (.slice none 0 0) (.slice none 0 0) hO3.cells)
        have HBy := hide hby
        clear hO3 hby HK
        go_wp2_with fail
        obtain ⟨t0, t1, t2, c4⟩ := unhide H4
        generalize ((wy.setCell ⟨wa.heap.size, 0, none⟩ (.bool false)).setCell ⟨wa.heap.size, 1, none⟩ (.slice none 0 0)).setCell ⟨wa.heap.size, 2, none⟩ (.slice none 0 0) = wk at *
        refine bodyPost_ret (by simp [results, Tryz.results7, go_sem, t0, t1, t2]; try rfl) rfl ?_
        rw [show RR = ((false, [], []), 2) from by rw [← unhide HRR, (unhide HBB).1, (unhide HBB).2]; rfl]
        have hBy : Below w.heap.size w wy := (unhide HP).2.2.2.2.1.trans ((unhide HBy).mono (unhide HP).2.2.2.2.1.size)
        exact ⟨_, rfl, none, 0, 0, none, 0, 0, rfl, sl_nil _, sl_nil _, newAt_nil _, newAt_nil _, hBy.trans (c4.below hBy.size (fun k hk => by omega))⟩

end Go.Proofs.YtjjeinfoeipjnaaGreatDoor
