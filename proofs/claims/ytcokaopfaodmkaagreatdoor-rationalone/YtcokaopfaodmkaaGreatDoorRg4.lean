/-
  sloperef2.Pow: contract.
-/
import Derived.Test.YtcokaopfaodmkaaGreatDoorWrq
import Derived.Test.YtcokaopfaodmkaaGreatDoorWrs
import Derived.Test.YtcokaopfaodmkaaGreatDoorWrt
import Derived.Test.YtcokaopfaodmkaaGreatDoorRq1
import Derived.Test.YtcokaopfaodmkaaGreatDoorRg3
import Derived.Test.YtcokaopfaodmkaaGreatDoorPw2
namespace Go.Proofs.YtcokaopfaodmkaaGreatDoor
open Go.RowKit Go.Deep
set_option linter.unusedVariables false

/-- sloperef2.Pow. -/
theorem wPow_any (g : Bool) (a b : Option Addr) (n c m d : Nat) (x y : List Nat) (k : Int) (w : World) (hx : Sl w a n c x) (hy : Sl w b m d y) (ox : Ok x) (oy : Ok y) :
    Calls Tryz.prog 51 #[ratV g a n c b m d, .int .i64 k] w fun e w' => ResF w w' (PowF g x y k) e := by
  have hl := hx.len
  cases hm : MayR g x y
  · have e : PowF g x y k = ((false, [], []), 40) := by unfold PowF; rw [hm]; rfl
    rw [e]
    exact wpow_bad g a b n c m d x y w hx hy ox oy k hm
  · by_cases hk : k < -1024 ∨ 1024 < k
    · have e : PowF g x y k = ((false, [], []), 1) := by unfold PowF; rw [if_pos hm, if_pos hk]
      rw [e]
      by_cases hk1 : k < -1024
      · exact wpow_low g a b n c m d x y w hx hy ox oy k hm hk1
      · exact wpow_high g a b n c m d x y w hx hy ox oy k hm hk1 (by omega)
    · by_cases h0 : k < 0
      · by_cases hz : x = []
        · have e : PowF g x y k = ((false, [], []), 3) := by unfold PowF; rw [if_pos hm, if_neg hk, if_pos h0, if_pos hz]
          rw [e]
          exact wpow_zero g a b n c m d x y w hx hy ox oy k hm (by omega) (by omega) h0 (by rw [← hl, hz]; rfl)
        · have e : PowF g x y k = pwF g y x (-k).toNat := by unfold PowF; rw [if_pos hm, if_neg hk, if_pos h0, if_neg hz]
          rw [e]
          obtain ⟨kk, hkk⟩ : ∃ kk : Nat, k = -(kk : Int) := ⟨(-k).toNat, by omega⟩
          subst hkk
          rw [show (-(-(kk : Int))).toNat = kk by omega]
          exact wpow_neg g a b n c m d x y kk w hx hy ox oy hm (by omega) (by omega) (fun e => hz (List.eq_nil_of_length_eq_zero (by omega)))
      · have e : PowF g x y k = pwF g x y k.toNat := by unfold PowF; rw [if_pos hm, if_neg hk, if_neg h0]
        rw [e]
        obtain ⟨kk, hkk⟩ : ∃ kk : Nat, k = (kk : Int) := ⟨k.toNat, by omega⟩
        subst hkk
        rw [Int.toNat_natCast]
        exact wpow_pos g a b n c m d x y kk w hx hy ox oy hm (by omega)
end Go.Proofs.YtcokaopfaodmkaaGreatDoor

namespace Go.Proofs.YtcokaopfaodmkaaGreatDoor
open Go.RowKit Go.Deep
set_option linter.unusedVariables false

theorem three_two (w1 : World) (R : Nat) (v0 v1 v2 : Value) (h0 : w1.cell? ⟨R, 0, none⟩ = some v0) (h : ∀ i, i < 3 → ∃ v, w1.cell? ⟨R, i, none⟩ = some v) :
    ((w1.setCell ⟨R, 1, none⟩ v1).setCell ⟨R, 2, none⟩ v2).cell? ⟨R, 0, none⟩ = some v0 ∧ ((w1.setCell ⟨R, 1, none⟩ v1).setCell ⟨R, 2, none⟩ v2).cell? ⟨R, 1, none⟩ = some v1 ∧ ((w1.setCell ⟨R, 1, none⟩ v1).setCell ⟨R, 2, none⟩ v2).cell? ⟨R, 2, none⟩ = some v2 := by
  obtain ⟨x1, h1⟩ := h 1 (by decide)
  obtain ⟨x2, h2⟩ := h 2 (by decide)
  have s1 : (w1.setCell ⟨R, 1, none⟩ v1).cell? ⟨R, 1, none⟩ = some v1 := World.cell?_setCell_same _ _ _ h1
  have s2 : (w1.setCell ⟨R, 1, none⟩ v1).cell? ⟨R, 2, none⟩ = some x2 := by rw [World.cell?_setCell_other _ _ _ _ (by simp)]; exact h2
  refine ⟨?_, ?_, World.cell?_setCell_same _ _ _ s2⟩
  · rw [World.cell?_setCell_other _ _ _ _ (by simp), World.cell?_setCell_other _ _ _ _ (by simp)]; exact h0
  · rw [World.cell?_setCell_other _ _ _ _ (by simp)]; exact s1

set_option maxHeartbeats 8000000 in
set_option maxRecDepth 100000 in
theorem ratpow_neg (g : Bool) (a b : Option Addr) (n c m d : Nat) (x y : List Nat) (kk : Nat) (w : World) (hx : Sl w a n c x) (hy : Sl w b m d y) (ox : Ok x) (oy : Ok y) (hT : Tab64 w) (hm : MayR g x y = true) (hkk : kk ≤ 1024) (hk0 : 0 < kk) (hz : n ≠ 0) :
    Calls Tryz.prog 50 #[ratV g a n c b m d, .int .i64 (-(kk : Int))] w fun e w' => ResR w w' (pwF g y x kk).1.1 (pwF g y x kk).1.2.1 (pwF g y x kk).1.2.2 (pwF g y x kk).2 e := by
  have HMM := hide (And.intro (MayR.parts hm).2.1 (MayR.parts hm).1)
  obtain ⟨N, hN⟩ : ∃ N, val y ^ kk = N := ⟨_, rfl⟩
  obtain ⟨M, hM⟩ : ∃ M, val x ^ kk = M := ⟨_, rfl⟩
  obtain ⟨SB, hSB⟩ : ∃ SB, (g && decide (kk % 2 = 1)) = SB := ⟨_, rfl⟩
  unfold pwF
  rw [hN, hM, hSB]
  obtain ⟨RR, hRR⟩ : ∃ r, (if bigN N || bigN M then (((false, [], []), 2) : (Bool × List Nat × List Nat) × Int) else ((SB && decide (N ≠ 0), limbs N, limbs M), 0)) = r := ⟨_, rfl⟩
  rw [hRR]
  have HRR := hide hRR
  clear hRR
  have HNM := hide (And.intro hN hM)
  have HPAR := hide (show (g = false ∧ SB = false) ∨ (g = true ∧ kk % 2 = 1 ∧ SB = true) ∨ (g = true ∧ kk % 2 = 0 ∧ SB = false) by
    cases g
    · exact .inl ⟨rfl, by rw [← hSB]; rfl⟩
    · rcases (show kk % 2 = 1 ∨ kk % 2 = 0 by omega) with h | h
      · exact .inr (.inl ⟨rfl, h, by rw [← hSB]; simp [h]⟩)
      · exact .inr (.inr ⟨rfl, h, by rw [← hSB]; simp [h]⟩))
  clear hN hM hSB
  have bx := Box.made w g a n c b m d
  obtain ⟨wa, hwa⟩ : ∃ wa, ratBox w g a n c b m d = wa := ⟨_, rfl⟩
  rw [hwa] at bx
  obtain ⟨wb, hwb⟩ : ∃ wb, wa.alloc (.cells #[.bool false, .slice none 0 0, .slice none 0 0] 25) = wb := ⟨_, rfl⟩
  have hba : Below w.heap.size w wa := by rw [← hwa]; exact (Below.refl _ _).alloc (Nat.le_refl _) _
  have hbb : Below wa.heap.size wa wb := by rw [← hwb]; exact (Below.refl _ _).alloc (Nat.le_refl _) _
  have hO : Out wb wa.heap.size := by rw [← hwb]; exact Out.made wa
  have hoR : Out wb w.heap.size := by
    have h0 := bx.keep hbb
    unfold ratBox at hwa
    refine ⟨fun i hi => ?_, fun i hi => ?_, h0.lt⟩
    · match i, hi with
      | 0, _ => exact ⟨_, h0.d0⟩
      | 1, _ => exact ⟨_, h0.d1⟩
      | 2, _ => exact ⟨_, h0.d2⟩
    · match i, hi with
      | 0, _ => rw [← hwb, ← hwa]; simp
      | 1, _ => rw [← hwb, ← hwa]; simp
      | 2, _ => rw [← hwb, ← hwa]; simp
  have hX := bx.keep hbb
  have hB := hba.trans (hbb.mono hba.size)
  have hlt := bx.lt
  have d0 := hX.d0
  have d1 := hX.d1
  have d2 := hX.d2
  unfold ratBox at hwa
  have KM := ratMay_any g a b n c m d x y wb (hx.below hB) (hy.below hB) ox oy (hT.below hB)
  rw [hm] at KM
  have HKM := hide KM
  have HX := hide (And.intro hX (And.intro hO (And.intro hoR hB)))
  have HS := hide (And.intro hx hy)
  have HLn := hide hx.len
  unfold ratV at HKM ⊢
  clear bx hX hO hoR hB hba hbb KM hx hy hT
  have u1 : ¬ -(kk : Int) < -1024 := by omega
  have u2 : ¬ 1024 < -(kk : Int) := by omega
  have u3 : -(kk : Int) < 0 := by omega
  have u4 : IntKind.i64.wrap (kk : Int) = (kk : Int) := (by rw [IntKind.wrap_i64]; omega)
  go_enter Tryz.func50, Tryz.ntmps50
  go_wp2_with fail
  refine (unhide HKM).mono ?_
  rintro _ wl ⟨rfl, b1⟩
  have HY := hide (And.intro ((unhide HX).1.keep b1) (And.intro ((unhide HX).2.1.keep b1) (And.intro ((unhide HX).2.2.1.keep b1) ((unhide HX).2.2.2.trans (b1.mono (unhide HX).2.2.2.size)))))
  clear b1 HKM HX d0 d1 d2
  have z := (unhide HY).1
  have e0 := z.d0
  have e1 := z.d1
  have e2 := z.d2
  have KZ := isZero_any g a b n c m d wl
  simp only [hz, decide_false] at KZ
  have HKZ := hide KZ
  unfold ratV at HKZ
  clear z KZ
  go_wp2_with fail
  refine (unhide HKZ).mono ?_
  rintro _ wl2 ⟨rfl, b2⟩
  have HY2 := hide (And.intro ((unhide HY).1.keep b2) (And.intro ((unhide HY).2.1.keep b2) (And.intro ((unhide HY).2.2.1.keep b2) ((unhide HY).2.2.2.trans (b2.mono (unhide HY).2.2.2.size)))))
  clear b2 HKZ HY e0 e1 e2
  have z := (unhide HY2).1
  have zo := (unhide HY2).2.2.1
  have z0 := z.d0
  have z1 := z.d1
  have z2 := z.d2
  have y1 := zo.fz 1 (by decide)
  have y2 := zo.fz 2 (by decide)
  have hcs : Chg (fun j => j = w.heap.size) wl2 ((wl2.setCell ⟨w.heap.size, 1, none⟩ (.slice b m d)).setCell ⟨w.heap.size, 2, none⟩ (.slice a n c)) := (Chg.of_set (S := fun j => j = w.heap.size) _ _ _ _ rfl).trans (Chg.of_set (S := fun j => j = w.heap.size) _ _ _ _ rfl)
  have h3 := three_two wl2 w.heap.size (.bool g) (.slice b m d) (.slice a n c) z0 zo.cells
  have hOs : Out ((wl2.setCell ⟨w.heap.size, 1, none⟩ (.slice b m d)).setCell ⟨w.heap.size, 2, none⟩ (.slice a n c)) wa.heap.size := by
    refine ⟨fun i hi => ?_, fun i hi => ?_, Nat.lt_of_lt_of_le (unhide HY2).2.1.lt hcs.size⟩
    · obtain ⟨v, hv⟩ := (unhide HY2).2.1.cells i hi
      exact ⟨v, hcs.cell (show wa.heap.size ≠ w.heap.size by omega) hv⟩
    · have := (unhide HY2).2.1.fz i hi
      simpa using this
  have hBs := (unhide HY2).2.2.2.trans (hcs.below (unhide HY2).2.2.2.size (fun k hk h => by omega))
  have HSL := hide (And.intro ((unhide HS).2.below hBs) ((unhide HS).1.below hBs))
  have HY3 := hide (And.intro True.intro (And.intro hOs (And.intro True.intro hBs)))
  have e0 := h3.1
  have e1 := h3.2.1
  have e2 := h3.2.2
  clear z zo hcs h3 hOs hBs HY2
  have mX := (unhide HMM).1
  have mY := (unhide HMM).2
  have z := (unhide HY3).1
  have KN := npow_any b m d y (kk : Int) ((wl2.setCell ⟨w.heap.size, 1, none⟩ (.slice b m d)).setCell ⟨w.heap.size, 2, none⟩ (.slice a n c)) (unhide HSL).1 oy
  rw [powL_fit mX hkk, (unhide HNM).1] at KN
  have HKN := hide KN
  clear KN z
  go_wp2_with fail
  clear z0 z1 z2 y1 y2
  generalize (wl2.setCell ⟨w.heap.size, 1, none⟩ (.slice b m d)).setCell ⟨w.heap.size, 2, none⟩ (.slice a n c) = ws at *
  refine (unhide HKN).mono ?_
  rintro _ w1 ⟨aq, mq, cq, rfl, sq, nq, bq⟩
  have KM := npow_any a n c x (kk : Int) w1 ((unhide HSL).2.below bq) ox
  rw [powL_fit mY hkk, (unhide HNM).2] at KM
  have HKM2 := hide KM
  have q0 := (bq.cell (p := ⟨w.heap.size, 0, none⟩) (World.block_lt_of_cell? _ _ e0)).trans e0
  have q2 := (bq.cell (p := ⟨w.heap.size, 2, none⟩) (World.block_lt_of_cell? _ _ e2)).trans e2
  have HQ := hide (And.intro sq (And.intro nq bq))
  clear KM sq nq bq HKN
  go_wp2_with fail
  refine (unhide HKM2).mono ?_
  rintro _ w2 ⟨az, mz, cz, rfl, sz, nz, bz⟩
  have t0 := (bz.cell (p := ⟨w.heap.size, 0, none⟩) (World.block_lt_of_cell? _ _ q0)).trans q0
  have hb2 := (unhide HQ).2.2.trans (bz.mono (unhide HQ).2.2.size)
  have hlo := (unhide HY3).2.1.lt
  have HNE := hide (And.intro (fun x hx => by have h1 := (unhide HQ).2.1 x hx; omega : ∀ x, aq = some x → x.block ≠ wa.heap.size) (fun x hx => by have h1 := nz x hx; have h2 := (unhide HQ).2.2.size; omega : ∀ x, az = some x → x.block ≠ wa.heap.size))
  have HP := hide (And.intro ((unhide HQ).1.below bz) (And.intro sz (And.intro (fun x hx => by have h1 := (unhide HQ).2.1 x hx; have h2 := (unhide HY3).2.2.2.size; omega : NewAt w.heap.size aq) (And.intro (fun x hx => by have h1 := nz x hx; have h2 := (unhide HQ).2.2.size; have h3 := (unhide HY3).2.2.2.size; omega : NewAt w.heap.size az) (And.intro ((unhide HY3).2.2.2.trans (hb2.mono (unhide HY3).2.2.2.size)) ((unhide HY3).2.1.keep hb2))))))
  clear HQ sz nz bz hb2 hlo HKM2 HY3 HSL e0 e1 e2 q0 q2 mX mY HNM
  cases hbN : bigN N
  · cases hbM : bigN M
    · have eN : fitL N = (limbs N, 0) := fitL_ok (by unfold bigN at hbN; simpa using hbN)
      have eM : fitL M = (limbs M, 0) := fitL_ok (by unfold bigN at hbM; simpa using hbM)
      rw [eN, eM] at HP
      rw [eN, eM]
      dsimp only at HP ⊢
      have K := answer_any SB aq az mq cq mz cz 0 w2
      unfold AnPost at K
      rw [if_pos rfl] at K
      unfold ratV at K
      obtain ⟨SG, hSG⟩ : ∃ SG, (SB && decide (0 < mq)) = SG := ⟨_, rfl⟩
      rw [hSG] at K
      have HSG := hide hSG
      have HK := hide K
      have HBB := hide (And.intro hbN hbM)
      clear K eN eM hbN hbM hSG
      rcases unhide HPAR with ⟨hg, hs⟩ | ⟨hg, hk2, hs⟩ | ⟨hg, hk2, hs⟩
      all_goals
        subst hg
        subst hs
        try (have k1 : (kk : Int) % 2 = 1 := by omega)
        try (have k1 : (kk : Int) % 2 = 0 := by omega)
        go_wp2_with fail
        refine (unhide HK).mono ?_
        rintro _ wy ⟨rfl, hby⟩
        have hO3 := (unhide HP).2.2.2.2.2.keep hby
        obtain ⟨i0, o0⟩ := hO3.cells 0 (by decide)
        obtain ⟨i1, o1⟩ := hO3.cells 1 (by decide)
        obtain ⟨i2, o2⟩ := hO3.cells 2 (by decide)
        have r0 := hO3.fz 0 (by decide)
        have r1 := hO3.fz 1 (by decide)
        have r2 := hO3.fz 2 (by decide)
        have H4 := hide (three_set wy wa.heap.size (.bool SG) (.slice aq mq cq) (.slice az mz cz) hO3.cells)
        have HBy := hide hby
        clear hO3 hby HK
        go_wp2_with fail
        obtain ⟨t0, t1, t2, c4⟩ := unhide H4
        generalize ((wy.setCell ⟨wa.heap.size, 0, none⟩ (.bool SG)).setCell ⟨wa.heap.size, 1, none⟩ (.slice aq mq cq)).setCell ⟨wa.heap.size, 2, none⟩ (.slice az mz cz) = wk at *
        refine bodyPost_ret (by simp [results, Tryz.results50, go_sem, t0, t1, t2]; try rfl) rfl ?_
        have hRr := unhide HRR
        rw [(unhide HBB).1, (unhide HBB).2] at hRr
        rw [← hRr]
        have hBy : Below w.heap.size w wy := (unhide HP).2.2.2.2.1.trans ((unhide HBy).mono (unhide HP).2.2.2.2.1.size)
        have hln := (unhide HP).1.len
        refine ⟨_, rfl, aq, mq, cq, az, mz, cz, ?_, ((unhide HP).1.below (unhide HBy)).chg c4 (fun x hx _ => (unhide HNE).1 x hx), ((unhide HP).2.1.below (unhide HBy)).chg c4 (fun x hx _ => (unhide HNE).2 x hx), (unhide HP).2.2.1, (unhide HP).2.2.2.1, hBy.trans (c4.below hBy.size (fun k hk => by omega))⟩
        unfold ratV
        rw [← unhide HSG, Tok.len_pos hln]
        rfl
    · have eN : fitL N = (limbs N, 0) := fitL_ok (by unfold bigN at hbN; simpa using hbN)
      have eM : fitL M = ([], 2) := fitL_big (by unfold bigN at hbM; simpa using hbM)
      rw [eN, eM] at HP
      rw [eN, eM]
      dsimp only at HP ⊢
      have K := answer_any SB aq az mq cq mz cz 2 w2
      unfold AnPost at K
      rw [if_neg (by decide)] at K
      unfold ratV at K
      have HK := hide K
      have HBB := hide (And.intro hbN hbM)
      clear K eN eM hbN hbM
      rcases unhide HPAR with ⟨hg, hs⟩ | ⟨hg, hk2, hs⟩ | ⟨hg, hk2, hs⟩
      all_goals
        subst hg
        subst hs
        try (have k1 : (kk : Int) % 2 = 1 := by omega)
        try (have k1 : (kk : Int) % 2 = 0 := by omega)
        go_wp2_with fail
        refine (unhide HK).mono ?_
        rintro _ wy ⟨rfl, hby⟩
        have hO3 := (unhide HP).2.2.2.2.2.keep hby
        obtain ⟨i0, o0⟩ := hO3.cells 0 (by decide)
        obtain ⟨i1, o1⟩ := hO3.cells 1 (by decide)
        obtain ⟨i2, o2⟩ := hO3.cells 2 (by decide)
        have r0 := hO3.fz 0 (by decide)
        have r1 := hO3.fz 1 (by decide)
        have r2 := hO3.fz 2 (by decide)
        have H4 := hide (three_set wy wa.heap.size (.bool false) (.slice none 0 0) (.slice none 0 0) hO3.cells)
        have HBy := hide hby
        clear hO3 hby HK
        go_wp2_with fail
        obtain ⟨t0, t1, t2, c4⟩ := unhide H4
        generalize ((wy.setCell ⟨wa.heap.size, 0, none⟩ (.bool false)).setCell ⟨wa.heap.size, 1, none⟩ (.slice none 0 0)).setCell ⟨wa.heap.size, 2, none⟩ (.slice none 0 0) = wk at *
        refine bodyPost_ret (by simp [results, Tryz.results50, go_sem, t0, t1, t2]; try rfl) rfl ?_
        rw [show RR = ((false, [], []), 2) from by rw [← unhide HRR, (unhide HBB).1, (unhide HBB).2]; rfl]
        have hBy : Below w.heap.size w wy := (unhide HP).2.2.2.2.1.trans ((unhide HBy).mono (unhide HP).2.2.2.2.1.size)
        exact ⟨_, rfl, none, 0, 0, none, 0, 0, rfl, sl_nil _, sl_nil _, newAt_nil _, newAt_nil _, hBy.trans (c4.below hBy.size (fun k hk => by omega))⟩
  · cases hbM : bigN M
    · have eN : fitL N = ([], 2) := fitL_big (by unfold bigN at hbN; simpa using hbN)
      have eM : fitL M = (limbs M, 0) := fitL_ok (by unfold bigN at hbM; simpa using hbM)
      rw [eN, eM] at HP
      rw [eN, eM]
      dsimp only at HP ⊢
      have K := answer_any SB aq az mq cq mz cz 2 w2
      unfold AnPost at K
      rw [if_neg (by decide)] at K
      unfold ratV at K
      have HK := hide K
      have HBB := hide (And.intro hbN hbM)
      clear K eN eM hbN hbM
      rcases unhide HPAR with ⟨hg, hs⟩ | ⟨hg, hk2, hs⟩ | ⟨hg, hk2, hs⟩
      all_goals
        subst hg
        subst hs
        try (have k1 : (kk : Int) % 2 = 1 := by omega)
        try (have k1 : (kk : Int) % 2 = 0 := by omega)
        go_wp2_with fail
        refine (unhide HK).mono ?_
        rintro _ wy ⟨rfl, hby⟩
        have hO3 := (unhide HP).2.2.2.2.2.keep hby
        obtain ⟨i0, o0⟩ := hO3.cells 0 (by decide)
        obtain ⟨i1, o1⟩ := hO3.cells 1 (by decide)
        obtain ⟨i2, o2⟩ := hO3.cells 2 (by decide)
        have r0 := hO3.fz 0 (by decide)
        have r1 := hO3.fz 1 (by decide)
        have r2 := hO3.fz 2 (by decide)
        have H4 := hide (three_set wy wa.heap.size (.bool false) (.slice none 0 0) (.slice none 0 0) hO3.cells)
        have HBy := hide hby
        clear hO3 hby HK
        go_wp2_with fail
        obtain ⟨t0, t1, t2, c4⟩ := unhide H4
        generalize ((wy.setCell ⟨wa.heap.size, 0, none⟩ (.bool false)).setCell ⟨wa.heap.size, 1, none⟩ (.slice none 0 0)).setCell ⟨wa.heap.size, 2, none⟩ (.slice none 0 0) = wk at *
        refine bodyPost_ret (by simp [results, Tryz.results50, go_sem, t0, t1, t2]; try rfl) rfl ?_
        rw [show RR = ((false, [], []), 2) from by rw [← unhide HRR, (unhide HBB).1, (unhide HBB).2]; rfl]
        have hBy : Below w.heap.size w wy := (unhide HP).2.2.2.2.1.trans ((unhide HBy).mono (unhide HP).2.2.2.2.1.size)
        exact ⟨_, rfl, none, 0, 0, none, 0, 0, rfl, sl_nil _, sl_nil _, newAt_nil _, newAt_nil _, hBy.trans (c4.below hBy.size (fun k hk => by omega))⟩
    · have eN : fitL N = ([], 2) := fitL_big (by unfold bigN at hbN; simpa using hbN)
      have eM : fitL M = ([], 2) := fitL_big (by unfold bigN at hbM; simpa using hbM)
      rw [eN, eM] at HP
      rw [eN, eM]
      dsimp only at HP ⊢
      have K := answer_any SB aq az mq cq mz cz 2 w2
      unfold AnPost at K
      rw [if_neg (by decide)] at K
      unfold ratV at K
      have HK := hide K
      have HBB := hide (And.intro hbN hbM)
      clear K eN eM hbN hbM
      rcases unhide HPAR with ⟨hg, hs⟩ | ⟨hg, hk2, hs⟩ | ⟨hg, hk2, hs⟩
      all_goals
        subst hg
        subst hs
        try (have k1 : (kk : Int) % 2 = 1 := by omega)
        try (have k1 : (kk : Int) % 2 = 0 := by omega)
        go_wp2_with fail
        refine (unhide HK).mono ?_
        rintro _ wy ⟨rfl, hby⟩
        have hO3 := (unhide HP).2.2.2.2.2.keep hby
        obtain ⟨i0, o0⟩ := hO3.cells 0 (by decide)
        obtain ⟨i1, o1⟩ := hO3.cells 1 (by decide)
        obtain ⟨i2, o2⟩ := hO3.cells 2 (by decide)
        have r0 := hO3.fz 0 (by decide)
        have r1 := hO3.fz 1 (by decide)
        have r2 := hO3.fz 2 (by decide)
        have H4 := hide (three_set wy wa.heap.size (.bool false) (.slice none 0 0) (.slice none 0 0) hO3.cells)
        have HBy := hide hby
        clear hO3 hby HK
        go_wp2_with fail
        obtain ⟨t0, t1, t2, c4⟩ := unhide H4
        generalize ((wy.setCell ⟨wa.heap.size, 0, none⟩ (.bool false)).setCell ⟨wa.heap.size, 1, none⟩ (.slice none 0 0)).setCell ⟨wa.heap.size, 2, none⟩ (.slice none 0 0) = wk at *
        refine bodyPost_ret (by simp [results, Tryz.results50, go_sem, t0, t1, t2]; try rfl) rfl ?_
        rw [show RR = ((false, [], []), 2) from by rw [← unhide HRR, (unhide HBB).1, (unhide HBB).2]; rfl]
        have hBy : Below w.heap.size w wy := (unhide HP).2.2.2.2.1.trans ((unhide HBy).mono (unhide HP).2.2.2.2.1.size)
        exact ⟨_, rfl, none, 0, 0, none, 0, 0, rfl, sl_nil _, sl_nil _, newAt_nil _, newAt_nil _, hBy.trans (c4.below hBy.size (fun k hk => by omega))⟩

/-- rational.Pow. -/
theorem ratPow_any (g : Bool) (a b : Option Addr) (n c m d : Nat) (x y : List Nat) (k : Int) (w : World) (hx : Sl w a n c x) (hy : Sl w b m d y) (ox : Ok x) (oy : Ok y) (hT : Tab64 w) :
    Calls Tryz.prog 50 #[ratV g a n c b m d, .int .i64 k] w fun e w' => ResR w w' (PowF g x y k).1.1 (PowF g x y k).1.2.1 (PowF g x y k).1.2.2 (PowF g x y k).2 e := by
  have hl := hx.len
  cases hm : MayR g x y
  · have e : PowF g x y k = ((false, [], []), 40) := by unfold PowF; rw [hm]; rfl
    rw [e]
    exact ratpow_bad g a b n c m d x y k w hx hy ox oy hT hm
  · by_cases hk : k < -1024 ∨ 1024 < k
    · have e : PowF g x y k = ((false, [], []), 1) := by unfold PowF; rw [if_pos hm, if_pos hk]
      rw [e]
      exact ratpow_arg g a b n c m d x y k w hx hy ox oy hT hm hk
    · by_cases h0 : k < 0
      · by_cases hz : x = []
        · have e : PowF g x y k = ((false, [], []), 3) := by unfold PowF; rw [if_pos hm, if_neg hk, if_pos h0, if_pos hz]
          rw [e]
          exact ratpow_zero g a b n c m d x y k w hx hy ox oy hT hm (by omega) h0 (by rw [← hl, hz]; rfl)
        · have e : PowF g x y k = pwF g y x (-k).toNat := by unfold PowF; rw [if_pos hm, if_neg hk, if_pos h0, if_neg hz]
          rw [e]
          obtain ⟨kk, hkk⟩ : ∃ kk : Nat, k = -(kk : Int) := ⟨(-k).toNat, by omega⟩
          subst hkk
          rw [show (-(-(kk : Int))).toNat = kk by omega]
          exact ratpow_neg g a b n c m d x y kk w hx hy ox oy hT hm (by omega) (by omega) (fun e => hz (List.eq_nil_of_length_eq_zero (by omega)))
      · have e : PowF g x y k = pwF g x y k.toNat := by unfold PowF; rw [if_pos hm, if_neg hk, if_neg h0]
        rw [e]
        obtain ⟨kk, hkk⟩ : ∃ kk : Nat, k = (kk : Int) := ⟨k.toNat, by omega⟩
        subst hkk
        rw [Int.toNat_natCast]
        exact ratpow_pos g a b n c m d x y kk w hx hy ox oy hT hm (by omega)
end Go.Proofs.YtcokaopfaodmkaaGreatDoor

namespace Go.Proofs.YtcokaopfaodmkaaGreatDoor
open Go.RowKit Go.Deep
set_option linter.unusedVariables false

set_option maxRecDepth 100000 in
set_option maxHeartbeats 64000000 in
theorem one_any (g_a : Bool) (x_a y_a : List Nat) (a_x : Option Addr) (n_x c_x : Nat) (b_x : Option Addr) (m_x d_x : Nat) (a_a : Option Addr) (n_a c_a : Nat) (b_a : Option Addr) (m_a d_a : Nat) (i_n : Int) (w : World) (ox_a : Ok x_a) (oy_a : Ok y_a) (hx_x : Sl w a_x n_x c_x x_a) (hy_x : Sl w b_x m_x d_x y_a) (hx_a : Sl w a_a n_a c_a x_a) (hy_a : Sl w b_a m_a d_a y_a) (hl_n : -9223372036854775808 ≤ i_n) (hh_n : i_n ≤ 9223372036854775807) (hT : Tab64 w) (nb1 : a_a = none → c_a = 0) (nb2 : b_a = none → d_a = 0) :
    Calls Tryz.prog 18 #[ratV g_a a_x n_x c_x b_x m_x d_x, ratV g_a a_a n_a c_a b_a m_a d_a, .int .i64 i_n] w fun e w' => e = .returned (.bool true) ∧ Below w.heap.size w w' := by
  have A00 : Fcts w w [fTab] := ⟨Below.refl _ _, fun f hf => by simp at hf; subst hf; exact hT⟩
  have A01 := A00.add (fN a_x n_x c_x x_a b_x m_x d_x y_a) ⟨hx_x, hy_x⟩
  have A02 := A01.add (fN a_a n_a c_a x_a b_a m_a d_a y_a) ⟨hx_a, hy_a⟩
  have O_a := hide (And.intro ox_a oy_a)
  have O_x := O_a
  have A0 := hide A02
  have NB := hide (And.intro nb1 nb2)
  clear nb1 nb2
  obtain ⟨⟨⟨g_s, x_s, y_s⟩, e_s⟩, hs⟩ : ∃ r, NegF g_a x_a y_a = r := ⟨_, rfl⟩
  have Hs := hide hs
  clear hs
  obtain ⟨⟨⟨g_t, x_t, y_t⟩, e_t⟩, ht⟩ : ∃ r, AbsF g_a x_a y_a = r := ⟨_, rfl⟩
  have Ht := hide ht
  clear ht
  obtain ⟨⟨⟨g_u, x_u, y_u⟩, e_u⟩, hu⟩ : ∃ r, InvF g_a x_a y_a = r := ⟨_, rfl⟩
  have Hu := hide hu
  clear hu
  obtain ⟨⟨⟨g_z, x_z, y_z⟩, e_z⟩, hz⟩ : ∃ r, PowF g_a x_a y_a i_n = r := ⟨_, rfl⟩
  have Hz := hide hz
  clear hz
  clear A00 hT hx_x hy_x A01 hx_a hy_a A02 ox_a oy_a
  unfold ratV
  obtain ⟨w1, hw1⟩ : ∃ x, w.alloc (.cells #[.bool g_a, .slice a_x n_x c_x, .slice b_x m_x d_x] 25) = x := ⟨_, rfl⟩
  have Aw1 := hide ((unhide A0).box (.bool g_a) (.slice a_x n_x c_x) (.slice b_x m_x d_x) 25)
  rw [hw1] at Aw1
  clear A0
  obtain ⟨w2, hw2⟩ : ∃ x, w1.alloc (.cells #[.bool g_a, .slice a_a n_a c_a, .slice b_a m_a d_a] 25) = x := ⟨_, rfl⟩
  have Aw2 := hide ((unhide Aw1).box (.bool g_a) (.slice a_a n_a c_a) (.slice b_a m_a d_a) 25)
  rw [hw2] at Aw2
  clear Aw1
  go_enter Tryz.func18, Tryz.ntmps18
  have AB := Aw2
  obtain ⟨wB, hwB⟩ : ∃ x, w2 = x := ⟨_, rfl⟩
  clear hwB
  have HBW := hide (Below.refl w2.heap.size w2)
  have AC0a := hide ((unhide AB).step (unhide HBW))
  have t3 := (unhide AC0a).r (w.heap.size) (.bool g_a) (.slice a_x n_x c_x) (.slice b_x m_x d_x) (.tail _ (.head _))
  have t3a := t3.c0
  have t3b := t3.c1
  have t3c := t3.c2
  clear t3
  go_wp2_with fail
  clear t3a t3b t3c
  have K := ratNeg_F g_a (a_x) (b_x) n_x c_x m_x d_x (x_a) (y_a)  w2 ((unhide AC0a).n (a_x) n_x c_x (x_a) (b_x) m_x d_x (y_a) (.tail _ (.tail _ (.tail _ (.head _))))).num ((unhide AC0a).n (a_x) n_x c_x (x_a) (b_x) m_x d_x (y_a) (.tail _ (.tail _ (.tail _ (.head _))))).den (unhide O_x).1 (unhide O_x).2 ((unhide AC0a).tab (.tail _ (.tail _ (.tail _ (.tail _ (.head _))))))
  rw [unhide Hs] at K
  try unfold ResF at K
  try dsimp only at K
  unfold ratV at K
  refine K.mono ?_
  clear K
  rintro _ W01 ⟨v, rfl, ar0, nr0, cr0, br0, mr0, dr0, rfl, sx, sy, nx, ny, hb⟩
  try dsimp only at sx sy
  unfold ratV
  have hB1 := (unhide HBW).trans (hb.mono (unhide HBW).size)
  obtain ⟨W02, hW02⟩ : ∃ x, W01.alloc (.cells #[.bool g_s, .slice ar0 nr0 cr0, .slice br0 mr0 dr0] 25) = x := ⟨_, rfl⟩
  have hal : Below W01.heap.size W01 W02 := by rw [← hW02]; exact (Below.refl _ _).alloc (Nat.le_refl _) _
  have TR0 := hide (show Tri W02 W01.heap.size (.bool g_s) (.slice ar0 nr0 cr0) (.slice br0 mr0 dr0) by rw [← hW02]; exact Tri.made _ _ _ _ _)
  have RBr := hide (show w2.heap.size ≤ W01.heap.size from hB1.size)
  have HB02 := hide (hB1.trans (hal.mono hB1.size))
  have LR0 := hide (And.intro (sx.below hal) (And.intro (sy.below hal) (And.intro (show NewAt w2.heap.size ar0 from nx) (show NewAt w2.heap.size br0 from ny))))
  clear sx sy nx ny hb hal hB1
  have AC0b := hide ((unhide AB).step (unhide HB02))
  have t4 := (unhide AC0b).r (w1.heap.size) (.bool g_a) (.slice a_a n_a c_a) (.slice b_a m_a d_a) (.head _)
  have t4a := t4.c0
  have t4b := t4.c1
  have t4c := t4.c2
  clear t4
  go_wp2_with fail
  clear t4a t4b t4c
  have K := wNeg_any g_a (a_a) (b_a) n_a c_a m_a d_a (x_a) (y_a)  W02 ((unhide AC0b).n (a_a) n_a c_a (x_a) (b_a) m_a d_a (y_a) (.tail _ (.tail _ (.head _)))).num ((unhide AC0b).n (a_a) n_a c_a (x_a) (b_a) m_a d_a (y_a) (.tail _ (.tail _ (.head _)))).den (unhide O_a).1 (unhide O_a).2 (unhide NB).1 (unhide NB).2
  rw [unhide Hs] at K
  try unfold ResF at K
  try dsimp only at K
  unfold ratV at K
  refine K.mono ?_
  clear K
  rintro _ W03 ⟨v, rfl, as0, ns0, cs0, bs0, ms0, ds0, rfl, sx, sy, nx, ny, hb⟩
  try dsimp only at sx sy
  unfold ratV
  have hB3 := (unhide HB02).trans (hb.mono (unhide HB02).size)
  have tr := (unhide TR0).keep hb
  obtain ⟨W04, hW04⟩ : ∃ x, W03.alloc (.cells #[.bool g_s, .slice as0 ns0 cs0, .slice bs0 ms0 ds0] 25) = x := ⟨_, rfl⟩
  have hal : Below W03.heap.size W03 W04 := by rw [← hW04]; exact (Below.refl _ _).alloc (Nat.le_refl _) _
  have TS0 := hide (show Tri W04 W03.heap.size (.bool g_s) (.slice as0 ns0 cs0) (.slice bs0 ms0 ds0) by rw [← hW04]; exact Tri.made _ _ _ _ _)
  have RBs := hide (show w2.heap.size ≤ W03.heap.size from hB3.size)
  have RNE := hide (show W01.heap.size ≠ W03.heap.size from Nat.ne_of_lt tr.lt)
  have TQ0 := hide (tr.keep hal)
  have HB04 := hide (hB3.trans (hal.mono hB3.size))
  have LS0 := hide (And.intro (((unhide LR0).1.below hb).below hal) (And.intro (((unhide LR0).2.1.below hb).below hal) (And.intro (sx.below hal) (sy.below hal))))
  clear sx sy nx ny hb hal hB3 tr TR0 LR0
  have tq := unhide TQ0
  have ts := unhide TS0
  have tq0 := tq.c0
  have ts0 := ts.c0
  have tq1 := tq.c1
  have ts1 := ts.c1
  have tq2 := tq.c2
  have ts2 := ts.c2
  clear tq ts
  go_wp2_with fail
  clear tq0 tq1 tq2 ts0 ts1 ts2
  have K := like_any g_s ar0 br0 as0 bs0 nr0 cr0 mr0 dr0 ns0 cs0 ms0 ds0 x_s y_s e_s W04 (unhide LS0).1 (unhide LS0).2.1 (unhide LS0).2.2.1 (unhide LS0).2.2.2
  unfold ratV at K
  refine K.mono ?_
  clear K
  rintro _ W05 ⟨rfl, hb⟩
  have HB05 := hide ((unhide HB04).trans (hb.mono (unhide HB04).size))
  have OR := hide ((unhide TQ0).out.keep hb)
  have OS := hide ((unhide TS0).out.keep hb)
  clear hb TQ0 TS0 LS0 HB02 HB04  AC0a AC0b
  have AC1a := hide ((unhide AB).step (unhide HB05))
  have t5 := (unhide AC1a).r (w.heap.size) (.bool g_a) (.slice a_x n_x c_x) (.slice b_x m_x d_x) (.tail _ (.head _))
  have t5a := t5.c0
  have t5b := t5.c1
  have t5c := t5.c2
  clear t5
  go_wp2_with fail
  clear t5a t5b t5c
  have K := ratAbs_F g_a (a_x) (b_x) n_x c_x m_x d_x (x_a) (y_a)  W05 ((unhide AC1a).n (a_x) n_x c_x (x_a) (b_x) m_x d_x (y_a) (.tail _ (.tail _ (.tail _ (.head _))))).num ((unhide AC1a).n (a_x) n_x c_x (x_a) (b_x) m_x d_x (y_a) (.tail _ (.tail _ (.tail _ (.head _))))).den (unhide O_x).1 (unhide O_x).2 ((unhide AC1a).tab (.tail _ (.tail _ (.tail _ (.tail _ (.head _))))))
  rw [unhide Ht] at K
  try unfold ResF at K
  try dsimp only at K
  unfold ratV at K
  refine K.mono ?_
  clear K
  rintro _ W11 ⟨v, rfl, ar1, nr1, cr1, br1, mr1, dr1, rfl, sx, sy, nx, ny, hb⟩
  try dsimp only at sx sy
  unfold ratV
  have hB1 := (unhide HB05).trans (hb.mono (unhide HB05).size)
  have tx := (unhide OR).keep hb
  have ty := (unhide OS).keep hb
  have c4 := three_set W11 (W01.heap.size) (.bool g_t) (.slice ar1 nr1 cr1) (.slice br1 mr1 dr1) tx.cells
  have TR1 := hide (tri_set tx (.bool g_t) (.slice ar1 nr1 cr1) (.slice br1 mr1 dr1))
  have OS2 := hide (ty.chgW c4.2.2.2 (fun h => unhide RNE h.symm))
  have hlR := (unhide OR).lt
  have HlS := hide (unhide OS).lt
  have HB12 := hide (hB1.trans (c4.2.2.2.below hB1.size (fun k hk h => by have := unhide RBr; omega)))
  have LR1 := hide (show Sl (((W11.setCell ⟨W01.heap.size, 0, none⟩ (.bool g_t)).setCell ⟨W01.heap.size, 1, none⟩ (.slice ar1 nr1 cr1)).setCell ⟨W01.heap.size, 2, none⟩ (.slice br1 mr1 dr1)) ar1 nr1 cr1 x_t ∧ Sl (((W11.setCell ⟨W01.heap.size, 0, none⟩ (.bool g_t)).setCell ⟨W01.heap.size, 1, none⟩ (.slice ar1 nr1 cr1)).setCell ⟨W01.heap.size, 2, none⟩ (.slice br1 mr1 dr1)) br1 mr1 dr1 y_t ∧ NewAt W05.heap.size ar1 ∧ NewAt W05.heap.size br1 from ⟨sx.chg c4.2.2.2 (fun p hp _ h => by have := nx p hp; omega), sy.chg c4.2.2.2 (fun p hp _ h => by have := ny p hp; omega), nx, ny⟩)
  obtain ⟨z0, q0⟩ := tx.cells 0 (by decide)
  obtain ⟨z1, q1⟩ := tx.cells 1 (by decide)
  obtain ⟨z2, q2⟩ := tx.cells 2 (by decide)
  have r0 := tx.fz 0 (by decide)
  have r1 := tx.fz 1 (by decide)
  have r2 := tx.fz 2 (by decide)
  clear sx sy nx ny hb hB1 c4 tx ty hlR OR OS
  have AC1b := hide ((unhide AB).step (unhide HB12))
  have t6 := (unhide AC1b).r (w1.heap.size) (.bool g_a) (.slice a_a n_a c_a) (.slice b_a m_a d_a) (.head _)
  have t6a := t6.c0
  have t6b := t6.c1
  have t6c := t6.c2
  clear t6
  go_wp2_with fail
  clear t6a t6b t6c q0 q1 q2 r0 r1 r2
  generalize ((W11.setCell ⟨W01.heap.size, 0, none⟩ (.bool g_t)).setCell ⟨W01.heap.size, 1, none⟩ (.slice ar1 nr1 cr1)).setCell ⟨W01.heap.size, 2, none⟩ (.slice br1 mr1 dr1) = W12 at *
  have K := wAbs_any g_a (a_a) (b_a) n_a c_a m_a d_a (x_a) (y_a)  W12 ((unhide AC1b).n (a_a) n_a c_a (x_a) (b_a) m_a d_a (y_a) (.tail _ (.tail _ (.head _)))).num ((unhide AC1b).n (a_a) n_a c_a (x_a) (b_a) m_a d_a (y_a) (.tail _ (.tail _ (.head _)))).den (unhide O_a).1 (unhide O_a).2 (unhide NB).1 (unhide NB).2
  rw [unhide Ht] at K
  try unfold ResF at K
  try dsimp only at K
  unfold ratV at K
  refine K.mono ?_
  clear K
  rintro _ W13 ⟨v, rfl, as1, ns1, cs1, bs1, ms1, ds1, rfl, sx, sy, nx, ny, hb⟩
  try dsimp only at sx sy
  unfold ratV
  have hB3 := (unhide HB12).trans (hb.mono (unhide HB12).size)
  have tr := (unhide TR1).keep hb
  have tx := (unhide OS2).keep hb
  have c4 := three_set W13 (W03.heap.size) (.bool g_t) (.slice as1 ns1 cs1) (.slice bs1 ms1 ds1) tx.cells
  have TS1 := hide (tri_set tx (.bool g_t) (.slice as1 ns1 cs1) (.slice bs1 ms1 ds1))
  have TQ1 := hide (tr.chgW c4.2.2.2 (fun h => unhide RNE h))
  have HB14 := hide (hB3.trans (c4.2.2.2.below hB3.size (fun k hk h => by have := unhide RBs; omega)))
  have hl2 := (unhide OS2).lt
  have hlS := unhide HlS
  have LS1 := hide (show Sl (((W13.setCell ⟨W03.heap.size, 0, none⟩ (.bool g_t)).setCell ⟨W03.heap.size, 1, none⟩ (.slice as1 ns1 cs1)).setCell ⟨W03.heap.size, 2, none⟩ (.slice bs1 ms1 ds1)) ar1 nr1 cr1 x_t ∧ Sl (((W13.setCell ⟨W03.heap.size, 0, none⟩ (.bool g_t)).setCell ⟨W03.heap.size, 1, none⟩ (.slice as1 ns1 cs1)).setCell ⟨W03.heap.size, 2, none⟩ (.slice bs1 ms1 ds1)) br1 mr1 dr1 y_t ∧ Sl (((W13.setCell ⟨W03.heap.size, 0, none⟩ (.bool g_t)).setCell ⟨W03.heap.size, 1, none⟩ (.slice as1 ns1 cs1)).setCell ⟨W03.heap.size, 2, none⟩ (.slice bs1 ms1 ds1)) as1 ns1 cs1 x_t ∧ Sl (((W13.setCell ⟨W03.heap.size, 0, none⟩ (.bool g_t)).setCell ⟨W03.heap.size, 1, none⟩ (.slice as1 ns1 cs1)).setCell ⟨W03.heap.size, 2, none⟩ (.slice bs1 ms1 ds1)) bs1 ms1 ds1 y_t from ⟨((unhide LR1).1.below hb).chg c4.2.2.2 (fun p hp _ h => by have := (unhide LR1).2.2.1 p hp; omega), ((unhide LR1).2.1.below hb).chg c4.2.2.2 (fun p hp _ h => by have := (unhide LR1).2.2.2 p hp; omega), sx.chg c4.2.2.2 (fun p hp _ h => by have := nx p hp; omega), sy.chg c4.2.2.2 (fun p hp _ h => by have := ny p hp; omega)⟩)
  obtain ⟨z0, q0⟩ := tx.cells 0 (by decide)
  obtain ⟨z1, q1⟩ := tx.cells 1 (by decide)
  obtain ⟨z2, q2⟩ := tx.cells 2 (by decide)
  have r0 := tx.fz 0 (by decide)
  have r1 := tx.fz 1 (by decide)
  have r2 := tx.fz 2 (by decide)
  clear sx sy nx ny hb hB3 c4 tx hl2 hlS tr TR1 LR1 OS2 HlS
  have tq := unhide TQ1
  have ts := unhide TS1
  have tq0 := tq.c0
  have ts0 := ts.c0
  have tq1 := tq.c1
  have ts1 := ts.c1
  have tq2 := tq.c2
  have ts2 := ts.c2
  clear tq ts
  go_wp2_with fail
  clear tq0 tq1 tq2 ts0 ts1 ts2 q0 q1 q2 r0 r1 r2
  generalize ((W13.setCell ⟨W03.heap.size, 0, none⟩ (.bool g_t)).setCell ⟨W03.heap.size, 1, none⟩ (.slice as1 ns1 cs1)).setCell ⟨W03.heap.size, 2, none⟩ (.slice bs1 ms1 ds1) = W14 at *
  have K := like_any g_t ar1 br1 as1 bs1 nr1 cr1 mr1 dr1 ns1 cs1 ms1 ds1 x_t y_t e_t W14 (unhide LS1).1 (unhide LS1).2.1 (unhide LS1).2.2.1 (unhide LS1).2.2.2
  unfold ratV at K
  refine K.mono ?_
  clear K
  rintro _ W15 ⟨rfl, hb⟩
  have HB15 := hide ((unhide HB14).trans (hb.mono (unhide HB14).size))
  have OR := hide ((unhide TQ1).out.keep hb)
  have OS := hide ((unhide TS1).out.keep hb)
  clear hb TQ1 TS1 LS1 HB12 HB14 HB05 AC1a AC1b
  have AC2a := hide ((unhide AB).step (unhide HB15))
  have t7 := (unhide AC2a).r (w.heap.size) (.bool g_a) (.slice a_x n_x c_x) (.slice b_x m_x d_x) (.tail _ (.head _))
  have t7a := t7.c0
  have t7b := t7.c1
  have t7c := t7.c2
  clear t7
  go_wp2_with fail
  clear t7a t7b t7c
  have K := ratInv_F g_a (a_x) (b_x) n_x c_x m_x d_x (x_a) (y_a)  W15 ((unhide AC2a).n (a_x) n_x c_x (x_a) (b_x) m_x d_x (y_a) (.tail _ (.tail _ (.tail _ (.head _))))).num ((unhide AC2a).n (a_x) n_x c_x (x_a) (b_x) m_x d_x (y_a) (.tail _ (.tail _ (.tail _ (.head _))))).den (unhide O_x).1 (unhide O_x).2 ((unhide AC2a).tab (.tail _ (.tail _ (.tail _ (.tail _ (.head _))))))
  rw [unhide Hu] at K
  try unfold ResF at K
  try dsimp only at K
  unfold ratV at K
  refine K.mono ?_
  clear K
  rintro _ W21 ⟨v, rfl, ar2, nr2, cr2, br2, mr2, dr2, rfl, sx, sy, nx, ny, hb⟩
  try dsimp only at sx sy
  unfold ratV
  have hB1 := (unhide HB15).trans (hb.mono (unhide HB15).size)
  have tx := (unhide OR).keep hb
  have ty := (unhide OS).keep hb
  have c4 := three_set W21 (W01.heap.size) (.bool g_u) (.slice ar2 nr2 cr2) (.slice br2 mr2 dr2) tx.cells
  have TR2 := hide (tri_set tx (.bool g_u) (.slice ar2 nr2 cr2) (.slice br2 mr2 dr2))
  have OS2 := hide (ty.chgW c4.2.2.2 (fun h => unhide RNE h.symm))
  have hlR := (unhide OR).lt
  have HlS := hide (unhide OS).lt
  have HB22 := hide (hB1.trans (c4.2.2.2.below hB1.size (fun k hk h => by have := unhide RBr; omega)))
  have LR2 := hide (show Sl (((W21.setCell ⟨W01.heap.size, 0, none⟩ (.bool g_u)).setCell ⟨W01.heap.size, 1, none⟩ (.slice ar2 nr2 cr2)).setCell ⟨W01.heap.size, 2, none⟩ (.slice br2 mr2 dr2)) ar2 nr2 cr2 x_u ∧ Sl (((W21.setCell ⟨W01.heap.size, 0, none⟩ (.bool g_u)).setCell ⟨W01.heap.size, 1, none⟩ (.slice ar2 nr2 cr2)).setCell ⟨W01.heap.size, 2, none⟩ (.slice br2 mr2 dr2)) br2 mr2 dr2 y_u ∧ NewAt W15.heap.size ar2 ∧ NewAt W15.heap.size br2 from ⟨sx.chg c4.2.2.2 (fun p hp _ h => by have := nx p hp; omega), sy.chg c4.2.2.2 (fun p hp _ h => by have := ny p hp; omega), nx, ny⟩)
  obtain ⟨z0, q0⟩ := tx.cells 0 (by decide)
  obtain ⟨z1, q1⟩ := tx.cells 1 (by decide)
  obtain ⟨z2, q2⟩ := tx.cells 2 (by decide)
  have r0 := tx.fz 0 (by decide)
  have r1 := tx.fz 1 (by decide)
  have r2 := tx.fz 2 (by decide)
  clear sx sy nx ny hb hB1 c4 tx ty hlR OR OS
  have AC2b := hide ((unhide AB).step (unhide HB22))
  have t8 := (unhide AC2b).r (w1.heap.size) (.bool g_a) (.slice a_a n_a c_a) (.slice b_a m_a d_a) (.head _)
  have t8a := t8.c0
  have t8b := t8.c1
  have t8c := t8.c2
  clear t8
  go_wp2_with fail
  clear t8a t8b t8c q0 q1 q2 r0 r1 r2
  generalize ((W21.setCell ⟨W01.heap.size, 0, none⟩ (.bool g_u)).setCell ⟨W01.heap.size, 1, none⟩ (.slice ar2 nr2 cr2)).setCell ⟨W01.heap.size, 2, none⟩ (.slice br2 mr2 dr2) = W22 at *
  have K := wInv_any g_a (a_a) (b_a) n_a c_a m_a d_a (x_a) (y_a)  W22 ((unhide AC2b).n (a_a) n_a c_a (x_a) (b_a) m_a d_a (y_a) (.tail _ (.tail _ (.head _)))).num ((unhide AC2b).n (a_a) n_a c_a (x_a) (b_a) m_a d_a (y_a) (.tail _ (.tail _ (.head _)))).den (unhide O_a).1 (unhide O_a).2
  rw [unhide Hu] at K
  try unfold ResF at K
  try dsimp only at K
  unfold ratV at K
  refine K.mono ?_
  clear K
  rintro _ W23 ⟨v, rfl, as2, ns2, cs2, bs2, ms2, ds2, rfl, sx, sy, nx, ny, hb⟩
  try dsimp only at sx sy
  unfold ratV
  have hB3 := (unhide HB22).trans (hb.mono (unhide HB22).size)
  have tr := (unhide TR2).keep hb
  have tx := (unhide OS2).keep hb
  have c4 := three_set W23 (W03.heap.size) (.bool g_u) (.slice as2 ns2 cs2) (.slice bs2 ms2 ds2) tx.cells
  have TS2 := hide (tri_set tx (.bool g_u) (.slice as2 ns2 cs2) (.slice bs2 ms2 ds2))
  have TQ2 := hide (tr.chgW c4.2.2.2 (fun h => unhide RNE h))
  have HB24 := hide (hB3.trans (c4.2.2.2.below hB3.size (fun k hk h => by have := unhide RBs; omega)))
  have hl2 := (unhide OS2).lt
  have hlS := unhide HlS
  have LS2 := hide (show Sl (((W23.setCell ⟨W03.heap.size, 0, none⟩ (.bool g_u)).setCell ⟨W03.heap.size, 1, none⟩ (.slice as2 ns2 cs2)).setCell ⟨W03.heap.size, 2, none⟩ (.slice bs2 ms2 ds2)) ar2 nr2 cr2 x_u ∧ Sl (((W23.setCell ⟨W03.heap.size, 0, none⟩ (.bool g_u)).setCell ⟨W03.heap.size, 1, none⟩ (.slice as2 ns2 cs2)).setCell ⟨W03.heap.size, 2, none⟩ (.slice bs2 ms2 ds2)) br2 mr2 dr2 y_u ∧ Sl (((W23.setCell ⟨W03.heap.size, 0, none⟩ (.bool g_u)).setCell ⟨W03.heap.size, 1, none⟩ (.slice as2 ns2 cs2)).setCell ⟨W03.heap.size, 2, none⟩ (.slice bs2 ms2 ds2)) as2 ns2 cs2 x_u ∧ Sl (((W23.setCell ⟨W03.heap.size, 0, none⟩ (.bool g_u)).setCell ⟨W03.heap.size, 1, none⟩ (.slice as2 ns2 cs2)).setCell ⟨W03.heap.size, 2, none⟩ (.slice bs2 ms2 ds2)) bs2 ms2 ds2 y_u from ⟨((unhide LR2).1.below hb).chg c4.2.2.2 (fun p hp _ h => by have := (unhide LR2).2.2.1 p hp; omega), ((unhide LR2).2.1.below hb).chg c4.2.2.2 (fun p hp _ h => by have := (unhide LR2).2.2.2 p hp; omega), sx.chg c4.2.2.2 (fun p hp _ h => by have := nx p hp; omega), sy.chg c4.2.2.2 (fun p hp _ h => by have := ny p hp; omega)⟩)
  obtain ⟨z0, q0⟩ := tx.cells 0 (by decide)
  obtain ⟨z1, q1⟩ := tx.cells 1 (by decide)
  obtain ⟨z2, q2⟩ := tx.cells 2 (by decide)
  have r0 := tx.fz 0 (by decide)
  have r1 := tx.fz 1 (by decide)
  have r2 := tx.fz 2 (by decide)
  clear sx sy nx ny hb hB3 c4 tx hl2 hlS tr TR2 LR2 OS2 HlS
  have tq := unhide TQ2
  have ts := unhide TS2
  have tq0 := tq.c0
  have ts0 := ts.c0
  have tq1 := tq.c1
  have ts1 := ts.c1
  have tq2 := tq.c2
  have ts2 := ts.c2
  clear tq ts
  go_wp2_with fail
  clear tq0 tq1 tq2 ts0 ts1 ts2 q0 q1 q2 r0 r1 r2
  generalize ((W23.setCell ⟨W03.heap.size, 0, none⟩ (.bool g_u)).setCell ⟨W03.heap.size, 1, none⟩ (.slice as2 ns2 cs2)).setCell ⟨W03.heap.size, 2, none⟩ (.slice bs2 ms2 ds2) = W24 at *
  have K := like_any g_u ar2 br2 as2 bs2 nr2 cr2 mr2 dr2 ns2 cs2 ms2 ds2 x_u y_u e_u W24 (unhide LS2).1 (unhide LS2).2.1 (unhide LS2).2.2.1 (unhide LS2).2.2.2
  unfold ratV at K
  refine K.mono ?_
  clear K
  rintro _ W25 ⟨rfl, hb⟩
  have HB25 := hide ((unhide HB24).trans (hb.mono (unhide HB24).size))
  have OR := hide ((unhide TQ2).out.keep hb)
  have OS := hide ((unhide TS2).out.keep hb)
  clear hb TQ2 TS2 LS2 HB22 HB24 HB15 AC2a AC2b
  have AC3a := hide ((unhide AB).step (unhide HB25))
  have t9 := (unhide AC3a).r (w.heap.size) (.bool g_a) (.slice a_x n_x c_x) (.slice b_x m_x d_x) (.tail _ (.head _))
  have t9a := t9.c0
  have t9b := t9.c1
  have t9c := t9.c2
  clear t9
  go_wp2_with fail
  clear t9a t9b t9c
  have K := ratPow_any g_a (a_x) (b_x) n_x c_x m_x d_x (x_a) (y_a) i_n W25 ((unhide AC3a).n (a_x) n_x c_x (x_a) (b_x) m_x d_x (y_a) (.tail _ (.tail _ (.tail _ (.head _))))).num ((unhide AC3a).n (a_x) n_x c_x (x_a) (b_x) m_x d_x (y_a) (.tail _ (.tail _ (.tail _ (.head _))))).den (unhide O_x).1 (unhide O_x).2 ((unhide AC3a).tab (.tail _ (.tail _ (.tail _ (.tail _ (.head _))))))
  rw [unhide Hz] at K
  try unfold ResF at K
  try dsimp only at K
  unfold ratV at K
  refine K.mono ?_
  clear K
  rintro _ W31 ⟨v, rfl, ar3, nr3, cr3, br3, mr3, dr3, rfl, sx, sy, nx, ny, hb⟩
  try dsimp only at sx sy
  unfold ratV
  have hB1 := (unhide HB25).trans (hb.mono (unhide HB25).size)
  have tx := (unhide OR).keep hb
  have ty := (unhide OS).keep hb
  have c4 := three_set W31 (W01.heap.size) (.bool g_z) (.slice ar3 nr3 cr3) (.slice br3 mr3 dr3) tx.cells
  have TR3 := hide (tri_set tx (.bool g_z) (.slice ar3 nr3 cr3) (.slice br3 mr3 dr3))
  have OS2 := hide (ty.chgW c4.2.2.2 (fun h => unhide RNE h.symm))
  have hlR := (unhide OR).lt
  have HlS := hide (unhide OS).lt
  have HB32 := hide (hB1.trans (c4.2.2.2.below hB1.size (fun k hk h => by have := unhide RBr; omega)))
  have LR3 := hide (show Sl (((W31.setCell ⟨W01.heap.size, 0, none⟩ (.bool g_z)).setCell ⟨W01.heap.size, 1, none⟩ (.slice ar3 nr3 cr3)).setCell ⟨W01.heap.size, 2, none⟩ (.slice br3 mr3 dr3)) ar3 nr3 cr3 x_z ∧ Sl (((W31.setCell ⟨W01.heap.size, 0, none⟩ (.bool g_z)).setCell ⟨W01.heap.size, 1, none⟩ (.slice ar3 nr3 cr3)).setCell ⟨W01.heap.size, 2, none⟩ (.slice br3 mr3 dr3)) br3 mr3 dr3 y_z ∧ NewAt W25.heap.size ar3 ∧ NewAt W25.heap.size br3 from ⟨sx.chg c4.2.2.2 (fun p hp _ h => by have := nx p hp; omega), sy.chg c4.2.2.2 (fun p hp _ h => by have := ny p hp; omega), nx, ny⟩)
  obtain ⟨z0, q0⟩ := tx.cells 0 (by decide)
  obtain ⟨z1, q1⟩ := tx.cells 1 (by decide)
  obtain ⟨z2, q2⟩ := tx.cells 2 (by decide)
  have r0 := tx.fz 0 (by decide)
  have r1 := tx.fz 1 (by decide)
  have r2 := tx.fz 2 (by decide)
  clear sx sy nx ny hb hB1 c4 tx ty hlR OR OS
  have AC3b := hide ((unhide AB).step (unhide HB32))
  have t10 := (unhide AC3b).r (w1.heap.size) (.bool g_a) (.slice a_a n_a c_a) (.slice b_a m_a d_a) (.head _)
  have t10a := t10.c0
  have t10b := t10.c1
  have t10c := t10.c2
  clear t10
  go_wp2_with fail
  clear t10a t10b t10c q0 q1 q2 r0 r1 r2
  generalize ((W31.setCell ⟨W01.heap.size, 0, none⟩ (.bool g_z)).setCell ⟨W01.heap.size, 1, none⟩ (.slice ar3 nr3 cr3)).setCell ⟨W01.heap.size, 2, none⟩ (.slice br3 mr3 dr3) = W32 at *
  have K := wPow_any g_a (a_a) (b_a) n_a c_a m_a d_a (x_a) (y_a) i_n W32 ((unhide AC3b).n (a_a) n_a c_a (x_a) (b_a) m_a d_a (y_a) (.tail _ (.tail _ (.head _)))).num ((unhide AC3b).n (a_a) n_a c_a (x_a) (b_a) m_a d_a (y_a) (.tail _ (.tail _ (.head _)))).den (unhide O_a).1 (unhide O_a).2
  rw [unhide Hz] at K
  try unfold ResF at K
  try dsimp only at K
  unfold ratV at K
  refine K.mono ?_
  clear K
  rintro _ W33 ⟨v, rfl, as3, ns3, cs3, bs3, ms3, ds3, rfl, sx, sy, nx, ny, hb⟩
  try dsimp only at sx sy
  unfold ratV
  have hB3 := (unhide HB32).trans (hb.mono (unhide HB32).size)
  have tr := (unhide TR3).keep hb
  have tx := (unhide OS2).keep hb
  have c4 := three_set W33 (W03.heap.size) (.bool g_z) (.slice as3 ns3 cs3) (.slice bs3 ms3 ds3) tx.cells
  have TS3 := hide (tri_set tx (.bool g_z) (.slice as3 ns3 cs3) (.slice bs3 ms3 ds3))
  have TQ3 := hide (tr.chgW c4.2.2.2 (fun h => unhide RNE h))
  have HB34 := hide (hB3.trans (c4.2.2.2.below hB3.size (fun k hk h => by have := unhide RBs; omega)))
  have hl2 := (unhide OS2).lt
  have hlS := unhide HlS
  have LS3 := hide (show Sl (((W33.setCell ⟨W03.heap.size, 0, none⟩ (.bool g_z)).setCell ⟨W03.heap.size, 1, none⟩ (.slice as3 ns3 cs3)).setCell ⟨W03.heap.size, 2, none⟩ (.slice bs3 ms3 ds3)) ar3 nr3 cr3 x_z ∧ Sl (((W33.setCell ⟨W03.heap.size, 0, none⟩ (.bool g_z)).setCell ⟨W03.heap.size, 1, none⟩ (.slice as3 ns3 cs3)).setCell ⟨W03.heap.size, 2, none⟩ (.slice bs3 ms3 ds3)) br3 mr3 dr3 y_z ∧ Sl (((W33.setCell ⟨W03.heap.size, 0, none⟩ (.bool g_z)).setCell ⟨W03.heap.size, 1, none⟩ (.slice as3 ns3 cs3)).setCell ⟨W03.heap.size, 2, none⟩ (.slice bs3 ms3 ds3)) as3 ns3 cs3 x_z ∧ Sl (((W33.setCell ⟨W03.heap.size, 0, none⟩ (.bool g_z)).setCell ⟨W03.heap.size, 1, none⟩ (.slice as3 ns3 cs3)).setCell ⟨W03.heap.size, 2, none⟩ (.slice bs3 ms3 ds3)) bs3 ms3 ds3 y_z from ⟨((unhide LR3).1.below hb).chg c4.2.2.2 (fun p hp _ h => by have := (unhide LR3).2.2.1 p hp; omega), ((unhide LR3).2.1.below hb).chg c4.2.2.2 (fun p hp _ h => by have := (unhide LR3).2.2.2 p hp; omega), sx.chg c4.2.2.2 (fun p hp _ h => by have := nx p hp; omega), sy.chg c4.2.2.2 (fun p hp _ h => by have := ny p hp; omega)⟩)
  obtain ⟨z0, q0⟩ := tx.cells 0 (by decide)
  obtain ⟨z1, q1⟩ := tx.cells 1 (by decide)
  obtain ⟨z2, q2⟩ := tx.cells 2 (by decide)
  have r0 := tx.fz 0 (by decide)
  have r1 := tx.fz 1 (by decide)
  have r2 := tx.fz 2 (by decide)
  clear sx sy nx ny hb hB3 c4 tx hl2 hlS tr TR3 LR3 OS2 HlS
  have tq := unhide TQ3
  have ts := unhide TS3
  have tq0 := tq.c0
  have ts0 := ts.c0
  have tq1 := tq.c1
  have ts1 := ts.c1
  have tq2 := tq.c2
  have ts2 := ts.c2
  clear tq ts
  go_wp2_with fail
  clear tq0 tq1 tq2 ts0 ts1 ts2 q0 q1 q2 r0 r1 r2
  generalize ((W33.setCell ⟨W03.heap.size, 0, none⟩ (.bool g_z)).setCell ⟨W03.heap.size, 1, none⟩ (.slice as3 ns3 cs3)).setCell ⟨W03.heap.size, 2, none⟩ (.slice bs3 ms3 ds3) = W34 at *
  have K := like_any g_z ar3 br3 as3 bs3 nr3 cr3 mr3 dr3 ns3 cs3 ms3 ds3 x_z y_z e_z W34 (unhide LS3).1 (unhide LS3).2.1 (unhide LS3).2.2.1 (unhide LS3).2.2.2
  unfold ratV at K
  refine K.mono ?_
  clear K
  rintro _ W35 ⟨rfl, hb⟩
  have HB35 := hide ((unhide HB34).trans (hb.mono (unhide HB34).size))
  have OR := hide ((unhide TQ3).out.keep hb)
  have OS := hide ((unhide TS3).out.keep hb)
  clear hb TQ3 TS3 LS3 HB32 HB34 HB25 AC3a AC3b
  go_wp2_with fail
  go_ret
  exact ⟨rfl, (unhide AB).bel.trans ((unhide HB35).mono (unhide AB).bel.size)⟩
end Go.Proofs.YtcokaopfaodmkaaGreatDoor
