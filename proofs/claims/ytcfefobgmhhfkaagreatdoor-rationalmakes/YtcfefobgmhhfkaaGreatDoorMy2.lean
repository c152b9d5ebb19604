/-
  sloperef2.Make: contract; what Make answers.
-/
import Derived.Test.YtcfefobgmhhfkaaGreatDoorWre
import Derived.Test.YtcfefobgmhhfkaaGreatDoorRa6
import Derived.Test.YtcfefobgmhhfkaaGreatDoorWr9
import Derived.Test.YtcfefobgmhhfkaaGreatDoorRa1
import Derived.Test.YtcfefobgmhhfkaaGreatDoorWr7
import Derived.Test.YtcfefobgmhhfkaaGreatDoorWrd
import Derived.Test.YtcfefobgmhhfkaaGreatDoorRd1
import Derived.Test.YtcfefobgmhhfkaaGreatDoorAdd
namespace Go.Proofs.YtcfefobgmhhfkaaGreatDoor
open Go.RowKit Go.Deep
set_option linter.unusedVariables false

/-- What Make answers. -/
def MakeF (g : Bool) (x y : List Nat) : (Bool × List Nat × List Nat) × Int := (((makeL g x y).neg, (makeL g x y).num, (makeL g x y).den), (makeL g x y).er)
theorem ratMake_F (neg : Bool) (a1 a2 : Option Addr) (n1 c1 n2 c2 : Nat) (xs ys : List Nat) (w : World) (h1 : Sl w a1 n1 c1 xs) (h2 : Sl w a2 n2 c2 ys) (ox : Ok xs) (oy : Ok ys) (hT : Tab64 w) :
    Calls Tryz.prog 19 #[.bool neg, .slice a1 n1 c1, .slice a2 n2 c2] w fun e w' => ResF w w' (MakeF neg xs ys) e := ratMake_any neg a1 a2 n1 c1 n2 c2 xs ys w h1 h2 ox oy hT
theorem makeF_low {g : Bool} {x y : List Nat} (m1 : MayL x = true) (m2 : MayL y = true) (ox : Ok x) (oy : Ok y) (hy : y ≠ []) : lowF g (val x) (val y) = MakeF g x y := by
  have l1 := limbs_val ox (MayL.norm m1)
  have l2 := limbs_val oy (MayL.norm m2)
  have yp : val y ≠ 0 := fun e => by rw [e] at l2; exact hy (l2.symm.trans limbs_zero)
  have hM : makeL g x y = ⟨g && decide (x ≠ []), limbs (val x / Nat.gcd (val x) (val y)), limbs (val y / Nat.gcd (val x) (val y)), 0⟩ := by
    unfold makeL
    rw [if_pos (by rw [m1, m2]; rfl), if_neg hy]
  unfold MakeF
  rw [hM]
  unfold lowF
  by_cases h0 : val x = 0
  · have hx : x = [] := by rw [h0] at l1; exact l1.symm.trans limbs_zero
    rw [if_pos h0, h0, Nat.gcd_zero_left, Nat.zero_div, Nat.div_self (Nat.pos_of_ne_zero yp), limbs_1, limbs_zero]
    simp [hx]
  · have hx : x ≠ [] := fun e => h0 (by rw [e]; rfl)
    have b1 : bigN (val x / Nat.gcd (val x) (val y)) = false := by
      have := limbs_mono (Nat.div_le_self (val x) (Nat.gcd (val x) (val y)))
      rw [l1] at this
      have := MayL.len m1
      unfold bigN; simp; omega
    have b2 : bigN (val y / Nat.gcd (val x) (val y)) = false := by
      have := limbs_mono (Nat.div_le_self (val y) (Nat.gcd (val x) (val y)))
      rw [l2] at this
      have := MayL.len m2
      unfold bigN; simp; omega
    rw [if_neg h0, b1, b2]
    simp [hx]

set_option maxRecDepth 100000 in
set_option maxHeartbeats 16000000 in
/-- sloperef2.Make. -/
theorem wMake_any (neg : Bool) (a1 a2 : Option Addr) (n1 c1 n2 c2 : Nat) (xs ys : List Nat) (w : World) (h1 : Sl w a1 n1 c1 xs) (h2 : Sl w a2 n2 c2 ys) (ox : Ok xs) (oy : Ok ys) :
    Calls Tryz.prog 25 #[.bool neg, .slice a1 n1 c1, .slice a2 n2 c2] w fun e w' => ResF w w' (MakeF neg xs ys) e := by
  obtain ⟨⟨⟨SG, LN, LD⟩, ER⟩, hFF⟩ : ∃ r, MakeF neg xs ys = r := ⟨_, rfl⟩
  rw [hFF]
  unfold ResF
  dsimp only
  obtain ⟨wo, hwo⟩ : ∃ x, w.alloc (.cells #[.bool false, .slice none 0 0, .slice none 0 0] 25) = x := ⟨_, rfl⟩
  have hbo : Below w.heap.size w wo := by rw [← hwo]; exact (Below.refl _ _).alloc (Nat.le_refl _) _
  have hO : Out wo w.heap.size := by rw [← hwo]; exact Out.made w
  have K1 := wmaynat_any a1 n1 c1 xs wo (h1.below hbo)
  have K2 := wmaynat_any a2 n2 c2 ys wo (h2.below hbo)
  have HO3 := hide hO
  have HB3 := hide hbo
  have hl2 := h2.len
  cases m1 : MayL xs
  · have e := hFF.symm.trans (show MakeF neg xs ys = ((false, [], []), 20) from by unfold MakeF makeL; rw [m1]; rfl)
    cases e
    rw [m1] at K1
    have HK1 := hide K1
    clear K1 K2 hFF h1 h2 hbo hO m1
    go_enter Tryz.func25, Tryz.ntmps25
    go_wp2_with fail
    refine (unhide HK1).mono ?_
    rintro _ wq ⟨rfl, hwq⟩
    obtain rfl := hwq.symm
    clear hwq
    have hO3 := unhide HO3
    obtain ⟨x0, q0⟩ := hO3.cells 0 (by decide)
    obtain ⟨x1', q1⟩ := hO3.cells 1 (by decide)
    obtain ⟨x2', q2⟩ := hO3.cells 2 (by decide)
    have r0 := hO3.fz 0 (by decide)
    have r1 := hO3.fz 1 (by decide)
    have r2 := hO3.fz 2 (by decide)
    have H4 := hide (three_set wo w.heap.size (.bool false) (.slice none 0 0) (.slice none 0 0) hO3.cells)
    clear hO3
    go_wp2_with fail
    obtain ⟨y0, y1', y2', c4⟩ := unhide H4
    generalize ((wo.setCell ⟨w.heap.size, 0, none⟩ (.bool false)).setCell ⟨w.heap.size, 1, none⟩ (.slice none 0 0)).setCell ⟨w.heap.size, 2, none⟩ (.slice none 0 0) = wf at *
    refine bodyPost_ret (by simp [results, Tryz.results25, go_sem, y0, y1', y2']; try rfl) rfl ?_
    exact ⟨_, rfl, newR_of (Nat.le_refl _) (unhide HO3).lt (unhide HB3) (sl_nil _) (newAt_nil _) (sl_nil _) (newAt_nil _) c4 false⟩
  · rw [m1] at K1
    have HK1 := hide K1
    cases m2 : MayL ys
    · have e := hFF.symm.trans (show MakeF neg xs ys = ((false, [], []), 20) from by unfold MakeF makeL; rw [m1, m2]; rfl)
      cases e
      rw [m2] at K2
      have HK2 := hide K2
      clear K1 K2 hFF h1 h2 hbo hO m1 m2
      go_enter Tryz.func25, Tryz.ntmps25
      go_wp2_with fail
      refine (unhide HK1).mono ?_
      rintro _ wq ⟨rfl, hwq⟩
      obtain rfl := hwq.symm
      clear hwq
      go_wp2_with fail
      refine (unhide HK2).mono ?_
      rintro _ wq ⟨rfl, hwq⟩
      obtain rfl := hwq.symm
      clear hwq
      have hO3 := unhide HO3
      obtain ⟨x0, q0⟩ := hO3.cells 0 (by decide)
      obtain ⟨x1', q1⟩ := hO3.cells 1 (by decide)
      obtain ⟨x2', q2⟩ := hO3.cells 2 (by decide)
      have r0 := hO3.fz 0 (by decide)
      have r1 := hO3.fz 1 (by decide)
      have r2 := hO3.fz 2 (by decide)
      have H4 := hide (three_set wo w.heap.size (.bool false) (.slice none 0 0) (.slice none 0 0) hO3.cells)
      clear hO3
      go_wp2_with fail
      obtain ⟨y0, y1', y2', c4⟩ := unhide H4
      generalize ((wo.setCell ⟨w.heap.size, 0, none⟩ (.bool false)).setCell ⟨w.heap.size, 1, none⟩ (.slice none 0 0)).setCell ⟨w.heap.size, 2, none⟩ (.slice none 0 0) = wf at *
      refine bodyPost_ret (by simp [results, Tryz.results25, go_sem, y0, y1', y2']; try rfl) rfl ?_
      exact ⟨_, rfl, newR_of (Nat.le_refl _) (unhide HO3).lt (unhide HB3) (sl_nil _) (newAt_nil _) (sl_nil _) (newAt_nil _) c4 false⟩
    · rw [m2] at K2
      have HK2 := hide K2
      by_cases hy : ys = []
      · have e := hFF.symm.trans (show MakeF neg xs ys = ((false, [], []), 3) from by unfold MakeF makeL; rw [if_pos (by rw [m1, m2]; rfl), if_pos hy])
        cases e
        have hn : n2 = 0 := by rw [← hl2, hy]; rfl
        subst hn
        clear K1 K2 hFF h1 h2 hbo hO m1 m2 hy hl2
        go_enter Tryz.func25, Tryz.ntmps25
        go_wp2_with fail
        refine (unhide HK1).mono ?_
        rintro _ wq ⟨rfl, hwq⟩
        obtain rfl := hwq.symm
        clear hwq
        go_wp2_with fail
        refine (unhide HK2).mono ?_
        rintro _ wq ⟨rfl, hwq⟩
        obtain rfl := hwq.symm
        clear hwq
        have hO3 := unhide HO3
        obtain ⟨x0, q0⟩ := hO3.cells 0 (by decide)
        obtain ⟨x1', q1⟩ := hO3.cells 1 (by decide)
        obtain ⟨x2', q2⟩ := hO3.cells 2 (by decide)
        have r0 := hO3.fz 0 (by decide)
        have r1 := hO3.fz 1 (by decide)
        have r2 := hO3.fz 2 (by decide)
        have H4 := hide (three_set wo w.heap.size (.bool false) (.slice none 0 0) (.slice none 0 0) hO3.cells)
        clear hO3
        go_wp2_with fail
        obtain ⟨y0, y1', y2', c4⟩ := unhide H4
        generalize ((wo.setCell ⟨w.heap.size, 0, none⟩ (.bool false)).setCell ⟨w.heap.size, 1, none⟩ (.slice none 0 0)).setCell ⟨w.heap.size, 2, none⟩ (.slice none 0 0) = wf at *
        refine bodyPost_ret (by simp [results, Tryz.results25, go_sem, y0, y1', y2']; try rfl) rfl ?_
        exact ⟨_, rfl, newR_of (Nat.le_refl _) (unhide HO3).lt (unhide HB3) (sl_nil _) (newAt_nil _) (sl_nil _) (newAt_nil _) c4 false⟩
      · have hFL := (makeF_low (g := neg) m1 m2 ox oy hy).trans hFF
        have u1 : ((n2 : Int) == 0) = false := by
          have : ys.length ≠ 0 := fun e => hy (List.eq_nil_of_length_eq_zero e)
          simp; omega
        have KL := wlower_any neg a1 a2 n1 c1 n2 c2 xs ys wo (h1.below hbo) (h2.below hbo) ox oy (MayL.norm m1) (MayL.norm m2) hy (by have := h1.len; have := MayL.len m1; omega) (by have := MayL.len m2; omega)
        rw [hFL] at KL
        unfold ResF at KL
        dsimp only at KL
        have HKL := hide KL
        clear K1 K2 KL hFF hFL h1 h2 hbo hO m1 m2 hy hl2
        go_enter Tryz.func25, Tryz.ntmps25
        go_wp2_with fail
        refine (unhide HK1).mono ?_
        rintro _ wq ⟨rfl, hwq⟩
        obtain rfl := hwq.symm
        clear hwq
        go_wp2_with fail
        refine (unhide HK2).mono ?_
        rintro _ wq ⟨rfl, hwq⟩
        obtain rfl := hwq.symm
        clear hwq
        go_wp2_with fail
        refine (unhide HKL).mono ?_
        rintro _ wi ⟨vv, rfl, aN, mN, cN, aD, mD, cD, rfl, sN, sD, nN, nD, bl_i⟩
        unfold ratV
        have hzz := (unhide HO3).lt
        have HS3 := hide (And.intro sN (And.intro (show NewAt (w.heap.size + 1) aN from fun x hx => Nat.le_trans hzz (nN x hx)) (And.intro sD (show NewAt (w.heap.size + 1) aD from fun x hx => Nat.le_trans hzz (nD x hx)))))
        have HB_i := hide ((unhide HB3).trans (bl_i.mono (unhide HB3).size))
        have hO3 := (unhide HO3).keep bl_i
        obtain ⟨x0, q0⟩ := hO3.cells 0 (by decide)
        obtain ⟨x1', q1⟩ := hO3.cells 1 (by decide)
        obtain ⟨x2', q2⟩ := hO3.cells 2 (by decide)
        have r0 := hO3.fz 0 (by decide)
        have r1 := hO3.fz 1 (by decide)
        have r2 := hO3.fz 2 (by decide)
        have HO7 := hide hO3
        have H4 := hide (three_set wi w.heap.size (.bool SG) (.slice aN mN cN) (.slice aD mD cD) hO3.cells)
        clear sN sD nN nD bl_i hO3 hzz
        go_wp2_with fail
        obtain ⟨t0, t1, t2, c4⟩ := unhide H4
        generalize ((wi.setCell ⟨w.heap.size, 0, none⟩ (.bool SG)).setCell ⟨w.heap.size, 1, none⟩ (.slice aN mN cN)).setCell ⟨w.heap.size, 2, none⟩ (.slice aD mD cD) = wf at *
        refine bodyPost_ret (by simp [results, Tryz.results25, go_sem, t0, t1, t2]; try rfl) rfl ?_
        obtain ⟨sN, nN, sD, nD⟩ := unhide HS3
        exact ⟨_, rfl, newR_of (Nat.le_refl _) (unhide HO7).lt (unhide HB_i) sN nN sD nD c4 SG⟩
end Go.Proofs.YtcfefobgmhhfkaaGreatDoor

namespace Go.Proofs.YtcfefobgmhhfkaaGreatDoor
open Go.RowKit Go.Deep
set_option linter.unusedVariables false

set_option maxRecDepth 100000 in
set_option maxHeartbeats 16000000 in
/-- sloperef2.FromInt. -/
theorem wFromInt_any (n : Int) (hn1 : -9223372036854775808 ≤ n) (hn2 : n ≤ 9223372036854775807) (w : World) :
    Calls Tryz.prog 30 #[.int .i64 n] w fun e w' => ∃ v, e = .returned v ∧ NewR w w' (decide (n < 0)) (limbs n.natAbs) [1] v := by
  obtain ⟨wo, hwo⟩ : ∃ x, w.alloc (.cells #[.bool false, .slice none 0 0, .slice none 0 0] 25) = x := ⟨_, rfl⟩
  have hbo : Below w.heap.size w wo := by rw [← hwo]; exact (Below.refl _ _).alloc (Nat.le_refl _) _
  have hO : Out wo w.heap.size := by rw [← hwo]; exact Out.made w
  have HO := hide hO
  have HB := hide hbo
  clear hO hbo
  by_cases hneg : n < 0
  · obtain ⟨k, rfl⟩ : ∃ k : Nat, n = -(k:Int) := ⟨n.natAbs, by omega⟩
    have hk2 : 0 < k := by omega
    have hk3 : k ≤ 9223372036854775808 := by omega
    rw [decide_eq_true hneg, show (-(k:Int)).natAbs = k from by omega]
    have e0 : ¬ 0 ≤ -(k:Int) := by omega
    have e1 : IntKind.u64.wrap (0 - IntKind.u64.wrap (-(k:Int))) = (k:Int) := by rw [IntKind.wrap_u64, IntKind.wrap_u64]; omega
    have e2 : IntKind.u64.wrap (-IntKind.u64.wrap (-(k:Int))) = (k:Int) := by rw [IntKind.wrap_u64, IntKind.wrap_u64]; omega
    have HKL := hide (fun (W : World) => wlimbs_any k W (by omega))
    clear hneg
    go_enter Tryz.func30, Tryz.ntmps30
    go_wp2_with fail
    first | rw [e1] | rw [e2] | skip
    refine (unhide HKL _).mono ?_
    rintro _ wk ⟨aq, mq, cq, rfl, sq, nq, hq, bl_k⟩
    have hOk := (unhide HO).keep bl_k
    obtain ⟨wc, hwc⟩ : ∃ x, wk.alloc (.cells #[.int .u32 1] 33) = x := ⟨_, rfl⟩
    have hbc : Below wk.heap.size wk wc := by rw [← hwc]; exact (Below.refl _ _).alloc (Nat.le_refl _) _
    have hs : Sl wc (some ⟨wk.heap.size, 0, none⟩) 1 1 [1] := by rw [← hwc]; exact one_sl wk 1 33
    have hO3 := hOk.keep hbc
    obtain ⟨x0, q0⟩ := hO3.cells 0 (by decide)
    obtain ⟨x1, q1⟩ := hO3.cells 1 (by decide)
    obtain ⟨x2, q2⟩ := hO3.cells 2 (by decide)
    have r0 := hO3.fz 0 (by decide)
    have r1 := hO3.fz 1 (by decide)
    have r2 := hO3.fz 2 (by decide)
    have HO3 := hide hO3
    have hlo := (unhide HO).lt
    have HS3 := hide (And.intro (sq.below hbc) (And.intro (show NewAt (w.heap.size + 1) aq from fun x hx => Nat.le_trans hlo (nq x hx)) (And.intro hs (show NewAt (w.heap.size + 1) (some (⟨wk.heap.size, 0, none⟩ : Addr)) from fun x hx => by cases hx; exact hOk.lt))))
    have HB3 := hide (((unhide HB).trans (bl_k.mono (unhide HB).size)).trans (hbc.mono (Nat.le_trans (unhide HB).size bl_k.size)))
    have H4 := hide (three_set wc w.heap.size (.bool true) (.slice aq mq cq) (.slice (some ⟨wk.heap.size, 0, none⟩) 1 1) hO3.cells)
    clear sq nq hq bl_k hOk hbc hs hO3 hlo
    go_wp2_with fail
    obtain ⟨p0, p1, p2, c4⟩ := unhide H4
    generalize ((wc.setCell ⟨w.heap.size, 0, none⟩ (.bool true)).setCell ⟨w.heap.size, 1, none⟩ (.slice aq mq cq)).setCell ⟨w.heap.size, 2, none⟩ (.slice (some ⟨wk.heap.size, 0, none⟩) 1 1) = wf at *
    refine bodyPost_ret (by simp [results, Tryz.results30, go_sem, p0, p1, p2]; try rfl) rfl ?_
    obtain ⟨sN, nN, sD, nD⟩ := unhide HS3
    exact ⟨_, rfl, newR_of (Nat.le_refl _) (unhide HO3).lt (unhide HB3) sN nN sD nD c4 true⟩
  · obtain ⟨k, rfl⟩ : ∃ k : Nat, n = (k:Int) := ⟨n.toNat, by omega⟩
    have hk3 : k ≤ 9223372036854775807 := by omega
    rw [decide_eq_false hneg, show ((k:Int)).natAbs = k from by omega]
    have e0 : 0 ≤ (k:Int) := by omega
    have e1 : IntKind.u64.wrap (k:Int) = (k:Int) := by rw [IntKind.wrap_u64]; omega
    have HKL := hide (fun (W : World) => wlimbs_any k W (by omega))
    clear hneg
    go_enter Tryz.func30, Tryz.ntmps30
    go_wp2_with fail
    first | rw [e1] | rw [e2] | skip
    refine (unhide HKL _).mono ?_
    rintro _ wk ⟨aq, mq, cq, rfl, sq, nq, hq, bl_k⟩
    have hOk := (unhide HO).keep bl_k
    obtain ⟨wc, hwc⟩ : ∃ x, wk.alloc (.cells #[.int .u32 1] 33) = x := ⟨_, rfl⟩
    have hbc : Below wk.heap.size wk wc := by rw [← hwc]; exact (Below.refl _ _).alloc (Nat.le_refl _) _
    have hs : Sl wc (some ⟨wk.heap.size, 0, none⟩) 1 1 [1] := by rw [← hwc]; exact one_sl wk 1 33
    have hO3 := hOk.keep hbc
    obtain ⟨x0, q0⟩ := hO3.cells 0 (by decide)
    obtain ⟨x1, q1⟩ := hO3.cells 1 (by decide)
    obtain ⟨x2, q2⟩ := hO3.cells 2 (by decide)
    have r0 := hO3.fz 0 (by decide)
    have r1 := hO3.fz 1 (by decide)
    have r2 := hO3.fz 2 (by decide)
    have HO3 := hide hO3
    have hlo := (unhide HO).lt
    have HS3 := hide (And.intro (sq.below hbc) (And.intro (show NewAt (w.heap.size + 1) aq from fun x hx => Nat.le_trans hlo (nq x hx)) (And.intro hs (show NewAt (w.heap.size + 1) (some (⟨wk.heap.size, 0, none⟩ : Addr)) from fun x hx => by cases hx; exact hOk.lt))))
    have HB3 := hide (((unhide HB).trans (bl_k.mono (unhide HB).size)).trans (hbc.mono (Nat.le_trans (unhide HB).size bl_k.size)))
    have H4 := hide (three_set wc w.heap.size (.bool false) (.slice aq mq cq) (.slice (some ⟨wk.heap.size, 0, none⟩) 1 1) hO3.cells)
    clear sq nq hq bl_k hOk hbc hs hO3 hlo
    go_wp2_with fail
    obtain ⟨p0, p1, p2, c4⟩ := unhide H4
    generalize ((wc.setCell ⟨w.heap.size, 0, none⟩ (.bool false)).setCell ⟨w.heap.size, 1, none⟩ (.slice aq mq cq)).setCell ⟨w.heap.size, 2, none⟩ (.slice (some ⟨wk.heap.size, 0, none⟩) 1 1) = wf at *
    refine bodyPost_ret (by simp [results, Tryz.results30, go_sem, p0, p1, p2]; try rfl) rfl ?_
    obtain ⟨sN, nN, sD, nD⟩ := unhide HS3
    exact ⟨_, rfl, newR_of (Nat.le_refl _) (unhide HO3).lt (unhide HB3) sN nN sD nD c4 false⟩
end Go.Proofs.YtcfefobgmhhfkaaGreatDoor

namespace Go.Proofs.YtcfefobgmhhfkaaGreatDoor
open Go.RowKit Go.Deep
set_option linter.unusedVariables false

/-- What Tail of a number is. -/
def IsTail (v t : Nat) : Prop := (v = 0 ∧ t = 0) ∨ (bitN v t = 1 ∧ ∀ j, j < t → bitN v j = 0)
theorem bitN_zero (j : Nat) : bitN 0 j = 0 := by unfold bitN; rw [Nat.zero_div]
theorem IsTail.unique {v t s : Nat} (h : IsTail v t) (k : IsTail v s) : t = s := by
  rcases h with ⟨h0, h1⟩ | ⟨h0, h1⟩
  · rcases k with ⟨_, k1⟩ | ⟨k0, _⟩
    · omega
    · rw [h0, bitN_zero] at k0; omega
  · rcases k with ⟨k0, _⟩ | ⟨k0, k1⟩
    · rw [k0, bitN_zero] at h0; omega
    · rcases Nat.lt_trichotomy t s with e | e | e
      · have := k1 t e; omega
      · exact e
      · have := h1 s e; omega

theorem tail_limb {xs : List Nat} (ox : Ok xs) {k : Nat} (h0 : ∀ i, i < k → xs.getD i 0 = 0) (hx : 0 < xs.getD k 0) : IsTail (val xs) (32 * k + tzN (xs.getD k 0)) := by
  have hb := ox.getD k
  have ht : tzN (xs.getD k 0) = Lib.ntzAux 32 (xs.getD k 0) := by unfold tzN; rw [if_neg (by omega)]
  have hl := tz_lt 32 _ hx hb
  have hz := tz_bit 32 _ hx hb
  rw [← ht] at hl hz
  right
  constructor
  · rw [bit_limb ox (l := k) (s := tzN (xs.getD k 0)) (by omega) (by omega)]
    exact hz.1
  · intro j hj
    rw [bit_limb ox (l := j / 32) (s := j % 32) rfl rfl]
    rcases Nat.lt_or_ge (j / 32) k with e | e
    · rw [h0 _ e, Nat.zero_div]
    · have e2 : j / 32 = k := by omega
      rw [e2]
      exact hz.2 _ (by omega)
theorem tail_none {xs : List Nat} {n : Nat} (hl : xs.length = n) (h0 : ∀ i, i < n → xs.getD i 0 = 0) : IsTail (val xs) 0 := by
  left
  refine ⟨?_, rfl⟩
  rw [← valF_list, hl, valF_congr (g := fun _ => 0) h0, valF_zero]

def TailPost (w : World) (xs : List Nat) (e : Ending) (w' : World) : Prop := ∃ t : Nat, t ≤ 65536 ∧ IsTail (val xs) t ∧ e = .returned (.int .i64 (t : Nat)) ∧ ∃ k, w' = w.drewN k

open Go.RowKit Go.Deep
set_option linter.unusedVariables false

def uintI (xs : List Nat) : Nat × Bool := if MayL xs && decide (xs.length ≤ 2) then (xs.getD 0 0 + 4294967296 * xs.getD 1 0, true) else (0, false)
def bitsI (xs : List Nat) : Nat := if MayL xs then bitsN xs else 0
def onesI (xs : List Nat) : Nat := if MayL xs then onesN xs else 0
def bitI (xs : List Nat) (i : Int) : Nat := if MayL xs then (if i < 0 then 0 else bitN (val xs) i.toNat) else 0

set_option maxHeartbeats 1000000 in
theorem nuint_all (a : Option Addr) (n c : Nat) (xs : List Nat) (w : World) (h : Sl w a n c xs) (ox : Ok xs) :
    Calls Tryz.prog 71 #[.slice a n c] w fun e w' => e = .returned (.tuple #[.int .u64 ((uintI xs).1 : Nat), .bool (uintI xs).2]) ∧ w' = w := by
  have K1 := may_any a n c xs w h
  have hl := h.len
  by_cases m1 : MayL xs = true
  · rw [m1] at K1
    have K1' := hide K1
    have hm := MayL.len m1
    by_cases h2 : n ≤ 2
    · have HC := hide (show uintI xs = (xs.getD 0 0 + 4294967296 * xs.getD 1 0, true) from by simp [uintI, m1, hl, h2])
      have KW := hide (word_any a n c xs w h ox)
      have h2' : ¬ (2:Int) < (n:Int) := by omega
      clear K1 m1 h
      generalize xs.getD 0 0 + 4294967296 * xs.getD 1 0 = u at *
      go_enter Tryz.func71, Tryz.ntmps71
      go_wp2_with fail
      refine (unhide K1').mono ?_
      rintro e w' ⟨rfl, hw⟩
      obtain rfl := hw.symm
      go_wp2_with fail
      refine (unhide KW).mono ?_
      rintro e w' ⟨rfl, hw⟩
      obtain rfl := hw.symm
      go_wp2
      go_ret2
      rw [unhide HC]
      exact ⟨rfl, rfl⟩
    · have HC := hide (show uintI xs = (0, false) from by simp [uintI, m1, hl, h2])
      have h2' : (2:Int) < (n:Int) := by omega
      clear K1 m1 h ox
      go_enter Tryz.func71, Tryz.ntmps71
      go_wp2_with fail
      refine (unhide K1').mono ?_
      rintro e w' ⟨rfl, hw⟩
      obtain rfl := hw.symm
      go_wp2
      go_ret2
      rw [unhide HC]
      exact ⟨rfl, rfl⟩
  · have m1' : MayL xs = false := by simpa using m1
    rw [m1'] at K1
    have K1' := hide K1
    have HC := hide (show uintI xs = (0, false) from by simp [uintI, m1'])
    clear K1 m1 m1' h ox
    go_enter Tryz.func71, Tryz.ntmps71
    go_wp2_with fail
    refine (unhide K1').mono ?_
    rintro e w' ⟨rfl, hw⟩
    obtain rfl := hw.symm
    go_wp2
    go_ret2
    rw [unhide HC]
    exact ⟨rfl, rfl⟩

set_option maxHeartbeats 400000 in
theorem nbits_no (a : Option Addr) (n c : Nat) (xs : List Nat) (w : World) (h : Sl w a n c xs) (m : MayL xs = false) :
    Calls Tryz.prog 146 #[.slice a n c] w fun e w' => e = .returned (.int .i64 0) ∧ w' = w := by
  have K1 := may_any a n c xs w h
  rw [m] at K1
  have K1' := hide K1
  clear K1 m h
  go_enter Tryz.func146, Tryz.ntmps146
  go_wp2_with fail
  refine (unhide K1').mono ?_
  rintro e w' ⟨rfl, hw⟩
  obtain rfl := hw.symm
  go_wp2
  go_ret
  exact ⟨rfl, rfl⟩

set_option maxHeartbeats 400000 in
theorem nbit_no (a : Option Addr) (n c : Nat) (xs : List Nat) (i : Int) (w : World) (h : Sl w a n c xs) (m : MayL xs = false) :
    Calls Tryz.prog 50 #[.slice a n c, .int .i64 i] w fun e w' => e = .returned (.int .i64 0) ∧ w' = w := by
  have K1 := may_any a n c xs w h
  rw [m] at K1
  have K1' := hide K1
  clear K1 m h
  go_enter Tryz.func50, Tryz.ntmps50
  go_wp2_with fail
  refine (unhide K1').mono ?_
  rintro e w' ⟨rfl, hw⟩
  obtain rfl := hw.symm
  go_wp2
  go_ret
  exact ⟨rfl, rfl⟩

theorem nbits_all (a : Option Addr) (n c : Nat) (xs : List Nat) (w : World) (h : Sl w a n c xs) (ox : Ok xs) :
    Calls Tryz.prog 146 #[.slice a n c] w fun e w' => e = .returned (.int .i64 (bitsI xs : Nat)) ∧ w' = w := by
  unfold bitsI
  cases m : MayL xs
  · exact nbits_no a n c xs w h m
  · exact nbits_any a n c xs w h ox m
set_option maxHeartbeats 1000000 in
theorem nbit_any (a : Option Addr) (n c : Nat) (xs : List Nat) (i : Nat) (w : World) (h : Sl w a n c xs) (ox : Ok xs) (m : MayL xs = true) (hi : i ≤ 9223372036854775807) :
    Calls Tryz.prog 50 #[.slice a n c, .int .i64 (i : Nat)] w fun e w' => e = .returned (.int .i64 (bitN (val xs) i : Nat)) ∧ w' = w := by
  have K1 := may_any a n c xs w h
  rw [m] at K1
  have K1' := hide K1
  have KL := limbAt_any a n c xs ((i / 32 : Nat) : Int) w h (by omega)
  rw [show (((i / 32 : Nat) : Int)).toNat = i / 32 from Int.toNat_natCast _] at KL
  rw [bit_limb ox (l := i / 32) (s := i % 32) rfl rfl]
  have bx := ox.getD (i / 32)
  generalize xs.getD (i / 32) 0 = x at *
  obtain ⟨l, hl⟩ : ∃ l, i / 32 = l := ⟨_, rfl⟩
  obtain ⟨s, hs⟩ : ∃ s, i % 32 = s := ⟨_, rfl⟩
  have hs32 : s < 32 := by omega
  rw [hl] at KL
  rw [hs]
  have KL' := hide KL
  have hl2 : (i:Int).tdiv 32 = (l:Int) := by rw [Int.tdiv_eq_ediv_of_nonneg (by omega)]; omega
  have hs2 : (i:Int).tmod 32 = (s:Int) := by rw [Int.tmod_eq_emod_of_nonneg (by omega)]; omega
  have hl3 : (i:Int) / 32 = (l:Int) := by omega
  have hs3 : (i:Int) % 32 = (s:Int) := by omega
  have hy := shr_lt (s := s) bx
  have e1 : (x:Int) / 2 ^ s = ((x / 2 ^ s : Nat) : Int) := by rw [Int.natCast_ediv, Int.natCast_pow]; rfl
  have e2 := and_one _ hy
  generalize x / 2 ^ s = y at *
  have hy2 : y % 2 < 2 := Nat.mod_lt _ (by decide)
  generalize y % 2 = z at *
  clear K1 KL h m
  go_enter Tryz.func50, Tryz.ntmps50
  go_wp2_with fail
  refine (unhide K1').mono ?_
  rintro e w' ⟨rfl, hw⟩
  obtain rfl := hw.symm
  go_wp2_with fail
  refine (unhide KL').mono ?_
  rintro e w' ⟨rfl, hw⟩
  obtain rfl := hw.symm
  go_wp2
  go_ret
  exact ⟨rfl, rfl⟩
set_option maxHeartbeats 400000 in
theorem nbit_neg (a : Option Addr) (n c : Nat) (xs : List Nat) (i : Int) (w : World) (h : Sl w a n c xs) (m : MayL xs = true) (hi : i < 0) :
    Calls Tryz.prog 50 #[.slice a n c, .int .i64 i] w fun e w' => e = .returned (.int .i64 0) ∧ w' = w := by
  have K1 := may_any a n c xs w h
  rw [m] at K1
  have K1' := hide K1
  clear K1 h m
  go_enter Tryz.func50, Tryz.ntmps50
  go_wp2_with fail
  refine (unhide K1').mono ?_
  rintro e w' ⟨rfl, hw⟩
  obtain rfl := hw.symm
  go_wp2
  go_ret
  exact ⟨rfl, rfl⟩
theorem nbit_all (a : Option Addr) (n c : Nat) (xs : List Nat) (i : Int) (w : World) (h : Sl w a n c xs) (ox : Ok xs) (hi : i ≤ 9223372036854775807) :
    Calls Tryz.prog 50 #[.slice a n c, .int .i64 i] w fun e w' => e = .returned (.int .i64 (bitI xs i : Nat)) ∧ w' = w := by
  unfold bitI
  cases m : MayL xs
  · exact nbit_no a n c xs i w h m
  · by_cases h0 : i < 0
    · simp only [if_pos h0]
      exact nbit_neg a n c xs i w h m h0
    · simp only [if_neg h0]
      obtain ⟨j, rfl⟩ := Int.eq_ofNat_of_zero_le (show 0 ≤ i by omega)
      exact nbit_any a n c xs j w h ox m (by omega)
end Go.Proofs.YtcfefobgmhhfkaaGreatDoor
