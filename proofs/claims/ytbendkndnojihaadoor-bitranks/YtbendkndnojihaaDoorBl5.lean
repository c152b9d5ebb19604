/-
  slopelaw3.alive: its contract.
-/
import Derived.Test.YtbendkndnojihaaDoorBt3
import Derived.Test.YtbendkndnojihaaDoorBt7
import Derived.Test.YtbendkndnojihaaDoorBq0
namespace Go.Proofs.YtbendkndnojihaaDoor
open Go.RowKit Go.Deep
set_option linter.unusedVariables false

theorem mk_303 : mkR 5 [3, 0, 3] = (5, [9], 0) := by decide
theorem mk_5 : mkR 5 [5] = (0, [], 62) := by decide

set_option maxHeartbeats 4000000 in
/-- slopelaw3.alive. -/
theorem alive_any (w : World) : Calls Tryd.prog 17 #[] w fun e w' => e = .returned (.bool true) ∧ Below w.heap.size w w' := by
  obtain ⟨wa, hwa⟩ : ∃ x, w.alloc (.cells #[.int .i64 3, .int .i64 0, .int .i64 3] 3) = x := ⟨_, rfl⟩
  have hba : Below w.heap.size w wa := by rw [← hwa]; exact (Below.refl _ _).alloc (Nat.le_refl _) _
  have hs : SlI wa (some ⟨w.heap.size, 0, none⟩) 3 3 [3, 0, 3] := by
    refine ⟨rfl, Nat.le_refl _, by unfold maxLen; omega, .inr ⟨_, _, rfl, fun i hi => ?_⟩⟩
    have hi3 : i < 3 := hi
    match i, hi3 with
    | 0, _ => rw [← hwa]; simp [vI]
    | 1, _ => rw [← hwa]; simp [vI]
    | 2, _ => rw [← hwa]; simp [vI]
  have K1 := make_any 5 (some ⟨w.heap.size, 0, none⟩) 3 3 [3, 0, 3] wa hs
  rw [mk_303] at K1
  have HK1 := hide K1
  have HB := hide hba
  clear K1 hs hba
  go_enter Tryd.func17, Tryd.ntmps17
  go_wp2_with fail
  refine (unhide HK1).mono ?_
  rintro _ wb ⟨a1, n1, c1, rfl, hs1, hb1⟩
  have hbb := (unhide HB).trans (hb1.mono (unhide HB).size)
  have hl := hs1.len
  have hn1 : n1 = 1 := hl.symm
  subst hn1
  obtain ⟨b, off, rfl, hc⟩ := hs1.at (by decide)
  have g0 := hc 0 (by decide)
  simp [vU] at g0
  have hcap := hs1.cap
  have hle := hs1.le
  unfold maxLen at hcap
  have HG := hide (And.intro hbb g0)
  clear hb1 hs1 hc g0 hbb hl HK1 HB
  unfold setV
  obtain ⟨wc, hwc⟩ : ∃ x, wb.alloc (.cells #[.int .i64 5, .slice (some ⟨b, off, none⟩) 1 c1] 24) = x := ⟨_, rfl⟩
  obtain ⟨wd, hwd⟩ : ∃ x, wc.alloc (.cells #[.int .i64 5] 3) = x := ⟨_, rfl⟩
  have hbc : Below wb.heap.size wb wc := by rw [← hwc]; exact (Below.refl _ _).alloc (Nat.le_refl _) _
  have hbd : Below wc.heap.size wc wd := by rw [← hwd]; exact (Below.refl _ _).alloc (Nat.le_refl _) _
  have tS : Two wd wb.heap.size (.int .i64 5) (.slice (some ⟨b, off, none⟩) 1 c1) := Two.keep (w := wc) (by rw [← hwc]; exact Two.made _ _ _ _) hbd
  have hs : SlI wd (some ⟨wc.heap.size, 0, none⟩) 1 1 [5] := by
    refine ⟨rfl, Nat.le_refl _, by unfold maxLen; omega, .inr ⟨_, _, rfl, fun i hi => ?_⟩⟩
    have hi1 : i < 1 := hi
    match i, hi1 with
    | 0, _ => rw [← hwd]; simp [vI]
  have K2 := make_any 5 (some ⟨wc.heap.size, 0, none⟩) 1 1 [5] wd hs
  rw [mk_5] at K2
  have HK2 := hide K2
  have hbwd : Below wb.heap.size wb wd := hbc.trans (hbd.mono hbc.size)
  have HG2 := hide (And.intro tS (And.intro ((unhide HG).1.trans (hbwd.mono (unhide HG).1.size)) (below_cell hbwd (unhide HG).2)))
  clear K2 hs tS hbc hbd hbwd HG
  go_wp2_with fail
  refine (unhide HK2).mono ?_
  rintro _ we ⟨a2, n2, c2, rfl, hs2, hb2⟩
  have hbe := (unhide HG2).2.1.trans (hb2.mono (unhide HG2).2.1.size)
  have HG3 := hide (And.intro ((unhide HG2).1.keep hb2) (And.intro hbe (below_cell hb2 (unhide HG2).2.2)))
  clear hs2 hb2 hbe HK2 HG2 hwc hwd
  unfold setV
  obtain ⟨wf, hwf⟩ : ∃ x, we.alloc (.cells #[.int .i64 0, .slice a2 n2 c2] 24) = x := ⟨_, rfl⟩
  have hbf : Below we.heap.size we wf := by rw [← hwf]; exact (Below.refl _ _).alloc (Nat.le_refl _) _
  have tS := (unhide HG3).1.keep hbf
  have t0 := tS.c0
  have t1 := tS.c1
  have g0 := below_cell hbf (unhide HG3).2.2
  have HB := hide ((unhide HG3).2.1.trans (hbf.mono (unhide HG3).2.1.size))
  clear tS hbf HG3
  go_wp2_with fail
  refine (num_any 0 wf).mono ?_
  rintro _ w' ⟨rfl, hw⟩
  obtain rfl := hw.symm
  go_wp2_with fail
  refine (num_any 62 wf).mono ?_
  rintro _ w' ⟨rfl, hw⟩
  obtain rfl := hw.symm
  go_wp2_with fail
  go_ret
  exact ⟨rfl, unhide HB⟩
end Go.Proofs.YtbendkndnojihaaDoor
