/-
  bitset.leaves, by xor: its contract.
-/
import Derived.Test.YtbendkndnojihabDoorBt5
namespace Go.Proofs.YtbendkndnojihabDoor
open Go.RowKit Go.Deep
set_option linter.unusedVariables false

end Go.Proofs.YtbendkndnojihabDoor

namespace Go.Proofs.YtbendkndnojihabDoor
open Go.RowKit Go.Deep
set_option linter.unusedVariables false

set_option maxHeartbeats 8000000 in
/-- bitset.leaves, by andNot. -/
theorem leaves_andNot (s1 : Int) (a1 : Option Addr) (n1 c1 : Nat) (x1 : List Nat) (s2 : Int) (a2 : Option Addr) (n2 c2 : Nat) (x2 : List Nat) (w : World) (h1 : SlW w a1 n1 c1 x1) (h2 : SlW w a2 n2 c2 x2) (o1 : OkW x1) (o2 : OkW x2) :
    Calls Tryd.prog 47 #[setV s1 a1 n1 c1, setV s2 a2 n2 c2, .func (.func 48) #[] #[]] w fun r w' => r = .returned (.bool (leavesR jAndNot s1 x1 s2 x2)) ∧ Below w.heap.size w w' := by
  have hle1 := h1.le
  have hcap1 := h1.cap
  have hle2 := h2.le
  have hcap2 := h2.cap
  unfold maxLen at hcap1 hcap2
  obtain ⟨wa, hwa⟩ : ∃ x, w.alloc (.cells #[.int .i64 s1, .slice a1 n1 c1] 35) = x := ⟨_, rfl⟩
  obtain ⟨wb, hwb⟩ : ∃ x, wa.alloc (.cells #[.int .i64 s2, .slice a2 n2 c2] 35) = x := ⟨_, rfl⟩
  obtain ⟨wc, hwc⟩ : ∃ x, wb.alloc (.cells #[.int .i64 s1, .slice a1 n1 c1, .int .i64 s2, .slice a2 n2 c2] 35) = x := ⟨_, rfl⟩
  have hba : Below w.heap.size w wa := by rw [← hwa]; exact (Below.refl _ _).alloc (Nat.le_refl _) _
  have hbb : Below wa.heap.size wa wb := by rw [← hwb]; exact (Below.refl _ _).alloc (Nat.le_refl _) _
  have hbc : Below wb.heap.size wb wc := by rw [← hwc]; exact (Below.refl _ _).alloc (Nat.le_refl _) _
  have tA0 : Two wb w.heap.size (.int .i64 s1) (.slice a1 n1 c1) := Two.keep (w := wa) (by rw [← hwa]; exact Two.made _ _ _ _) hbb
  have tB0 : Two wb wa.heap.size (.int .i64 s2) (.slice a2 n2 c2) := by rw [← hwb]; exact Two.made _ _ _ _
  have hwab : w.heap.size < wa.heap.size := by rw [← hwa]; simp
  have hwbb : wa.heap.size < wb.heap.size := by rw [← hwb]; simp
  have hB := (hba.trans (hbb.mono hba.size)).trans (hbc.mono (by omega))
  have hS := two_sets (wb := wb) hwc (h1.below hB) (h2.below hB) o1 o2
  have K1 := alike_any s1 (some ⟨wb.heap.size, 0, none⟩) 2 2 _ wc hS
  have HA := hide (And.intro (tA0.keep hbc) (And.intro (tB0.keep hbc) hB))
  have HS := hide (And.intro h1 h2)
  have HO := hide (And.intro o1 o2)
  have a0 := tA0.c0
  have a1' := tA0.c1
  have b0 := tB0.c0
  have b1 := tB0.c1
  have HL1 := hide h1.len
  clear tA0 tB0 hB h1 h2 o1 o2 hba hbb hbc hS
  unfold setV
  by_cases hz : alikeE s1 [⟨s1, a1, n1, c1, x1⟩, ⟨s2, a2, n2, c2, x2⟩] = 0
  · obtain ⟨m1, m2, rfl⟩ := alike_two hz
    rw [hz] at K1
    have HK1 := hide K1
    have hnn : n1 = nW s1.toNat := by rw [← unhide HL1, MayS.len m1]
    have hnn2 : n2 = n1 := by rw [hnn, ← (unhide HS).2.len, MayS.len m2]
    subst hnn2
    have HE := hide (show leavesR jAndNot s1 x1 s1 x2 = (List.range n2).all (fun i => jAndNot (gW x1 i) (gW x2 i) == 0) by rw [leavesR, m1, m2, hnn]; simp)
    clear K1 hz m1 m2 hnn
    go_enter Tryd.func47, Tryd.ntmps47
    go_wp2_with fail
    refine (unhide HK1).mono ?_
    rintro _ wd ⟨rfl, hbd⟩
    have HA1 := hide (show Two wd w.heap.size (.int .i64 s1) (.slice a1 n2 c1) ∧ Two wd wa.heap.size (.int .i64 s1) (.slice a2 n2 c2) ∧ Below w.heap.size w wd from ⟨(unhide HA).1.keep hbd, (unhide HA).2.1.keep hbd, (unhide HA).2.2.trans (hbd.mono (unhide HA).2.2.size)⟩)
    have e1 := (unhide HA1).2.1.c1
    clear hbd HK1 HA a0 a1' b0 b1
    go_wp2_with fail
    clear e1 hwa hwb hwc
    go_loopw [19, 7, 8] (fun i _ _ wr => ∃ k : Nat, k ≤ n2 ∧ i = .int .i64 k ∧ (∀ j, j < k → jAndNot (gW x1 j) (gW x2 j) = 0) ∧ wr = wd) (fun i _ _ _ => n2 - (intOf i).toNat)
    case atStart => exact ⟨0, Nat.zero_le _, rfl, fun j hj => by omega, rfl⟩
    case round =>
      obtain ⟨k, hk, rfl, hz, rfl⟩ := hrel
      have HZ := hide hz
      clear hz
      by_cases hlt : k < n2
      · have hlt' : (k : Int) < (n2 : Int) := by omega
        obtain ⟨q1, q2, q3⟩ := unhide HA1
        obtain ⟨b1, o1, rfl, hc1⟩ := ((unhide HS).1.below q3).at (by omega)
        obtain ⟨b2, o2, rfl, hc2⟩ := ((unhide HS).2.below q3).at (by omega)
        have g1 := hc1 k hlt
        have g2 := hc2 k hlt
        have e1 := q1.c1
        have hx := gW_ok (unhide HO).1 k
        have hy := gW_ok (unhide HO).2 k
        have HG := hide (show gW x1 k = x1.getD k 0 ∧ gW x2 k = x2.getD k 0 from ⟨rfl, rfl⟩)
        unfold vU at g1 g2
        unfold gW at hx hy
        generalize x1.getD k 0 = x at *
        generalize x2.getD k 0 = y at *
        have K := andNot_fn x y wr hx hy
        obtain ⟨z, hzz⟩ : ∃ z, jAndNot x y = z := ⟨_, rfl⟩
        rw [hzz] at K
        have HK := hide K
        have HZZ := hide hzz
        clear K hzz hx hy hc1 hc2 q1 q2 q3
        by_cases hz0 : z = 0
        · subst hz0
          go_wp2_with fail
          refine (unhide HK).mono ?_
          rintro _ w' ⟨rfl, hw⟩
          obtain rfl := hw.symm
          go_wp2_with fail
          refine ⟨⟨k + 1, by omega, by go_num, fun j hj => ?_, by first | trivial | rfl⟩, by simp [intOf]; omega⟩
          by_cases e : j = k
          · subst e; rw [(unhide HG).1, (unhide HG).2]; exact unhide HZZ
          · exact unhide HZ j (by omega)
        · have hz1 : ((z : Int) == 0) = false := by simp; omega
          have hz2 : ((z : Int) != 0) = true := by simp; omega
          have HF := hide (show leavesR jAndNot s1 x1 s1 x2 = false by
            rw [unhide HE, List.all_eq_false]
            refine ⟨k, List.mem_range.2 hlt, ?_⟩
            rw [(unhide HG).1, (unhide HG).2, unhide HZZ]
            simpa using hz0)
          go_wp2_with fail
          refine (unhide HK).mono ?_
          rintro _ w' ⟨rfl, hw⟩
          obtain rfl := hw.symm
          go_wp2_with fail
          go_ret
          rw [unhide HF]
          exact ⟨rfl, (unhide HA1).2.2⟩
      · have hlt' : ¬ (k : Int) < (n2 : Int) := by omega
        have hkn : k = n2 := by omega
        subst hkn
        have HF := hide (show leavesR jAndNot s1 x1 s1 x2 = true by
          rw [unhide HE, List.all_eq_true]
          intro i hi
          rw [unhide HZ i (List.mem_range.1 hi)]; rfl)
        go_wp2_with fail
        go_ret
        rw [unhide HF]
        exact ⟨rfl, (unhide HA1).2.2⟩
  · have e0 : leavesR jAndNot s1 x1 s2 x2 = false := leaves_no (fun m1 m2 e => hz (two_alike m1 m2 e))
    rw [e0]
    have hne1 : (alikeE s1 [⟨s1, a1, n1, c1, x1⟩, ⟨s2, a2, n2, c2, x2⟩] == 0) = false := by simpa using hz
    have hne2 : (alikeE s1 [⟨s1, a1, n1, c1, x1⟩, ⟨s2, a2, n2, c2, x2⟩] != 0) = true := by simpa using hz
    generalize alikeE s1 [⟨s1, a1, n1, c1, x1⟩, ⟨s2, a2, n2, c2, x2⟩] = er at *
    have HK1 := hide K1
    clear K1 hz e0
    go_enter Tryd.func47, Tryd.ntmps47
    go_wp2_with fail
    refine (unhide HK1).mono ?_
    rintro _ wd ⟨rfl, hbd⟩
    have HB := hide ((unhide HA).2.2.trans (hbd.mono (unhide HA).2.2.size))
    clear hbd HK1 HA
    go_wp2_with fail
    go_ret
    exact ⟨rfl, unhide HB⟩
end Go.Proofs.YtbendkndnojihabDoor
