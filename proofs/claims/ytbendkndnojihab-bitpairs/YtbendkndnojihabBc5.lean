/-
  bitset.Compare, every case; sloperef3.Compare: contracts.
-/
import Derived.Test.YtbendkndnojihabBc4
namespace Go.Proofs.Ytbendkndnojihab
open Go.RowKit Go.Deep Go.Shelf
set_option linter.unusedVariables false
attribute [local go_sem] Oper.semAt_some

set_option maxRecDepth 100000 in
set_option maxHeartbeats 4000000 in
/-- bitset.Compare. -/
theorem compare_any (s1 : Int) (a1 : Option Addr) (n1 c1 : Nat) (x1 : List Nat) (s2 : Int) (a2 : Option Addr) (n2 c2 : Nat) (x2 : List Nat) (w : World) (h1 : SlW w a1 n1 c1 x1) (h2 : SlW w a2 n2 c2 x2) (o1 : OkW x1) (o2 : OkW x2) :
    Calls Try.prog 30 #[setV s1 a1 n1 c1, setV s2 a2 n2 c2] w fun r w' => r = .returned (.int .i64 (cmpR s1 x1 s2 x2)) ∧ Below w.heap.size w w' := by
  by_cases hall : MayS s1 x1 = true ∧ MayS s2 x2 = true ∧ s1 = s2
  · obtain ⟨m1, m2, rfl⟩ := hall
    have hn : n2 = n1 := by rw [← h1.len, ← h2.len, MayS.len m1, MayS.len m2]
    subst hn
    exact compare_same s1 a1 n2 c1 x1 a2 c2 x2 w h1 h2 o1 o2 m1 m2
  · obtain ⟨wa, hwa⟩ : ∃ x, w.alloc (.cells #[.int .i64 s1, .slice a1 n1 c1] 26) = x := ⟨_, rfl⟩
    obtain ⟨wb, hwb⟩ : ∃ x, wa.alloc (.cells #[.int .i64 s2, .slice a2 n2 c2] 26) = x := ⟨_, rfl⟩
    obtain ⟨wc, hwc⟩ : ∃ x, wb.alloc (.cells #[.int .i64 0] 3) = x := ⟨_, rfl⟩
    have hba : Below w.heap.size w wa := by rw [← hwa]; exact (Below.refl _ _).alloc (Nat.le_refl _) _
    have hbb : Below wa.heap.size wa wb := by rw [← hwb]; exact (Below.refl _ _).alloc (Nat.le_refl _) _
    have hbc : Below wb.heap.size wb wc := by rw [← hwc]; exact (Below.refl _ _).alloc (Nat.le_refl _) _
    have tA : Two wc w.heap.size (.int .i64 s1) (.slice a1 n1 c1) := Two.keep (w := wb) (Two.keep (w := wa) (by rw [← hwa]; exact Two.made _ _ _ _) hbb) hbc
    have tB : Two wc wa.heap.size (.int .i64 s2) (.slice a2 n2 c2) := Two.keep (w := wb) (by rw [← hwb]; exact Two.made _ _ _ _) hbc
    have tR : wc.cell? ⟨wb.heap.size, 0, none⟩ = some (.int .i64 0) ∧ wc.frozen? ⟨wb.heap.size, 0, none⟩ = false := by rw [← hwc]; simp
    have hwab : w.heap.size < wa.heap.size := by rw [← hwa]; simp
    have hwbb : wa.heap.size < wb.heap.size := by rw [← hwb]; simp
    have hB := (hba.trans (hbb.mono hba.size)).trans (hbc.mono (by omega))
    have K1 := may_any s1 a1 n1 c1 x1 wc (h1.below hB) o1
    have HA := hide (And.intro tA (And.intro tB (And.intro tR hB)))
    have HS := hide h2
    have HO := hide o2
    have a0 := tA.c0
    have a1' := tA.c1
    unfold setV at K1 ⊢
    cases m1 : MayS s1 x1
    · rw [m1] at K1
      have e0 : cmpR s1 x1 s2 x2 = 0 := cmpR_no1 m1
      rw [e0]
      have HK1 := hide K1
      clear K1 tA tB tR hB h1 h2 o1 o2 hba hbb hbc m1 hall e0
      go_enter Try.func30, Try.ntmps30
      go_wp2_with fail
      refine (unhide HK1).mono ?_
      rintro _ wd ⟨rfl, hbd⟩
      obtain ⟨q1, q2, q3, q4⟩ := unhide HA
      have hl := World.block_lt_of_cell? _ _ q3.1
      have r0 := below_cell hbd q3.1
      have r1 : wd.frozen? ⟨wb.heap.size, 0, none⟩ = false := by rw [hbd.frozen hl]; exact q3.2
      have HB := hide ((q4.trans (hbd.mono q4.size)).setCell (p := ⟨wb.heap.size, 0, none⟩) (by show w.heap.size ≤ wb.heap.size; omega) (.int .i64 0))
      have p0 := World.cell?_setCell_same' wd ⟨wb.heap.size, 0, none⟩ (.int .i64 0) (by rw [r0]; rfl)
      clear q1 q2 q3 q4 hbd HK1 HA
      go_wp2_with fail
      refine bodyPost_ret (by simp [results, Try.results30, go_sem, p0]; try rfl) rfl ?_
      exact ⟨rfl, unhide HB⟩
    · rw [m1] at K1
      have HK1 := hide K1
      have HM1 := hide m1
      clear K1 tA tB tR hB h1 h2 o1 o2 hba hbb hbc m1
      have HAll := hide hall
      clear hall
      cases m2 : MayS s2 x2
      · have e0 : cmpR s1 x1 s2 x2 = 0 := cmpR_no2 m2
        rw [e0]
        have HM2 := hide m2
        clear m2 e0
        go_enter Try.func30, Try.ntmps30
        go_wp2_with fail
        refine (unhide HK1).mono ?_
        rintro _ wd ⟨rfl, hbd⟩
        obtain ⟨q1, q2, q3, q4⟩ := unhide HA
        have hl := World.block_lt_of_cell? _ _ q3.1
        have HR := hide (And.intro (below_cell hbd q3.1) (And.intro (show wd.frozen? ⟨wb.heap.size, 0, none⟩ = false by rw [hbd.frozen hl]; exact q3.2) (And.intro (q4.trans (hbd.mono q4.size)) (Nat.lt_of_lt_of_le hl hbd.size))))
        have K2 := may_any s2 a2 n2 c2 x2 wd (((unhide HS).below q4).below hbd) (unhide HO)
        rw [unhide HM2] at K2
        unfold setV at K2
        have HK2 := hide K2
        have b0 := (q2.keep hbd).c0
        have b1 := (q2.keep hbd).c1
        clear q1 q2 q3 q4 hbd HK1 HA K2 hl a0 a1'
        go_wp2_with fail
        refine (unhide HK2).mono ?_
        rintro _ we ⟨rfl, hbe⟩
        obtain ⟨q1, q2, q3, q4⟩ := unhide HR
        have r0 := below_cell hbe q1
        have r1 : we.frozen? ⟨wb.heap.size, 0, none⟩ = false := by rw [hbe.frozen q4]; exact q2
        have HB := hide ((q3.trans (hbe.mono q3.size)).setCell (p := ⟨wb.heap.size, 0, none⟩) (by show w.heap.size ≤ wb.heap.size; omega) (.int .i64 0))
        have p0 := World.cell?_setCell_same' we ⟨wb.heap.size, 0, none⟩ (.int .i64 0) (by rw [r0]; rfl)
        clear q1 q2 q3 q4 hbe HK2 HR
        go_wp2_with fail
        refine bodyPost_ret (by simp [results, Try.results30, go_sem, p0]; try rfl) rfl ?_
        exact ⟨rfl, unhide HB⟩
      · have hne : s1 ≠ s2 := fun e => unhide HAll ⟨unhide HM1, m2, e⟩
        have hne1 : (s1 == s2) = false := by simpa using hne
        have hne2 : (s1 != s2) = true := by simpa using hne
        rw [cmpR_off (unhide HM1) m2 hne]
        have HM2 := hide m2
        clear m2 hne
        go_enter Try.func30, Try.ntmps30
        go_wp2_with fail
        refine (unhide HK1).mono ?_
        rintro _ wd ⟨rfl, hbd⟩
        obtain ⟨q1, q2, q3, q4⟩ := unhide HA
        have hl := World.block_lt_of_cell? _ _ q3.1
        have HR := hide (And.intro (below_cell hbd q3.1) (And.intro (show wd.frozen? ⟨wb.heap.size, 0, none⟩ = false by rw [hbd.frozen hl]; exact q3.2) (And.intro (q4.trans (hbd.mono q4.size)) (And.intro (Nat.lt_of_lt_of_le hl hbd.size) (And.intro (q1.keep hbd) (q2.keep hbd))))))
        have K2 := may_any s2 a2 n2 c2 x2 wd (((unhide HS).below q4).below hbd) (unhide HO)
        rw [unhide HM2] at K2
        unfold setV at K2
        have HK2 := hide K2
        have b0 := (q2.keep hbd).c0
        have b1 := (q2.keep hbd).c1
        clear q1 q2 q3 q4 hbd HK1 HA K2 hl a0 a1'
        go_wp2_with fail
        refine (unhide HK2).mono ?_
        rintro _ we ⟨rfl, hbe⟩
        obtain ⟨q1, q2, q3, q4, q5, q6⟩ := unhide HR
        have r0 := below_cell hbe q1
        have r1 : we.frozen? ⟨wb.heap.size, 0, none⟩ = false := by rw [hbe.frozen q4]; exact q2
        have t5 := q5.keep hbe
        have t6 := q6.keep hbe
        have u0 := t5.c0
        have v0 := t6.c0
        have HB := hide ((q3.trans (hbe.mono q3.size)).setCell (p := ⟨wb.heap.size, 0, none⟩) (by show w.heap.size ≤ wb.heap.size; omega) (.int .i64 (cmpI s1 s2)))
        have p0 := World.cell?_setCell_same' we ⟨wb.heap.size, 0, none⟩ (.int .i64 (cmpI s1 s2)) (by rw [r0]; rfl)
        clear q1 q2 q3 q4 q5 q6 t5 t6 hbe HK2 HR b0 b1
        go_wp2_with fail
        refine (cmp_int s1 s2 we).mono ?_
        rintro _ w' ⟨rfl, hw⟩
        obtain rfl := hw.symm
        go_wp2_with fail
        refine bodyPost_ret (by simp [results, Try.results30, go_sem, p0]; try rfl) rfl ?_
        exact ⟨rfl, unhide HB⟩
end Go.Proofs.Ytbendkndnojihab
