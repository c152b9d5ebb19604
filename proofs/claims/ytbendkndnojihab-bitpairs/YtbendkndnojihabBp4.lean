/-
  sloperef3.Minus: its contract.
-/
import Derived.Test.YtbendkndnojihabBp0
import Derived.Test.YtbendkndnojihabBt6
namespace Go.Proofs.Ytbendkndnojihab
open Go.RowKit Go.Deep
set_option linter.unusedVariables false

set_option maxHeartbeats 4000000 in
/-- sloperef3.Minus, refused. -/
theorem rminus_no (s1 : Int) (a1 : Option Addr) (n1 c1 : Nat) (x1 : List Nat) (s2 : Int) (a2 : Option Addr) (n2 c2 : Nat) (x2 : List Nat) (both : Bool) (w : World) (h1 : SlW w a1 n1 c1 x1) (h2 : SlW w a2 n2 c2 x2) (hz : pairE s1 x1 s2 x2 ≠ 0) :
    Calls Try.prog 27 #[setV s1 a1 n1 c1, setV s2 a2 n2 c2, .bool both] w fun r w' => ResS w w' (0, [], pairE s1 x1 s2 x2) r := by
  obtain ⟨wa, hwa⟩ : ∃ x, w.alloc (.cells #[.int .i64 s1, .slice a1 n1 c1] 26) = x := ⟨_, rfl⟩
  obtain ⟨wb, hwb⟩ : ∃ x, wa.alloc (.cells #[.int .i64 s2, .slice a2 n2 c2] 26) = x := ⟨_, rfl⟩
  obtain ⟨wc, hwc⟩ : ∃ x, wb.alloc (.cells #[.int .i64 0, .slice none 0 0] 26) = x := ⟨_, rfl⟩
  obtain ⟨A0, hl1, hl2, hl3⟩ := enter2 hwa hwb hwc h1 h2
  have tA := A0.t w.heap.size (.int .i64 s1) (.slice a1 n1 c1) (by simp)
  have K1 := rmay_any s1 a1 n1 c1 x1 wc (A0.w a1 n1 c1 x1 (by simp))
  have HA := hide A0
  have a0 := tA.c0
  have a1' := tA.c1
  clear tA A0 h1 h2
  unfold setV at K1 ⊢
  cases m1 : MayS s1 x1
  · rw [m1] at K1
    have hE : pairE s1 x1 s2 x2 = 61 := by simp [pairE, m1]
    rw [hE]
    have HK1 := hide K1
    clear K1 m1 hE hz
    go_enter Try.func27, Try.ntmps27
    go_wp2_with fail
    refine (unhide HK1).mono ?_
    rintro _ wd ⟨rfl, hbd⟩
    have HA1 := hide ((unhide HA).step hbd)
    clear hbd HK1 HA a0 a1'
    go_wp2_with fail
    refine (none_any _).mono ?_
    rintro _ we ⟨rfl, hbe⟩
    have A2 := (unhide HA1).step hbe
    have tR := A2.t wb.heap.size (.int .i64 0) (.slice none 0 0) (by simp)
    have r0 := tR.c0
    have r1 := tR.c1
    have f0 := tR.f0
    have f1 := tR.f1
    have T3 := tR.set (.int .i64 0) (.slice none 0 0)
    have p0 := T3.c0
    have p1 := T3.c1
    have HB := hide (two_below A2.bel wb.heap.size (by omega) (.int .i64 0) (.slice none 0 0))
    clear tR T3 hbe A2 HA1
    go_wp2_with fail
    refine bodyPost_ret (by simp [results, Try.results27, go_sem, p0, p1]; try rfl) rfl ?_
    exact resS_zero (unhide HB)
  · rw [m1] at K1
    have HK1 := hide K1
    clear K1
    cases m2 : MayS s2 x2
    · have hE : pairE s1 x1 s2 x2 = 61 := by simp [pairE, m1, m2]
      rw [hE]
      have HM2 := hide m2
      clear m1 hE hz m2
      go_enter Try.func27, Try.ntmps27
      go_wp2_with fail
      refine (unhide HK1).mono ?_
      rintro _ wd ⟨rfl, hbd⟩
      have HA1 := hide ((unhide HA).step hbd)
      have tB := (unhide HA1).t wa.heap.size (.int .i64 s2) (.slice a2 n2 c2) (by simp)
      have K2 := rmay_any s2 a2 n2 c2 x2 wd ((unhide HA1).w a2 n2 c2 x2 (by simp))
      rw [unhide HM2] at K2
      unfold setV at K2
      have HK2 := hide K2
      have b0 := tB.c0
      have b1 := tB.c1
      clear hbd HK1 HA a0 a1' K2 tB
      go_wp2_with fail
      refine (unhide HK2).mono ?_
      rintro _ wd2 ⟨rfl, hbd2⟩
      have HA2 := hide ((unhide HA1).step hbd2)
      clear hbd2 HK2 HA1 b0 b1
      go_wp2_with fail
      refine (none_any _).mono ?_
      rintro _ we ⟨rfl, hbe⟩
      have A2 := (unhide HA2).step hbe
      have tR := A2.t wb.heap.size (.int .i64 0) (.slice none 0 0) (by simp)
      have r0 := tR.c0
      have r1 := tR.c1
      have f0 := tR.f0
      have f1 := tR.f1
      have T3 := tR.set (.int .i64 0) (.slice none 0 0)
      have p0 := T3.c0
      have p1 := T3.c1
      have HB := hide (two_below A2.bel wb.heap.size (by omega) (.int .i64 0) (.slice none 0 0))
      clear tR T3 hbe A2 HA2
      go_wp2_with fail
      refine bodyPost_ret (by simp [results, Try.results27, go_sem, p0, p1]; try rfl) rfl ?_
      exact resS_zero (unhide HB)
    · have hne : s1 ≠ s2 := fun e => hz (by unfold pairE; rw [m1, m2]; simp [e])
      have hne1 : (s1 == s2) = false := by simpa using hne
      have hne2 : (s1 != s2) = true := by simpa using hne
      have hE : pairE s1 x1 s2 x2 = 60 := by simp [pairE, m1, m2, hne]
      rw [hE]
      have HM2 := hide m2
      clear m1 hE hz m2 hne
      go_enter Try.func27, Try.ntmps27
      go_wp2_with fail
      refine (unhide HK1).mono ?_
      rintro _ wd ⟨rfl, hbd⟩
      have HA1 := hide ((unhide HA).step hbd)
      have tB := (unhide HA1).t wa.heap.size (.int .i64 s2) (.slice a2 n2 c2) (by simp)
      have K2 := rmay_any s2 a2 n2 c2 x2 wd ((unhide HA1).w a2 n2 c2 x2 (by simp))
      rw [unhide HM2] at K2
      unfold setV at K2
      have HK2 := hide K2
      have b0 := tB.c0
      have b1 := tB.c1
      clear hbd HK1 HA a0 a1' K2 tB
      go_wp2_with fail
      refine (unhide HK2).mono ?_
      rintro _ wd2 ⟨rfl, hbd2⟩
      have HA2 := hide ((unhide HA1).step hbd2)
      have e0 := ((unhide HA2).t w.heap.size (.int .i64 s1) (.slice a1 n1 c1) (by simp)).c0
      have e1 := ((unhide HA2).t wa.heap.size (.int .i64 s2) (.slice a2 n2 c2) (by simp)).c0
      clear hbd2 HK2 HA1 b0 b1
      go_wp2_with fail
      refine (none_any _).mono ?_
      rintro _ we ⟨rfl, hbe⟩
      have A2 := (unhide HA2).step hbe
      have tR := A2.t wb.heap.size (.int .i64 0) (.slice none 0 0) (by simp)
      have r0 := tR.c0
      have r1 := tR.c1
      have f0 := tR.f0
      have f1 := tR.f1
      have T3 := tR.set (.int .i64 0) (.slice none 0 0)
      have p0 := T3.c0
      have p1 := T3.c1
      have HB := hide (two_below A2.bel wb.heap.size (by omega) (.int .i64 0) (.slice none 0 0))
      clear tR T3 hbe A2 HA2
      go_wp2_with fail
      refine bodyPost_ret (by simp [results, Try.results27, go_sem, p0, p1]; try rfl) rfl ?_
      exact resS_zero (unhide HB)

set_option maxHeartbeats 8000000 in
/-- sloperef3.Minus. -/
theorem rminus_any (s1 : Int) (a1 : Option Addr) (n1 c1 : Nat) (x1 : List Nat) (s2 : Int) (a2 : Option Addr) (n2 c2 : Nat) (x2 : List Nat) (both : Bool) (w : World) (h1 : SlW w a1 n1 c1 x1) (h2 : SlW w a2 n2 c2 x2) :
    Calls Try.prog 27 #[setV s1 a1 n1 c1, setV s2 a2 n2 c2, .bool both] w fun r w' => ResS w w' (pairR both s1 x1 s2 x2) r := by
  by_cases hz : pairE s1 x1 s2 x2 = 0
  · obtain ⟨m1, m2, rfl⟩ := pairE_zero hz
    obtain ⟨sz, rfl, hsz⟩ := fitsI_nat (MayS.fits m1)
    have hE : pairR both sz x1 sz x2 = ((sz : Int), wordsL sz (fun x => mOp both (hasB (gW x1) x) (hasB (gW x2) x)), 0) := by simp [pairR, hz]
    rw [hE]
    obtain ⟨wa, hwa⟩ : ∃ x, w.alloc (.cells #[.int .i64 (sz : Int), .slice a1 n1 c1] 26) = x := ⟨_, rfl⟩
    obtain ⟨wb, hwb⟩ : ∃ x, wa.alloc (.cells #[.int .i64 (sz : Int), .slice a2 n2 c2] 26) = x := ⟨_, rfl⟩
    obtain ⟨wc, hwc⟩ : ∃ x, wb.alloc (.cells #[.int .i64 0, .slice none 0 0] 26) = x := ⟨_, rfl⟩
    obtain ⟨A0, hl1, hl2, hl3⟩ := enter2 hwa hwb hwc h1 h2
    have tA := A0.t w.heap.size (.int .i64 sz) (.slice a1 n1 c1) (by simp)
    have K1 := rmay_any sz a1 n1 c1 x1 wc (A0.w a1 n1 c1 x1 (by simp))
    rw [m1] at K1
    have HM1 := hide m1
    have HM2 := hide m2
    have HA := hide A0
    have a0 := tA.c0
    have a1' := tA.c1
    have HQ1 := hide (show ∀ k, k < sz → k / 64 < n1 from fun k hk => by rw [← h1.len, MayS.len m1]; unfold nW; simp; omega)
    have HQ2 := hide (show ∀ k, k < sz → k / 64 < n2 from fun k hk => by rw [← h2.len, MayS.len m2]; unfold nW; simp; omega)
    have hm := make_bools sz (by omega)
    unfold setV at K1 ⊢
    have HK1 := hide K1
    clear tA A0 h1 h2 K1 m1 m2 hE hz
    go_enter Try.func27, Try.ntmps27
    go_wp2_with fail
    refine (unhide HK1).mono ?_
    rintro _ wd ⟨rfl, hbd⟩
    have HA1 := hide ((unhide HA).step hbd)
    have tB := (unhide HA1).t wa.heap.size (.int .i64 sz) (.slice a2 n2 c2) (by simp)
    have K2 := rmay_any sz a2 n2 c2 x2 wd ((unhide HA1).w a2 n2 c2 x2 (by simp))
    rw [unhide HM2] at K2
    unfold setV at K2
    have HK2 := hide K2
    have b0 := tB.c0
    have b1 := tB.c1
    clear hbd HK1 HA a0 a1' K2 tB
    go_wp2_with fail
    refine (unhide HK2).mono ?_
    rintro _ w1 ⟨rfl, hb1⟩
    have HA2 := hide ((unhide HA1).step hb1)
    have e0 := ((unhide HA2).t w.heap.size (.int .i64 sz) (.slice a1 n1 c1) (by simp)).c0
    have e1 := ((unhide HA2).t wa.heap.size (.int .i64 sz) (.slice a2 n2 c2) (by simp)).c0
    clear hb1 HK2 HA1 b0 b1 hwa hwb hwc
    go_wp2_with fail
    have HT := hide (Ar.made w1 sz)
    generalize w1.alloc (.cells (madeCells #[.bool false] sz) 4) = wm at *
    clear e0 e1
    go_loopw [9, 10, 11] (fun i _ _ wr => ∃ k : Nat, k ≤ sz ∧ i = .int .i64 k ∧ Ar w1 wr sz (fun e => decide (e < k) && mOp both (hasB (gW x1) e) (hasB (gW x2) e))) (fun i _ _ _ => sz - (intOf i).toNat)
    case atStart => exact ⟨0, Nat.zero_le _, rfl, (unhide HT).congr (fun e _ => by simp)⟩
    case round =>
      obtain ⟨k, hk, rfl, hst⟩ := hrel
      have HS := hide hst
      have HA3 := hide ((unhide HA2).step hst.bel)
      have tA := (unhide HA3).t w.heap.size (.int .i64 sz) (.slice a1 n1 c1) (by simp)
      have e0 := tA.c0
      have e1 := tA.c1
      clear tA hst
      by_cases hlt : k < sz
      · have hlt' : (k : Int) < (sz : Int) := by omega
        have K := in_any sz a1 n1 c1 x1 k wr ((unhide HA3).w a1 n1 c1 x1 (by simp)) (unhide HQ1 k hlt) (by omega)
        unfold setV at K
        have HX := hide (show hasB (fun i => x1.getD i 0) k = hasB (gW x1) k from rfl)
        generalize hasB (fun i => x1.getD i 0) k = v1 at *
        have HK := hide K
        clear K
        go_wp2_with fail
        refine (unhide HK).mono ?_
        rintro _ w2 ⟨rfl, hb2⟩
        have HS2 := hide ((unhide HS).step hb2)
        have HA4 := hide ((unhide HA3).step hb2)
        have tB := (unhide HA4).t wa.heap.size (.int .i64 sz) (.slice a2 n2 c2) (by simp)
        have g0 := tB.c0
        have g1 := tB.c1
        have K := in_any sz a2 n2 c2 x2 k w2 ((unhide HA4).w a2 n2 c2 x2 (by simp)) (unhide HQ2 k hlt) (by omega)
        unfold setV at K
        have HY := hide (show hasB (fun i => x2.getD i 0) k = hasB (gW x2) k from rfl)
        generalize hasB (fun i => x2.getD i 0) k = v2 at *
        have HK2 := hide K
        clear K tB hb2 HK e0 e1
        go_wp2_with fail
        refine (unhide HK2).mono ?_
        rintro _ w3 ⟨rfl, hb3⟩
        have hst3 := (unhide HS2).step hb3
        have i1 := (hst3.cell hlt).1
        have i2 := (hst3.cell hlt).2
        generalize (decide (k < k) && mOp both (hasB (gW x1) k) (hasB (gW x2) k)) = old at i1
        have HS3 := hide (fun v (hv : v = mOp both v1 v2) => hst3.next hlt v (by rw [hv, unhide HX, unhide HY]))
        clear hb3 hst3 HK2 g0 g1 HS2 HA4
        cases v1 <;> cases v2 <;> cases both
        all_goals
          go_wp2_with fail
          exact ⟨⟨k + 1, by omega, by go_num, unhide HS3 _ rfl⟩, by simp [intOf]; omega⟩
      · have hlt' : ¬ (k : Int) < (sz : Int) := by omega
        have hkn : k = sz := by omega
        subst hkn
        have HO := hide (of_any (some ⟨w1.heap.size, 0, none⟩) k k _ wr ((unhide HS).sl hsz) hsz)
        go_wp2_with fail
        refine (unhide HO).mono ?_
        rintro _ w2 ⟨_, rfl, a3, n3, c3, rfl, hs2, hn2, hb2⟩
        have tR := ((unhide HA3).step hb2).t wb.heap.size (.int .i64 0) (.slice none 0 0) (by simp)
        have t0 := tR.c0
        have t1 := tR.c1
        have f0 := tR.f0
        have f1 := tR.f1
        have T3 := tR.set (.int .i64 k) (.slice a3 n3 c3)
        have p0 := T3.c0
        have p1 := T3.c1
        have HS2 := hide hs2
        have HB2 := hide hb2
        clear tR T3 hb2 hs2 HO hn2 e0 e1
        unfold setV
        go_wp2_with fail
        refine bodyPost_ret (by simp [results, Try.results27, go_sem, p0, p1]; try rfl) rfl ?_
        refine (unhide HS).done (unhide HA2).bel ((unhide HA2).t wb.heap.size (.int .i64 0) (.slice none 0 0) (by simp)) (by omega) (unhide HS2) (unhide HB2) (fun e he => ?_)
        by_cases hek : e < k
        · simp [hek]
        · have z1 := MayS.zero (unhide HM1) e (by simpa using hek) (by rw [MayS.len (unhide HM1)]; simpa using he)
          have z2 := MayS.zero (unhide HM2) e (by simpa using hek) (by rw [MayS.len (unhide HM2)]; simpa using he)
          have y1 : hasB (gW x1) e = false := z1
          have y2 : hasB (gW x2) e = false := z2
          rw [y1, y2]
          simp [hek, mOp]
  · have hE : pairR both s1 x1 s2 x2 = (0, [], pairE s1 x1 s2 x2) := by simp [pairR, hz]
    rw [hE]
    exact rminus_no s1 a1 n1 c1 x1 s2 a2 n2 c2 x2 both w h1 h2 hz
end Go.Proofs.Ytbendkndnojihab
