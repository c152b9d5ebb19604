/-
  bitset.pair, by andNot; Minus: contracts.
-/
import Derived.Test.YtbendkndnojihaaBp0
import Derived.Test.YtbendkndnojihaaBtm
import Derived.Test.YtbendkndnojihaaBtc
namespace Go.Proofs.Ytbendkndnojihaa
open Go.RowKit Go.Deep
set_option linter.unusedVariables false

set_option maxHeartbeats 8000000 in
/-- bitset.pair, by andNot. -/
theorem pair_andNot (s1 : Int) (a1 : Option Addr) (n1 c1 : Nat) (x1 : List Nat) (s2 : Int) (a2 : Option Addr) (n2 c2 : Nat) (x2 : List Nat) (w : World) (h1 : SlW w a1 n1 c1 x1) (h2 : SlW w a2 n2 c2 x2) (o1 : OkW x1) (o2 : OkW x2) :
    Calls Try.prog 73 #[setV s1 a1 n1 c1, setV s2 a2 n2 c2, .func (.func 64) #[] #[]] w fun r w' => ResS w w' (pairR false s1 x1 s2 x2) r := by
  obtain ⟨wa, hwa⟩ : ∃ x, w.alloc (.cells #[.int .i64 s1, .slice a1 n1 c1] 24) = x := ⟨_, rfl⟩
  obtain ⟨wb, hwb⟩ : ∃ x, wa.alloc (.cells #[.int .i64 s2, .slice a2 n2 c2] 24) = x := ⟨_, rfl⟩
  obtain ⟨wc, hwc⟩ : ∃ x, wb.alloc (.cells #[.int .i64 0, .slice none 0 0] 24) = x := ⟨_, rfl⟩
  obtain ⟨wd, hwd⟩ : ∃ x, wc.alloc (.cells #[.int .i64 s1, .slice a1 n1 c1, .int .i64 s2, .slice a2 n2 c2] 24) = x := ⟨_, rfl⟩
  obtain ⟨A0, hl1, hl2, hl3⟩ := enter2 hwa hwb hwc h1 h2
  have hbd : Below wc.heap.size wc wd := by rw [← hwd]; exact (Below.refl _ _).alloc (Nat.le_refl _) _
  have tA := A0.t w.heap.size (.int .i64 s1) (.slice a1 n1 c1) (by simp)
  have tB := A0.t wa.heap.size (.int .i64 s2) (.slice a2 n2 c2) (by simp)
  have A1 := A0.step hbd
  have hS := two_sets (wb := wc) hwd (A1.w a1 n1 c1 x1 (by simp)) (A1.w a2 n2 c2 x2 (by simp)) o1 o2
  have K1 := alike_any s1 (some ⟨wc.heap.size, 0, none⟩) 2 2 _ wd hS
  rw [alike_pair] at K1
  have HA := hide A1
  have a0 := tA.c0
  have a1' := tA.c1
  have b0 := tB.c0
  have b1 := tB.c1
  have HO := hide o2
  have HO1 := hide o1
  have HS2 := hide h2
  have HL := hide (And.intro h1.len h2.len)
  clear tA tB A0 A1 h1 h2 o1 o2 hbd hS
  unfold setV
  by_cases hz : pairE s1 x1 s2 x2 = 0
  · obtain ⟨m1, m2, rfl⟩ := pairE_zero hz
    obtain ⟨sz, rfl, hsz⟩ := fitsI_nat (MayS.fits m1)
    rw [hz] at K1
    have hE : pairR false sz x1 sz x2 = ((sz : Int), wordsL sz (fun x => mOp false (hasB (gW x1) x) (hasB (gW x2) x)), 0) := by simp [pairR, hz]
    rw [hE]
    have hn1 : n1 = nW sz := by rw [← (unhide HL).1, MayS.len m1]; simp
    have hn2 : n2 = nW sz := by rw [← (unhide HL).2, MayS.len m2]; simp
    have hle64 : nW sz ≤ 64 := by unfold nW; omega
    have HK1 := hide K1
    have HN1 := hide hn1
    have HN2 := hide hn2
    have HOk1 := hide (show ∀ i, i < nW sz → (fun i => x1.getD i 0) i < 18446744073709551616 from fun i hi => gW_ok (unhide HO1) i)
    clear K1 hz m1 m2 hE hn1 hn2
    go_enter Try.func73, Try.ntmps73
    go_wp2_with fail
    refine (unhide HK1).mono ?_
    rintro _ we ⟨rfl, hbe⟩
    have HA2 := hide ((unhide HA).step hbe)
    have tA := (unhide HA2).t w.heap.size (.int .i64 sz) (.slice a1 n1 c1) (by simp)
    have e0 := tA.c0
    have e1 := tA.c1
    have K2 := clone_any sz a1 n1 c1 x1 we ((unhide HA2).w a1 n1 c1 x1 (by simp)) hsz (unhide HN1)
    unfold setV at K2
    have HK2 := hide K2
    clear hbe HK1 HA a0 a1' b0 b1 tA K2
    go_wp2_with fail
    refine (unhide HK2).mono ?_
    rintro _ wf ⟨v, rfl, b, cb, rfl, hc1, hc2, hb1, hb2, hfn, hbel⟩
    unfold setV
    obtain ⟨wg, hwg⟩ : ∃ x, wf.alloc (.cells #[.int .i64 sz, .slice (some ⟨b, 0, none⟩) (nW sz) cb] 24) = x := ⟨_, rfl⟩
    have hbg : Below wf.heap.size wf wg := by rw [← hwg]; exact (Below.refl _ _).alloc (Nat.le_refl _) _
    have tZ : Two wg wf.heap.size (.int .i64 sz) (.slice (some ⟨b, 0, none⟩) (nW sz) cb) := by rw [← hwg]; exact Two.made _ _ _ _
    have A3 := ((unhide HA2).step hbel).step hbg
    have hwe := (unhide HA2).bel.size
    have hRwe := ((unhide HA2).t wb.heap.size (.int .i64 0) (.slice none 0 0) (by simp)).lt
    have K3 := join_andNot sz sz b (nW sz) cb (fun i => x1.getD i 0) a2 n2 c2 x2 wg (hfn.below hbg) (unhide HOk1) (A3.w a2 n2 c2 x2 (by simp)) (unhide HO) (Nat.le_of_eq (unhide HN2)) hle64 (fun h0 x hx => by
      obtain ⟨b9, o9, e9, k9⟩ := SlG.at (unhide HS2) h0
      rw [e9] at hx
      cases hx
      have := World.block_lt_of_cell? _ _ (k9 0 h0)
      show b9 ≠ b
      have h9 : b9 < w.heap.size := this
      omega) hc2 hc1
    unfold setV at K3
    have HK3 := hide K3
    have HT := hide (show RgLp w wg wb.heap.size wf.heap.size b cb (nW sz) sz (hasB (gW x1)) from
      ⟨A3.t wb.heap.size (.int .i64 0) (.slice none 0 0) (by simp), tZ, ⟨_, hfn.below hbg, RepB.self (unhide HOk1)⟩, A3.bel⟩)
    have HRp := hide (RepB.self (unhide HOk1))
    have tB := A3.t wa.heap.size (.int .i64 sz) (.slice a2 n2 c2) (by simp)
    have z0 := tZ.c0
    have z1 := tZ.c1
    have y0 := tB.c0
    have y1 := tB.c1
    have hcb : cb ≤ 9223372036854775807 := by unfold maxLen at hc2; omega
    have HC := hide (And.intro hc1 hc2)
    have hbR : wb.heap.size ≠ b := by omega
    have hbZ : wf.heap.size ≠ b := by omega
    have hbw : w.heap.size ≤ b := by omega
    clear tZ tB A3 hbg hfn hbel hc1 hc2 K3 HA2 e0 e1 HK2
    go_wp2_with fail
    refine (unhide HK3).mono ?_
    rintro _ wh ⟨rfl, hf5, hc5⟩
    have HS := hide (show RgLp w wh wb.heap.size wf.heap.size b cb (nW sz) sz (fun x => mOp false (hasB (gW x1) x) (hasB (gW x2) x)) from by
      rw [unhide HN2] at hf5
      exact (unhide HT).chg hbR hbZ hbw (jn_rep (op := mOp false) (fun x y hx hy => andNot_m x y hx hy) (unhide HRp) ((unhide HL).2.trans (unhide HN2)) (unhide HO)) hf5 hc5)
    have hst := unhide HS
    have q0 := hst.two.c0
    have q1 := hst.two.c1
    have r0 := hst.res.c0
    have r1 := hst.res.c1
    have f0 := hst.res.f0
    have f1 := hst.res.f1
    have T3 := hst.res.set (.int .i64 sz) (.slice (some ⟨b, 0, none⟩) (nW sz) cb)
    have p0 := T3.c0
    have p1 := T3.c1
    clear hst T3 hf5 hc5 HK3 z0 z1 y0 y1
    go_wp2_with fail
    refine bodyPost_ret (by simp [results, Try.results73, go_sem, p0, p1]; try rfl) rfl ?_
    obtain ⟨f, hfn, hrep⟩ := (unhide HS).rep
    exact resS_set (hfn.two _ _ _ hbR) hrep (unhide HC).1 (unhide HC).2 (two_below (unhide HS).bel _ (by omega) _ _)
  · have hE : pairR false s1 x1 s2 x2 = (0, [], pairE s1 x1 s2 x2) := by simp [pairR, hz]
    rw [hE]
    have hne1 : (pairE s1 x1 s2 x2 == 0) = false := by simpa using hz
    have hne2 : (pairE s1 x1 s2 x2 != 0) = true := by simpa using hz
    generalize pairE s1 x1 s2 x2 = er at *
    have HK1 := hide K1
    clear K1 hz hE
    go_enter Try.func73, Try.ntmps73
    go_wp2_with fail
    refine (unhide HK1).mono ?_
    rintro _ we ⟨rfl, hbe⟩
    have A2 := (unhide HA).step hbe
    have tR := A2.t wb.heap.size (.int .i64 0) (.slice none 0 0) (by simp)
    have r0 := tR.c0
    have r1 := tR.c1
    have f0 := tR.f0
    have f1 := tR.f1
    have T3 := tR.set (.int .i64 0) (.slice none 0 0)
    have p0 := T3.c0
    have p1 := T3.c1
    have HB := hide (two_below A2.bel wb.heap.size (by omega) (.int .i64 0) (.slice none 0 0))
    clear tR T3 hbe HK1 A2 HA
    go_wp2_with fail
    refine bodyPost_ret (by simp [results, Try.results73, go_sem, p0, p1]; try rfl) rfl ?_
    exact resS_zero (unhide HB)

set_option maxHeartbeats 2000000 in
/-- bitset.Minus. -/
theorem minus_any (s1 : Int) (a1 : Option Addr) (n1 c1 : Nat) (x1 : List Nat) (s2 : Int) (a2 : Option Addr) (n2 c2 : Nat) (x2 : List Nat) (w : World) (h1 : SlW w a1 n1 c1 x1) (h2 : SlW w a2 n2 c2 x2) (o1 : OkW x1) (o2 : OkW x2) :
    Calls Try.prog 39 #[setV s1 a1 n1 c1, setV s2 a2 n2 c2] w fun r w' => ResS w w' (pairR false s1 x1 s2 x2) r := by
  obtain ⟨wa, hwa⟩ : ∃ x, w.alloc (.cells #[.int .i64 s1, .slice a1 n1 c1] 24) = x := ⟨_, rfl⟩
  obtain ⟨wb, hwb⟩ : ∃ x, wa.alloc (.cells #[.int .i64 s2, .slice a2 n2 c2] 24) = x := ⟨_, rfl⟩
  obtain ⟨wc, hwc⟩ : ∃ x, wb.alloc (.cells #[.int .i64 0, .slice none 0 0] 24) = x := ⟨_, rfl⟩
  obtain ⟨A0, hl1, hl2, hl3⟩ := enter2 hwa hwb hwc h1 h2
  have tA := A0.t w.heap.size (.int .i64 s1) (.slice a1 n1 c1) (by simp)
  have tB := A0.t wa.heap.size (.int .i64 s2) (.slice a2 n2 c2) (by simp)
  have K := pair_andNot s1 a1 n1 c1 x1 s2 a2 n2 c2 x2 wc (A0.w a1 n1 c1 x1 (by simp)) (A0.w a2 n2 c2 x2 (by simp)) o1 o2
  generalize pairR false s1 x1 s2 x2 = rr at *
  obtain ⟨rs, rx, re⟩ := rr
  unfold setV at K ⊢
  have HK := hide K
  have HA := hide A0
  have a0 := tA.c0
  have a1' := tA.c1
  have b0 := tB.c0
  have b1 := tB.c1
  clear K tA tB A0 h1 h2 o1 o2
  go_enter Try.func39, Try.ntmps39
  go_wp2_with fail
  refine (unhide HK).mono ?_
  rintro _ w1 ⟨a3, n3, c3, rfl, hs, hb⟩
  have A2 := (unhide HA).step hb
  have tR := A2.t wb.heap.size (.int .i64 0) (.slice none 0 0) (by simp)
  have r0 := tR.c0
  have r1 := tR.c1
  have f0 := tR.f0
  have f1 := tR.f1
  have T3 := tR.set (.int .i64 rs) (.slice a3 n3 c3)
  have p0 := T3.c0
  have p1 := T3.c1
  have HE := hide (And.intro (SlW.two hs tR (.int .i64 rs) (.slice a3 n3 c3)) (two_below A2.bel wb.heap.size (by omega) (.int .i64 rs) (.slice a3 n3 c3)))
  clear tR T3 hs hb HK A2 HA
  unfold setV
  go_wp2_with fail
  refine bodyPost_ret (by simp [results, Try.results39, go_sem, p0, p1]; try rfl) rfl ?_
  exact ⟨a3, n3, c3, rfl, (unhide HE).1, (unhide HE).2⟩
end Go.Proofs.Ytbendkndnojihaa
