/-
  bitset.Rest, sloperef3.Rest: contracts.
-/
import Derived.Test.YtbendkndnojihabBp0
import Derived.Test.YtbendkndnojihabBtr
import Derived.Test.YtbendkndnojihabBt6
namespace Go.Proofs.Ytbendkndnojihab
open Go.RowKit Go.Deep
set_option linter.unusedVariables false

def restR (s : Int) (x : List Nat) : Int × List Nat × Int := if MayS s x then (s, wordsL s.toNat (fun e => decide (e < s.toNat) && !hasB (gW x) e), 0) else (0, [], 61)
theorem rest_joined (s : Int) (a : Option Addr) (n c : Nat) (x : List Nat) : joinedR op_andNot true s [⟨s, a, n, c, x⟩] = restR s x := by
  unfold joinedR restR
  cases h : MayS s x
  · have : alikeE s [⟨s, a, n, c, x⟩] = 61 := by simp [alikeE, notMay, h]
    rw [this]; simp
  · have : alikeE s [⟨s, a, n, c, x⟩] = 0 := by simp [alikeE, notMay, offS, h, MayS.fits h]
    rw [this]
    simp only [if_true]
    congr 2

set_option maxHeartbeats 2000000 in
/-- bitset.Rest. -/
theorem rest_any (s : Int) (a : Option Addr) (n c : Nat) (x : List Nat) (w : World) (h : SlW w a n c x) (o : OkW x) :
    Calls Try.prog 15 #[setV s a n c] w fun r w' => ResS w w' (restR s x) r := by
  obtain ⟨wa, hwa⟩ : ∃ x, w.alloc (.cells #[.int .i64 s, .slice a n c] 26) = x := ⟨_, rfl⟩
  obtain ⟨wb, hwb⟩ : ∃ x, wa.alloc (.cells #[.int .i64 0, .slice none 0 0] 26) = x := ⟨_, rfl⟩
  obtain ⟨wc, hwc⟩ : ∃ x, wb.alloc (.cells #[.int .i64 s, .slice a n c] 26) = x := ⟨_, rfl⟩
  obtain ⟨A0, hl1, hl2⟩ := enter1r hwa hwb h
  have hbc : Below wb.heap.size wb wc := by rw [← hwc]; exact (Below.refl _ _).alloc (Nat.le_refl _) _
  have tA := A0.t w.heap.size (.int .i64 s) (.slice a n c) (by simp)
  have A1 := A0.step hbc
  have K := joined_andNot s (some ⟨wb.heap.size, 0, none⟩) 1 1 _ wc (one_set (wb := wb) hwc (A1.w a n c x (by simp)) o)
  rw [rest_joined] at K
  generalize restR s x = rr at *
  obtain ⟨rs, rx, re⟩ := rr
  unfold setV
  have HK := hide K
  have HA := hide A1
  have a0 := tA.c0
  have a1' := tA.c1
  clear K tA A0 A1 h o hbc
  go_enter Try.func15, Try.ntmps15
  go_wp2_with fail
  refine (unhide HK).mono ?_
  rintro _ w1 ⟨a3, n3, c3, rfl, hs, hb⟩
  have A2 := (unhide HA).step hb
  have tR := A2.t wa.heap.size (.int .i64 0) (.slice none 0 0) (by simp)
  have r0 := tR.c0
  have r1 := tR.c1
  have f0 := tR.f0
  have f1 := tR.f1
  have T3 := tR.set (.int .i64 rs) (.slice a3 n3 c3)
  have p0 := T3.c0
  have p1 := T3.c1
  have HE := hide (And.intro (SlW.two hs tR (.int .i64 rs) (.slice a3 n3 c3)) (two_below A2.bel wa.heap.size (by omega) (.int .i64 rs) (.slice a3 n3 c3)))
  clear tR T3 hs hb HK A2 HA
  unfold setV
  go_wp2_with fail
  refine bodyPost_ret (by simp [results, Try.results15, go_sem, p0, p1]; try rfl) rfl ?_
  exact ⟨a3, n3, c3, rfl, (unhide HE).1, (unhide HE).2⟩

set_option maxHeartbeats 4000000 in
/-- sloperef3.Rest. -/
theorem rrest_any (s : Int) (a : Option Addr) (n c : Nat) (x : List Nat) (w : World) (h : SlW w a n c x) :
    Calls Try.prog 28 #[setV s a n c] w fun r w' => ResS w w' (restR s x) r := by
  obtain ⟨wa, hwa⟩ : ∃ x, w.alloc (.cells #[.int .i64 s, .slice a n c] 26) = x := ⟨_, rfl⟩
  obtain ⟨wb, hwb⟩ : ∃ x, wa.alloc (.cells #[.int .i64 0, .slice none 0 0] 26) = x := ⟨_, rfl⟩
  obtain ⟨A0, hl1, hl2⟩ := enter1r hwa hwb h
  have tA := A0.t w.heap.size (.int .i64 s) (.slice a n c) (by simp)
  have K := rmay_any s a n c x wb (A0.w a n c x (by simp))
  have HA := hide A0
  have a0 := tA.c0
  have a1' := tA.c1
  have HL := hide h.len
  clear tA A0 h
  unfold setV at K ⊢
  cases m : MayS s x
  · rw [m] at K
    have hE : restR s x = (0, [], 61) := by simp [restR, m]
    rw [hE]
    have HK := hide K
    clear K m hE
    go_enter Try.func28, Try.ntmps28
    go_wp2_with fail
    refine (unhide HK).mono ?_
    rintro _ wc ⟨rfl, hbc⟩
    have HA1 := hide ((unhide HA).step hbc)
    clear hbc HK HA a0 a1'
    go_wp2_with fail
    refine (none_any _).mono ?_
    rintro _ wd ⟨rfl, hbd⟩
    have A2 := (unhide HA1).step hbd
    have tR := A2.t wa.heap.size (.int .i64 0) (.slice none 0 0) (by simp)
    have r0 := tR.c0
    have r1 := tR.c1
    have f0 := tR.f0
    have f1 := tR.f1
    have T3 := tR.set (.int .i64 0) (.slice none 0 0)
    have p0 := T3.c0
    have p1 := T3.c1
    have HB := hide (two_below A2.bel wa.heap.size (by omega) (.int .i64 0) (.slice none 0 0))
    clear tR T3 hbd A2 HA1
    go_wp2_with fail
    refine bodyPost_ret (by simp [results, Try.results28, go_sem, p0, p1]; try rfl) rfl ?_
    exact resS_zero (unhide HB)
  · rw [m] at K
    obtain ⟨sz, rfl, hsz⟩ := fitsI_nat (MayS.fits m)
    have hE : restR sz x = ((sz : Int), wordsL sz (fun e => decide (e < sz) && !hasB (gW x) e), 0) := by simp [restR, m]
    rw [hE]
    have HQ := hide (show ∀ k, k < sz → k / 64 < n from fun k hk => by rw [← unhide HL, MayS.len m]; unfold nW; simp; omega)
    have hm := make_bools sz (by omega)
    have HK := hide K
    clear K m hE
    go_enter Try.func28, Try.ntmps28
    go_wp2_with fail
    refine (unhide HK).mono ?_
    rintro _ w1 ⟨rfl, hb1⟩
    have HA1 := hide ((unhide HA).step hb1)
    have tA := (unhide HA1).t w.heap.size (.int .i64 sz) (.slice a n c) (by simp)
    have e0 := tA.c0
    have e1 := tA.c1
    clear hb1 HK HA a0 a1' tA hwa hwb
    go_wp2_with fail
    have HT := hide (Ar.made w1 sz)
    generalize w1.alloc (.cells (madeCells #[.bool false] sz) 4) = wm at *
    clear e0 e1
    go_loopw [5] (fun i wr => ∃ k : Nat, k ≤ sz ∧ i = .int .i64 k ∧ Ar w1 wr sz (fun e => decide (e < k) && !hasB (gW x) e)) (fun i _ => sz - (intOf i).toNat)
    case atStart => exact ⟨0, Nat.zero_le _, rfl, (unhide HT).congr (fun e _ => by simp)⟩
    case round =>
      obtain ⟨k, hk, rfl, hst⟩ := hrel
      have A2 := (unhide HA1).step hst.bel
      have tA := A2.t w.heap.size (.int .i64 sz) (.slice a n c) (by simp)
      have e0 := tA.c0
      have e1 := tA.c1
      have HS := hide hst
      have HA2 := hide A2
      clear A2 tA hst
      by_cases hlt : k < sz
      · have hlt' : (k : Int) < (sz : Int) := by omega
        have K := in_any sz a n c x k wr ((unhide HA2).w a n c x (by simp)) (unhide HQ k hlt) (by omega)
        unfold setV at K
        have HX := hide (show hasB (fun i => x.getD i 0) k = hasB (gW x) k from rfl)
        generalize hasB (fun i => x.getD i 0) k = v at *
        have HK := hide K
        clear K
        go_wp2_with fail
        refine (unhide HK).mono ?_
        rintro _ w2 ⟨rfl, hb2⟩
        have hst2 := (unhide HS).step hb2
        have g1 := (hst2.cell hlt).1
        have g2 := (hst2.cell hlt).2
        generalize (decide (k < k) && !hasB (gW x) k) = old at g1
        have HS2 := hide (hst2.next hlt (!v) (by rw [unhide HX]))
        clear hb2 hst2 HK e0 e1
        go_wp2_with fail
        exact ⟨⟨k + 1, by omega, by go_num, unhide HS2⟩, by simp [intOf]; omega⟩
      · have hlt' : ¬ (k : Int) < (sz : Int) := by omega
        have hkn : k = sz := by omega
        subst hkn
        have HO := hide (of_any (some ⟨w1.heap.size, 0, none⟩) k k _ wr ((unhide HS).sl hsz) hsz)
        go_wp2_with fail
        refine (unhide HO).mono ?_
        rintro _ w2 ⟨_, rfl, a2, n2, c2, rfl, hs2, hn2, hb2⟩
        have tR := ((unhide HA2).step hb2).t wa.heap.size (.int .i64 0) (.slice none 0 0) (by simp)
        have t0 := tR.c0
        have t1 := tR.c1
        have f0 := tR.f0
        have f1 := tR.f1
        have T3 := tR.set (.int .i64 k) (.slice a2 n2 c2)
        have p0 := T3.c0
        have p1 := T3.c1
        have HS2 := hide hs2
        have HB2 := hide hb2
        clear tR T3 hb2 hs2 HO hn2 e0 e1
        unfold setV
        go_wp2_with fail
        refine bodyPost_ret (by simp [results, Try.results28, go_sem, p0, p1]; try rfl) rfl ?_
        refine (unhide HS).done (unhide HA1).bel ((unhide HA1).t wa.heap.size (.int .i64 0) (.slice none 0 0) (by simp)) (by omega) (unhide HS2) (unhide HB2) (fun e _ => ?_)
        by_cases he : e < k <;> simp [he]
end Go.Proofs.Ytbendkndnojihab
