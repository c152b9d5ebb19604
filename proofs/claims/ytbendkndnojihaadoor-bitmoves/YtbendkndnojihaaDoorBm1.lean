/-
  sloperef3.Shift: contract; what a moved set is.
-/
import Derived.Test.YtbendkndnojihaaDoorBp3
namespace Go.Proofs.YtbendkndnojihaaDoor
open Go.RowKit Go.Deep
set_option linter.unusedVariables false

/-- Is e, moved back by n, in the set? -/
def shP (f : Nat → Nat) (sz : Nat) (n : Int) (e : Nat) : Bool := decide (0 ≤ (e : Int) - n) && decide ((e : Int) - n < (sz : Int)) && hasB f ((e : Int) - n).toNat
theorem shP_no {f : Nat → Nat} {sz : Nat} {n : Int} {e : Nat} (h : (e : Int) - n < 0 ∨ (sz : Int) ≤ (e : Int) - n) : shP f sz n e = false := by
  unfold shP
  rcases h with h | h
  · rw [decide_eq_false (show ¬ 0 ≤ (e : Int) - n by omega)]; rfl
  · rw [decide_eq_false (show ¬ (e : Int) - n < (sz : Int) by omega)]; simp
def shiftR (s : Int) (x : List Nat) (n : Int) : Int × List Nat × Int :=
  if MayS s x then (s, wordsL s.toNat (fun e => decide (e < s.toNat) && shP (gW x) s.toNat n e), 0) else (0, [], 61)

set_option maxHeartbeats 4000000 in
/-- sloperef3.Shift. -/
theorem rshift_any (s : Int) (a : Option Addr) (n c : Nat) (x : List Nat) (sh : Int) (w : World) (h : SlW w a n c x) :
    Calls Tryd.prog 31 #[setV s a n c, .int .i64 sh] w fun r w' => ResS w w' (shiftR s x sh) r := by
  obtain ⟨wa, hwa⟩ : ∃ x, w.alloc (.cells #[.int .i64 s, .slice a n c] 24) = x := ⟨_, rfl⟩
  obtain ⟨wb, hwb⟩ : ∃ x, wa.alloc (.cells #[.int .i64 0, .slice none 0 0] 24) = x := ⟨_, rfl⟩
  obtain ⟨A0, hl1, hl2⟩ := enter1r hwa hwb h
  have tA := A0.t w.heap.size (.int .i64 s) (.slice a n c) (by simp)
  have K := rmay_any s a n c x wb (A0.w a n c x (by simp))
  have HA := hide A0
  have a0 := tA.c0
  have a1' := tA.c1
  have HL := hide h.len
  clear tA A0 h
  unfold setV at K ⊢
  cases m : MayS s x
  · rw [m] at K
    have hE : shiftR s x sh = (0, [], 61) := by simp [shiftR, m]
    rw [hE]
    have HK := hide K
    clear K m hE
    go_enter Tryd.func31, Tryd.ntmps31
    go_wp2_with fail
    refine (unhide HK).mono ?_
    rintro _ wc ⟨rfl, hbc⟩
    have HA1 := hide ((unhide HA).step hbc)
    clear hbc HK HA a0 a1'
    go_wp2_with fail
    refine (none_any _).mono ?_
    rintro _ wd ⟨rfl, hbd⟩
    have A2 := (unhide HA1).step hbd
    have tR := A2.t wa.heap.size (.int .i64 0) (.slice none 0 0) (by simp)
    have r0 := tR.c0
    have r1 := tR.c1
    have f0 := tR.f0
    have f1 := tR.f1
    have T3 := tR.set (.int .i64 0) (.slice none 0 0)
    have p0 := T3.c0
    have p1 := T3.c1
    have HB := hide (two_below A2.bel wa.heap.size (by omega) (.int .i64 0) (.slice none 0 0))
    clear tR T3 hbd A2 HA1
    go_wp2_with fail
    refine bodyPost_ret (by simp [results, Tryd.results31, go_sem, p0, p1]; try rfl) rfl ?_
    exact resS_zero (unhide HB)
  · rw [m] at K
    obtain ⟨sz, rfl, hsz⟩ := fitsI_nat (MayS.fits m)
    have hE : shiftR sz x sh = ((sz : Int), wordsL sz (fun e => decide (e < sz) && shP (gW x) sz sh e), 0) := by simp [shiftR, m]
    rw [hE]
    have HQ := hide (show ∀ k, k < sz → k / 64 < n from fun k hk => by rw [← unhide HL, MayS.len m]; unfold nW; simp; omega)
    have hm := make_bools sz (by omega)
    have HK := hide K
    clear K m hE
    go_enter Tryd.func31, Tryd.ntmps31
    go_wp2_with fail
    refine (unhide HK).mono ?_
    rintro _ w1 ⟨rfl, hb1⟩
    have HA1 := hide ((unhide HA).step hb1)
    have tA := (unhide HA1).t w.heap.size (.int .i64 sz) (.slice a n c) (by simp)
    have e0 := tA.c0
    have e1 := tA.c1
    clear hb1 HK HA a0 a1' tA hwa hwb
    go_wp2_with fail
    have HT := hide (Ar.made w1 sz)
    generalize w1.alloc (.cells (madeCells #[.bool false] sz) 4) = wm at *
    clear e0 e1
    go_loopw [7] (fun i wr => ∃ k : Nat, k ≤ sz ∧ i = .int .i64 k ∧ Ar w1 wr sz (fun e => decide (e < k) && shP (gW x) sz sh e)) (fun i _ => sz - (intOf i).toNat)
    case atStart => exact ⟨0, Nat.zero_le _, rfl, (unhide HT).congr (fun e _ => by simp)⟩
    case round =>
      obtain ⟨k, hk, rfl, hst⟩ := hrel
      have A2 := (unhide HA1).step hst.bel
      have tA := A2.t w.heap.size (.int .i64 sz) (.slice a n c) (by simp)
      have e0 := tA.c0
      have e1 := tA.c1
      have HS := hide hst
      have HA2 := hide A2
      clear A2 tA hst
      by_cases hlt : k < sz
      · have hlt' : (k : Int) < (sz : Int) := by omega
        have HSK := hide (show shP (gW x) sz sh k = false → Ar w1 wr sz (fun e => decide (e < k + 1) && shP (gW x) sz sh e) from fun hf => (unhide HS).congr (fun e _ => by
          by_cases ee : e = k
          · subst ee; rw [hf]; simp
          · by_cases e2 : e < k
            · simp [e2, show e < k + 1 from by omega]
            · simp [e2, show ¬ e < k + 1 from by omega]))
        by_cases c1 : sh ≤ -4096
        · have HE := hide (unhide HSK (shP_no (by omega)))
          have c1' : ¬ -4096 < sh := by omega
          clear HSK
          go_wp2_with fail
          exact ⟨⟨k + 1, by omega, by go_num, unhide HE⟩, by simp [intOf]; omega⟩
        · have c1' : -4096 < sh := by omega
          by_cases c2 : 4096 ≤ sh
          · have HE := hide (unhide HSK (shP_no (by omega)))
            have c2' : ¬ sh < 4096 := by omega
            clear HSK
            go_wp2_with fail
            exact ⟨⟨k + 1, by omega, by go_num, unhide HE⟩, by simp [intOf]; omega⟩
          · have c2' : sh < 4096 := by omega
            by_cases c3 : (k : Int) - sh < 0
            · have HE := hide (unhide HSK (shP_no (by omega)))
              have c3' : ¬ 0 ≤ (k : Int) - sh := by omega
              clear HSK
              go_wp2_with fail
              exact ⟨⟨k + 1, by omega, by go_num, unhide HE⟩, by simp [intOf]; omega⟩
            · obtain ⟨k', hk'⟩ : ∃ k' : Nat, (k : Int) - sh = (k' : Int) := ⟨((k : Int) - sh).toNat, by omega⟩
              have c3' : (0 : Int) ≤ (k' : Int) := by omega
              by_cases c4 : k' < sz
              · have c4' : (k' : Int) < (sz : Int) := by omega
                have K := in_any sz a n c x k' wr ((unhide HA2).w a n c x (by simp)) (unhide HQ k' c4) (by omega)
                unfold setV at K
                have HX := hide (show hasB (fun i => x.getD i 0) k' = shP (gW x) sz sh k by
                  unfold shP
                  rw [hk', Int.toNat_natCast, decide_eq_true c3', decide_eq_true c4']
                  simp only [Bool.true_and]
                  rfl)
                generalize hasB (fun i => x.getD i 0) k' = v at *
                have HK := hide K
                clear K HSK
                go_wp2_with fail
                refine (unhide HK).mono ?_
                rintro _ w2 ⟨rfl, hb2⟩
                have hst2 := (unhide HS).step hb2
                have g1 := (hst2.cell hlt).1
                have g2 := (hst2.cell hlt).2
                generalize (decide (k < k) && shP (gW x) sz sh k) = old at g1
                have HS2 := hide (hst2.next hlt v (unhide HX))
                clear hb2 hst2 HK e0 e1
                go_wp2_with fail
                exact ⟨⟨k + 1, by omega, by go_num, unhide HS2⟩, by simp [intOf]; omega⟩
              · have HE := hide (unhide HSK (shP_no (by omega)))
                have c4' : ¬ (k' : Int) < (sz : Int) := by omega
                clear HSK
                go_wp2_with fail
                exact ⟨⟨k + 1, by omega, by go_num, unhide HE⟩, by simp [intOf]; omega⟩
      · have hlt' : ¬ (k : Int) < (sz : Int) := by omega
        have hkn : k = sz := by omega
        subst hkn
        have HO := hide (of_any (some ⟨w1.heap.size, 0, none⟩) k k _ wr ((unhide HS).sl hsz) hsz)
        go_wp2_with fail
        refine (unhide HO).mono ?_
        rintro _ w2 ⟨_, rfl, a2, n2, c2, rfl, hs2, hn2, hb2⟩
        have tR := ((unhide HA2).step hb2).t wa.heap.size (.int .i64 0) (.slice none 0 0) (by simp)
        have t0 := tR.c0
        have t1 := tR.c1
        have f0 := tR.f0
        have f1 := tR.f1
        have T3 := tR.set (.int .i64 k) (.slice a2 n2 c2)
        have p0 := T3.c0
        have p1 := T3.c1
        have HS2 := hide hs2
        have HB2 := hide hb2
        clear tR T3 hb2 hs2 HO hn2 e0 e1
        unfold setV
        go_wp2_with fail
        refine bodyPost_ret (by simp [results, Tryd.results31, go_sem, p0, p1]; try rfl) rfl ?_
        refine (unhide HS).done (unhide HA1).bel ((unhide HA1).t wa.heap.size (.int .i64 0) (.slice none 0 0) (by simp)) (by omega) (unhide HS2) (unhide HB2) (fun e _ => ?_)
        by_cases he : e < k <;> simp [he]
end Go.Proofs.YtbendkndnojihaaDoor
