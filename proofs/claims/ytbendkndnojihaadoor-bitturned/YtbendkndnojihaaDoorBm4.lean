/-
  sloperef3.Move: contract; what a set is whose numbers are moved.
-/
import Derived.Test.YtbendkndnojihaaDoorBp3
namespace Go.Proofs.YtbendkndnojihaaDoor
open Go.RowKit Go.Deep
set_option linter.unusedVariables false

def badM (size e : Int) : Bool := decide (e < -1) || decide (size ≤ e)
/-- To which of the first k numbers leads y? -/
def mvK (f : Nat → Nat) (to : List Int) (k : Nat) (y : Nat) : Bool := (List.range k).any (fun e => hasB f e && (to.getD e 0 == (y : Int)))
theorem mvK_succ (f : Nat → Nat) (to : List Int) (k y : Nat) : mvK f to (k + 1) y = (mvK f to k y || (hasB f k && (to.getD k 0 == (y : Int)))) := by
  unfold mvK
  rw [List.range_succ, List.any_append]
  simp
def moveR (s : Int) (x : List Nat) (size : Int) (to : List Int) : Int × List Nat × Int :=
  if MayS s x then (if fitsI size then (if (to.length : Int) = s then (if to.any (badM size) then (0, [], 62) else (size, wordsL size.toNat (mvK (gW x) to to.length), 0)) else (0, [], 1)) else (0, [], 60)) else (0, [], 61)
theorem mvK_zero {f : Nat → Nat} {to : List Int} {size : Nat} (hb : to.any (badM size) = false) {y : Nat} (hy : size ≤ y) : ∀ k, k ≤ to.length → mvK f to k y = false
  | 0, _ => rfl
  | k + 1, hk => by
    rw [mvK_succ, mvK_zero hb hy k (by omega)]
    have hl : k < to.length := by omega
    have hm : to.getD k 0 ∈ to := by
      rw [show to.getD k 0 = to[k] from by simp [List.getD, hl]]; exact List.getElem_mem hl
    have hv : badM size (to.getD k 0) = false := by
      cases hv : badM size (to.getD k 0)
      · rfl
      · rw [List.any_eq_true.2 ⟨_, hm, hv⟩] at hb; cases hb
    simp [badM] at hv
    have : (to.getD k 0 == (y : Int)) = false := by simp; omega
    rw [this]; simp

set_option maxHeartbeats 8000000 in
set_option maxRecDepth 100000 in
/-- sloperef3.Move. -/
theorem rmove_any (s : Int) (a : Option Addr) (n c : Nat) (x : List Nat) (size : Int) (at_ : Option Addr) (nt ct : Nat) (to : List Int) (w : World) (h : SlW w a n c x) (ht : SlI w at_ nt ct to) :
    Calls Tryd.prog 33 #[setV s a n c, .int .i64 size, .slice at_ nt ct] w fun r w' => ResS w w' (moveR s x size to) r := by
  obtain ⟨wa, hwa⟩ : ∃ x, w.alloc (.cells #[.int .i64 s, .slice a n c] 24) = x := ⟨_, rfl⟩
  obtain ⟨wb, hwb⟩ : ∃ x, wa.alloc (.cells #[.int .i64 0, .slice none 0 0] 24) = x := ⟨_, rfl⟩
  obtain ⟨A0, hl1, hl2⟩ := enter1r hwa hwb h
  have tA := A0.t w.heap.size (.int .i64 s) (.slice a n c) (by simp)
  have K := rmay_any s a n c x wb (A0.w a n c x (by simp))
  have HA := hide A0
  have a0 := tA.c0
  have a1' := tA.c1
  have HL := hide h.len
  have hle := ht.le
  have hcap := ht.cap
  unfold maxLen at hcap
  have htl := ht.len
  have HTo := hide ht
  clear tA A0 h ht
  unfold setV at K ⊢
  cases m : MayS s x
  · rw [m] at K
    have hE : moveR s x size to = (0, [], 61) := by simp [moveR, m]
    rw [hE]
    have HK := hide K
    clear K m hE
    go_enter Tryd.func33, Tryd.ntmps33
    go_wp2_with fail
    refine (unhide HK).mono ?_
    rintro _ wc ⟨rfl, hbc⟩
    have HA1 := hide ((unhide HA).step hbc)
    clear hbc HK HA a0 a1'
    go_wp2_with fail
    refine (none_any _).mono ?_
    rintro _ wd ⟨rfl, hbd⟩
    have A2 := (unhide HA1).step hbd
    have tR := A2.t wa.heap.size (.int .i64 0) (.slice none 0 0) (by simp)
    have r0 := tR.c0
    have r1 := tR.c1
    have f0 := tR.f0
    have f1 := tR.f1
    have T3 := tR.set (.int .i64 0) (.slice none 0 0)
    have p0 := T3.c0
    have p1 := T3.c1
    have HB := hide (two_below A2.bel wa.heap.size (by omega) (.int .i64 0) (.slice none 0 0))
    clear tR T3 hbd A2
    go_wp2_with fail
    refine bodyPost_ret (by simp [results, Tryd.results33, go_sem, p0, p1]; try rfl) rfl ?_
    exact resS_zero (unhide HB)
  · rw [m] at K
    obtain ⟨sz, rfl, hsz⟩ := fitsI_nat (MayS.fits m)
    have KF := sized_any size
    have HK := hide K
    cases hf : fitsI size
    · have hE : moveR sz x size to = (0, [], 60) := by simp [moveR, m, hf]
      rw [hE]
      rw [hf] at KF
      have HKF := hide KF
      clear K KF m hE hf
      go_enter Tryd.func33, Tryd.ntmps33
      go_wp2_with fail
      refine (unhide HK).mono ?_
      rintro _ wc ⟨rfl, hbc⟩
      have HA1 := hide ((unhide HA).step hbc)
      clear hbc HK HA a0 a1'
      go_wp2_with fail
      refine (unhide HKF _).mono ?_
      rintro _ w' ⟨rfl, hw⟩
      obtain rfl := hw.symm
      go_wp2_with fail
      refine (none_any _).mono ?_
      rintro _ wd ⟨rfl, hbd⟩
      have A2 := (unhide HA1).step hbd
      have tR := A2.t wa.heap.size (.int .i64 0) (.slice none 0 0) (by simp)
      have r0 := tR.c0
      have r1 := tR.c1
      have f0 := tR.f0
      have f1 := tR.f1
      have T3 := tR.set (.int .i64 0) (.slice none 0 0)
      have p0 := T3.c0
      have p1 := T3.c1
      have HB := hide (two_below A2.bel wa.heap.size (by omega) (.int .i64 0) (.slice none 0 0))
      clear tR T3 hbd A2
      go_wp2_with fail
      refine bodyPost_ret (by simp [results, Tryd.results33, go_sem, p0, p1]; try rfl) rfl ?_
      exact resS_zero (unhide HB)
    · rw [hf] at KF
      have HKF := hide KF
      obtain ⟨N, rfl, hN⟩ := fitsI_nat hf
      by_cases hn : nt = sz
      · have hto : to.length = sz := by rw [htl]; exact hn
        have HQ := hide (show ∀ k, k < sz → k / 64 < n from fun k hk => by rw [← unhide HL, MayS.len m]; unfold nW; simp; omega)
        have hnd : ((nt : Int) == (sz : Int)) = true := by simp [hn]
        have hmk := make_bools N (by omega)
        have HE := hide (show moveR sz x N to = if to.any (badM N) then (0, [], 62) else ((N : Int), wordsL N (mvK (gW x) to to.length), 0) by simp [moveR, m, hf, hto])
        obtain ⟨RR, hRR⟩ : ∃ RR, moveR sz x N to = RR := ⟨_, rfl⟩
        rw [hRR] at HE ⊢
        clear K KF m hf hRR
        subst hn
        go_enter Tryd.func33, Tryd.ntmps33
        go_wp2_with fail
        refine (unhide HK).mono ?_
        rintro _ w1 ⟨rfl, hb1⟩
        have HA1 := hide ((unhide HA).step hb1)
        have tA := (unhide HA1).t w.heap.size (.int .i64 nt) (.slice a n c) (by simp)
        have e0 := tA.c0
        have e1 := tA.c1
        clear hb1 HK HA a0 a1' tA hwa hwb
        go_wp2_with fail
        refine (unhide HKF _).mono ?_
        rintro _ w' ⟨rfl, hw⟩
        obtain rfl := hw.symm
        clear hw HKF
        go_wp2_with fail
        have HT := hide (Ar.made w1 N)
        generalize w1.alloc (.cells (madeCells #[.bool false] N) 4) = wm at *
        clear e0 e1
        go_loopw [9] (fun i wr => ∃ k : Nat, k ≤ nt ∧ i = .int .i64 k ∧ (to.take k).any (badM N) = false ∧ Ar w1 wr N (mvK (gW x) to k)) (fun i _ => nt - (intOf i).toNat)
        case atStart => exact ⟨0, Nat.zero_le _, rfl, rfl, (unhide HT).congr (fun e _ => by simp [mvK])⟩
        case round =>
          obtain ⟨k, hk, rfl, hbad, hst⟩ := hrel
          have A2 := (unhide HA1).step hst.bel
          have tA := A2.t w.heap.size (.int .i64 nt) (.slice a n c) (by simp)
          have e0 := tA.c0
          have e1 := tA.c1
          have HS := hide hst
          have HA2 := hide A2
          have HBd := hide hbad
          clear A2 tA hst hbad
          by_cases hlt : k < nt
          · have hlt' : (k : Int) < (nt : Int) := by omega
            have hkl : k < to.length := by omega
            obtain ⟨bt, ot, rfl, hct⟩ := ((unhide HTo).below (unhide HA2).bel).at (by omega)
            have gt := hct k hlt
            unfold vI at gt
            have HM := hide (mvK_succ (gW x) to k)
            have HBs := hide (any_take (p := badM N) hkl)
            obtain ⟨E, hE⟩ : ∃ E, to.getD k 0 = E := ⟨_, rfl⟩
            rw [hE] at gt HM HBs
            have HEE := hide hE
            clear hct hE
            by_cases c1 : E < -1
            · have hR := hide (show RR = (0, [], 62) by
                rw [unhide HE, if_pos]
                exact any_bad hkl (by rw [unhide HEE]; simp [badM, c1]))
              go_wp2_with fail
              refine (none_any _).mono ?_
              rintro _ wd ⟨rfl, hbd⟩
              have A2 := (unhide HA2).step hbd
              have tR := A2.t wa.heap.size (.int .i64 0) (.slice none 0 0) (by simp)
              have r0 := tR.c0
              have r1 := tR.c1
              have f0 := tR.f0
              have f1 := tR.f1
              have T3 := tR.set (.int .i64 0) (.slice none 0 0)
              have p0 := T3.c0
              have p1 := T3.c1
              have HB := hide (two_below A2.bel wa.heap.size (by omega) (.int .i64 0) (.slice none 0 0))
              clear tR T3 hbd A2
              go_wp2_with fail
              refine bodyPost_ret (by simp [results, Tryd.results33, go_sem, p0, p1]; try rfl) rfl ?_
              rw [unhide hR]
              exact resS_zero (unhide HB)
            · by_cases c2 : (N : Int) ≤ E
              · have hR := hide (show RR = (0, [], 62) by
                  rw [unhide HE, if_pos]
                  exact any_bad hkl (by rw [unhide HEE]; simp [badM, c2]))
                go_wp2_with fail
                refine (none_any _).mono ?_
                rintro _ wd ⟨rfl, hbd⟩
                have A2 := (unhide HA2).step hbd
                have tR := A2.t wa.heap.size (.int .i64 0) (.slice none 0 0) (by simp)
                have r0 := tR.c0
                have r1 := tR.c1
                have f0 := tR.f0
                have f1 := tR.f1
                have T3 := tR.set (.int .i64 0) (.slice none 0 0)
                have p0 := T3.c0
                have p1 := T3.c1
                have HB := hide (two_below A2.bel wa.heap.size (by omega) (.int .i64 0) (.slice none 0 0))
                clear tR T3 hbd A2
                go_wp2_with fail
                refine bodyPost_ret (by simp [results, Tryd.results33, go_sem, p0, p1]; try rfl) rfl ?_
                rw [unhide hR]
                exact resS_zero (unhide HB)
              · have HB2 := hide (show (to.take (k + 1)).any (badM N) = false by rw [unhide HBs, unhide HBd]; simp [badM]; omega)
                by_cases c3 : E < 0
                · have HS2 := hide (show Ar w1 wr N (mvK (gW x) to (k + 1)) from (unhide HS).congr (fun y _ => by rw [unhide HM y, show (E == (y : Int)) = false from by simp; omega]; simp))
                  go_wp2_with fail
                  exact ⟨⟨k + 1, by omega, by go_num, unhide HB2, unhide HS2⟩, by simp [intOf]; omega⟩
                · obtain ⟨q, rfl⟩ : ∃ q : Nat, E = (q : Int) := ⟨E.toNat, by omega⟩
                  have hqN : q < N := by omega
                  have hqN' : (q : Int) < (N : Int) := by omega
                  have K := in_any nt a n c x k wr ((unhide HA2).w a n c x (by simp)) (unhide HQ k hlt) (by omega)
                  unfold setV at K
                  have HX := hide (show hasB (fun i => x.getD i 0) k = hasB (gW x) k from rfl)
                  cases hv : hasB (fun i => x.getD i 0) k
                  · rw [hv] at K HX
                    have HS2 := hide (show Ar w1 wr N (mvK (gW x) to (k + 1)) from (unhide HS).congr (fun y _ => by rw [unhide HM y, ← unhide HX]; simp))
                    have HK := hide K
                    clear K hv
                    go_wp2_with fail
                    refine (unhide HK).mono ?_
                    rintro _ w2 ⟨rfl, hb2⟩
                    have HS3 := hide ((unhide HS2).step hb2)
                    clear hb2 HK
                    go_wp2_with fail
                    exact ⟨⟨k + 1, by omega, by go_num, unhide HB2, unhide HS3⟩, by simp [intOf]; omega⟩
                  · rw [hv] at K HX
                    have HK := hide K
                    clear K hv
                    go_wp2_with fail
                    refine (unhide HK).mono ?_
                    rintro _ w2 ⟨rfl, hb2⟩
                    have hst2 := (unhide HS).step hb2
                    have g1 := (hst2.cell hqN).1
                    have g2 := (hst2.cell hqN).2
                    have gt2 := below_cell hb2 gt
                    generalize mvK (gW x) to k q = old at g1
                    have HS3 := hide (show Ar w1 (w2.setCell ⟨w1.heap.size, q, none⟩ (.bool true)) N (mvK (gW x) to (k + 1)) from (hst2.set q true hqN).congr (fun y _ => by
                      rw [unhide HM y, ← unhide HX]
                      by_cases e : y = q
                      · subst e; simp
                      · rw [if_neg e, show ((q : Int) == (y : Int)) = false from by simp; omega]; simp))
                    clear hb2 hst2 HK e0 e1 gt
                    go_wp2_with fail
                    exact ⟨⟨k + 1, by omega, by go_num, unhide HB2, unhide HS3⟩, by simp [intOf]; omega⟩
          · have hlt' : ¬ (k : Int) < (nt : Int) := by omega
            have hkn : k = nt := by omega
            subst hkn
            have hR := hide (show RR = ((N : Int), wordsL N (mvK (gW x) to k), 0) by
              rw [unhide HE]
              have hb := unhide HBd
              rw [List.take_of_length_le (by omega)] at hb
              rw [hb, hto]
              rfl)
            have HZ := hide (show ∀ y, N ≤ y → mvK (gW x) to k y = false from fun y hy => mvK_zero (by have hb := unhide HBd; rwa [List.take_of_length_le (by omega)] at hb) hy k (by omega))
            have HO := hide (of_any (some ⟨w1.heap.size, 0, none⟩) N N _ wr ((unhide HS).sl hN) hN)
            go_wp2_with fail
            refine (unhide HO).mono ?_
            rintro _ w2 ⟨_, rfl, a2, n2, c2, rfl, hs2, hn2, hb2⟩
            have tR := ((unhide HA2).step hb2).t wa.heap.size (.int .i64 0) (.slice none 0 0) (by simp)
            have t0 := tR.c0
            have t1 := tR.c1
            have f0 := tR.f0
            have f1 := tR.f1
            have T3 := tR.set (.int .i64 N) (.slice a2 n2 c2)
            have p0 := T3.c0
            have p1 := T3.c1
            have HS2 := hide hs2
            have HB2 := hide hb2
            clear tR T3 hb2 hs2 HO hn2 e0 e1
            unfold setV
            go_wp2_with fail
            refine bodyPost_ret (by simp [results, Tryd.results33, go_sem, p0, p1]; try rfl) rfl ?_
            rw [unhide hR]
            refine (unhide HS).done (unhide HA1).bel ((unhide HA1).t wa.heap.size (.int .i64 0) (.slice none 0 0) (by simp)) (by omega) (unhide HS2) (unhide HB2) (fun y _ => ?_)
            by_cases he : y < N
            · simp [he]
            · rw [unhide HZ y (by omega)]; simp
      · have hE : moveR sz x N to = (0, [], 1) := by rw [moveR, if_pos m, if_pos hf, if_neg (by rw [htl]; omega)]
        rw [hE]
        have hnd : ((nt : Int) == (sz : Int)) = false := by simp; omega
        have hnd2 : ¬ (nt : Int) = (sz : Int) := by omega
        clear K KF m hE hf
        go_enter Tryd.func33, Tryd.ntmps33
        go_wp2_with fail
        refine (unhide HK).mono ?_
        rintro _ wc ⟨rfl, hbc⟩
        have HA1 := hide ((unhide HA).step hbc)
        have tA := (unhide HA1).t w.heap.size (.int .i64 sz) (.slice a n c) (by simp)
        have e0 := tA.c0
        have e1 := tA.c1
        clear hbc HK HA a0 a1' tA
        go_wp2_with fail
        refine (unhide HKF _).mono ?_
        rintro _ w' ⟨rfl, hw⟩
        obtain rfl := hw.symm
        go_wp2_with fail
        refine (none_any _).mono ?_
        rintro _ wd ⟨rfl, hbd⟩
        have A2 := (unhide HA1).step hbd
        have tR := A2.t wa.heap.size (.int .i64 0) (.slice none 0 0) (by simp)
        have r0 := tR.c0
        have r1 := tR.c1
        have f0 := tR.f0
        have f1 := tR.f1
        have T3 := tR.set (.int .i64 0) (.slice none 0 0)
        have p0 := T3.c0
        have p1 := T3.c1
        have HB := hide (two_below A2.bel wa.heap.size (by omega) (.int .i64 0) (.slice none 0 0))
        clear tR T3 hbd A2
        go_wp2_with fail
        refine bodyPost_ret (by simp [results, Tryd.results33, go_sem, p0, p1]; try rfl) rfl ?_
        exact resS_zero (unhide HB)
end Go.Proofs.YtbendkndnojihaaDoor
