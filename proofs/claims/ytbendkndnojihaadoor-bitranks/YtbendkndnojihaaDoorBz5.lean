/-
  bitset.Select: contract.
-/
import Derived.Test.YtbendkndnojihaaDoorBz2
import Derived.Test.YtbendkndnojihaaDoorBza
import Derived.Test.YtbendkndnojihaaDoorBq0
namespace Go.Proofs.YtbendkndnojihaaDoor
open Go.RowKit Go.Deep
set_option linter.unusedVariables false

set_option maxHeartbeats 8000000 in
set_option maxRecDepth 100000 in
/-- bitset.Select. -/
theorem select_any (s : Int) (a : Option Addr) (n c : Nat) (xs : List Nat) (e : Int) (w : World) (h : SlW w a n c xs) (o : OkW xs) (hl : -9223372036854775808 ≤ e) (hh : e ≤ 9223372036854775807) (hT : Tab64 w) :
    Calls Tryd.prog 12 #[setV s a n c, .int .i64 e] w fun r w' => r = .returned (.int .i64 (selR s xs e)) ∧ Below w.heap.size w w' := by
  obtain ⟨wa, hwa⟩ : ∃ x, w.alloc (.cells #[.int .i64 s, .slice a n c] 24) = x := ⟨_, rfl⟩
  have hba : Below w.heap.size w wa := by rw [← hwa]; exact (Below.refl _ _).alloc (Nat.le_refl _) _
  have tA : Two wa w.heap.size (.int .i64 s) (.slice a n c) := by rw [← hwa]; exact Two.made _ _ _ _
  have K := may_any s a n c xs wa (h.below hba) o
  have HTb := hide (hT.below hba)
  clear hT
  have a0 := tA.c0
  have a1 := tA.c1
  have hle := h.le
  have hcap := h.cap
  unfold maxLen at hcap
  have HA := hide (And.intro tA (And.intro (h.below hba) hba))
  have HO := hide o
  have HL := hide h.len
  clear tA hba h o
  unfold setV at K ⊢
  cases m : MayS s xs
  · rw [m] at K
    have e0 : selR s xs e = -1 := by simp [selR, m]
    rw [e0]
    have HK := hide K
    clear K m e0
    go_enter Tryd.func12, Tryd.ntmps12
    go_wp2_with fail
    refine (unhide HK).mono ?_
    rintro _ w1 ⟨rfl, hb1⟩
    have HB := hide ((unhide HA).2.2.trans (hb1.mono (unhide HA).2.2.size))
    clear hb1 HK
    go_wp2_with fail
    go_ret
    exact ⟨rfl, unhide HB⟩
  · rw [m] at K
    have HK := hide K
    clear K
    obtain ⟨sz, rfl, hsz⟩ := fitsI_nat (MayS.fits m)
    have HM := hide m
    have hnn : n = nW sz := by have := MayS.len m; rw [unhide HL] at this; simpa using this
    have HN := hide hnn
    have hn64 : n ≤ 64 := by rw [hnn]; unfold nW; omega
    have hsn : sz ≤ 64 * n := by rw [hnn]; unfold nW; omega
    have HZ := hide (show ∀ x, sz ≤ x → x < 64 * n → hasB (gW xs) x = false from fun x h1 h2 => MayS.zero m x (by simpa using h1) (by rw [unhide HL]; exact h2))
    clear hnn
    by_cases hneg : e < 0
    · have e0 : selR (sz : Int) xs e = -1 := by simp [selR, show ¬ 0 ≤ e from by omega]
      rw [e0]
      clear e0 m
      go_enter Tryd.func12, Tryd.ntmps12
      go_wp2_with fail
      refine (unhide HK).mono ?_
      rintro _ w1 ⟨rfl, hb1⟩
      have HB := hide ((unhide HA).2.2.trans (hb1.mono (unhide HA).2.2.size))
      have HS := hide ((unhide HA).2.1.below hb1)
      have tA := (unhide HA).1.keep hb1
      have b0 := tA.c0
      have b1 := tA.c1
      clear hb1 HK HA tA
      go_wp2_with fail
      go_ret
      exact ⟨rfl, unhide HB⟩
    · obtain ⟨k, rfl⟩ : ∃ k : Nat, e = (k : Int) := ⟨e.toNat, by omega⟩
      have eR : selR (sz : Int) xs (k : Int) = firstX (fun x => hasB (gW xs) x && (cntB (hasB (gW xs)) x == k)) sz := by
        simp [selR, m]
      rw [eR]
      have HNO := hide (show cntB (hasB (gW xs)) (64 * n) ≤ k → firstX (fun x => hasB (gW xs) x && (cntB (hasB (gW xs)) x == k)) sz = -1 from fun hh => sel_none _ (Nat.le_trans (cntB_mup2 _ hsn) hh))
      have HFD := hide (show ∀ i mm y, k = cntB (hasB (gW xs)) (64 * i) + mm → mm < pc64 (gW xs i) → LessB (gW xs i) mm y → i < n → firstX (fun x => hasB (gW xs) x && (cntB (hasB (gW xs)) x == k)) sz = ((64 * i + tz64 y : Nat) : Int) ∧ 0 < y from fun i mm y h1 h2 h3 h4 => sel_word (gW_ok (unhide HO) i) h1 h2 h3 h4 (unhide HZ))
      obtain ⟨R, hR⟩ : ∃ R, firstX (fun x => hasB (gW xs) x && (cntB (hasB (gW xs)) x == k)) sz = R := ⟨_, rfl⟩
      rw [hR] at HNO HFD ⊢
      clear eR hR m
      go_enter Tryd.func12, Tryd.ntmps12
      go_wp2_with fail
      refine (unhide HK).mono ?_
      rintro _ w1 ⟨rfl, hb1⟩
      have HB := hide ((unhide HA).2.2.trans (hb1.mono (unhide HA).2.2.size))
      have HS := hide ((unhide HA).2.1.below hb1)
      have tA := (unhide HA).1.keep hb1
      have b0 := tA.c0
      have b1 := tA.c1
      have HTb := hide ((unhide HTb).below hb1)
      clear hb1 HK HA tA
      go_wp2_with fail
      go_loopw [18, 5, 6, 7, 1] (fun i _ _ _ v wr => ∃ j kc : Nat, j ≤ n ∧ i = .int .i64 j ∧ v = .int .i64 kc ∧ k = cntB (hasB (gW xs)) (64 * j) + kc ∧ wr = w1) (fun i _ _ _ _ _ => n - (intOf i).toNat)
      case atStart => exact ⟨0, k, Nat.zero_le _, rfl, rfl, by simp [cntB], rfl⟩
      case round =>
        obtain ⟨j, kc, hj, rfl, rfl, hkc, rfl⟩ := hrel
        by_cases hlt : j < n
        · have hlt' : (j : Int) < (n : Int) := by omega
          obtain ⟨b, off, rfl, hc⟩ := (unhide HS).at (by omega)
          have g : wr.cell? ⟨b, off + j, none⟩ = some (vU (gW xs j)) := hc j hlt
          unfold vU at g
          have hx := gW_ok (unhide HO) j
          have HE := hide (cnt_words xs j)
          have hp := pc64_le (gW xs j)
          have KO := hide (ones64_any (gW xs j) wr hx)
          have HF := hide (fun mm y h1 h2 h3 => unhide HFD j mm y h1 h2 h3 hlt)
          have HL0 := hide (LessB.start hx)
          have HLs := hide (fun mm y (h : LessB (gW xs j) mm y) (hm : mm < pc64 (gW xs j)) => And.intro (h.low hx hm).1 (h.step hx hm))
          generalize gW xs j = x at *
          generalize pc64 x = pc at *
          have HKC := hide hkc
          clear hc HFD HNO hkc
          by_cases hlt2 : kc < pc
          · have hlt2' : (kc : Int) < (pc : Int) := by omega
            go_wp2_with fail
            refine (unhide KO).mono ?_
            rintro _ w' ⟨rfl, hw⟩
            obtain rfl := hw.symm
            clear hw KO
            go_wp2_with fail
            go_loopw [29, 6] (fun i v wq => ∃ mm y : Nat, mm ≤ kc ∧ i = .int .i64 mm ∧ v = .int .u64 y ∧ LessB x mm y ∧ wq = wr) (fun i _ _ => kc - (intOf i).toNat)
            case atStart => exact ⟨0, x, Nat.zero_le _, rfl, rfl, unhide HL0, rfl⟩
            case round =>
              obtain ⟨mm, y, hmm, rfl, rfl, hL, rfl⟩ := hrel
              have hyl := hL.1
              have HLy := hide hL
              clear hL
              by_cases hlt3 : mm < kc
              · have hlt3' : (mm : Int) < (kc : Int) := by omega
                obtain ⟨hy0, hy1⟩ := unhide HLs mm y (unhide HLy) (by omega)
                have hs1 : (y : Int) - 1 = ((y - 1 : Nat) : Int) := by omega
                have ha := u64_and_nat y (y - 1) hyl (by omega)
                have HLn := hide hy1
                obtain ⟨z, hz⟩ : ∃ z, y &&& (y - 1) = z := ⟨_, rfl⟩
                rw [hz] at ha HLn
                obtain ⟨y1, hy1e⟩ : ∃ y1, y - 1 = y1 := ⟨_, rfl⟩
                rw [hy1e] at ha hs1
                have hy1l : y1 < 18446744073709551616 := by omega
                clear hz hy1 hy1e
                go_wp2_with fail
                exact ⟨⟨mm + 1, z, by omega, by go_num, rfl, unhide HLn, by first | trivial | rfl⟩, by simp [intOf]; omega⟩
              · have hlt3' : ¬ (mm : Int) < (kc : Int) := by omega
                obtain rfl : mm = kc := by omega
                obtain ⟨hR1, hy0⟩ := unhide HF mm y (unhide HKC) hlt2 (unhide HLy)
                have HR1 := hide hR1
                have KT := hide (tz64_any y wr hy0 hyl (unhide HTb))
                have ht := tz64_lt hy0 hyl
                generalize tz64 y = tz at *
                clear hR1 HF HLs HL0 HLy
                go_wp2_with fail
                refine (unhide KT).mono ?_
                rintro _ w' ⟨rfl, hw⟩
                obtain rfl := hw.symm
                go_wp2_with fail
                go_ret
                rw [unhide HR1]
                exact ⟨by go_num, unhide HB⟩
          · have hlt2' : ¬ (kc : Int) < (pc : Int) := by omega
            have hd : (kc : Int) - (pc : Int) = ((kc - pc : Nat) : Int) := by omega
            have HK2 := hide (show k = cntB (hasB (gW xs)) (64 * (j + 1)) + (kc - pc) by rw [unhide HE]; have := unhide HKC; omega)
            obtain ⟨kd, hkd⟩ : ∃ kd, kc - pc = kd := ⟨_, rfl⟩
            rw [hkd] at hd HK2
            have hkd2 : kd ≤ k := by have := unhide HKC; omega
            clear hkd HF HLs HL0 HKC HE
            go_wp2_with fail
            refine (unhide KO).mono ?_
            rintro _ w' ⟨rfl, hw⟩
            obtain rfl := hw.symm
            clear hw KO
            go_wp2_with fail
            exact ⟨⟨j + 1, kd, by omega, by go_num, by first | rfl | (congr 1; unfold wrap64; omega), unhide HK2, by first | trivial | rfl⟩, by simp [intOf]; omega⟩
        · have hlt' : ¬ (j : Int) < (n : Int) := by omega
          obtain rfl : j = n := by omega
          have HR1 := hide (unhide HNO (by rw [hkc]; exact Nat.le_add_right _ _))
          clear HFD HNO hkc
          go_wp2_with fail
          go_ret
          rw [unhide HR1]
          exact ⟨rfl, unhide HB⟩
end Go.Proofs.YtbendkndnojihaaDoor
