/-
  bitset.Next: contract.
-/
import Derived.Test.YtbendkndnojihaaDoorBz2
import Derived.Test.YtbendkndnojihaaDoorBza
import Derived.Test.YtbendkndnojihaaDoorBq0
namespace Go.Proofs.YtbendkndnojihaaDoor
open Go.RowKit Go.Deep
set_option linter.unusedVariables false

set_option maxHeartbeats 8000000 in
set_option maxRecDepth 100000 in
/-- bitset.Next. -/
theorem next_any (s : Int) (a : Option Addr) (n c : Nat) (xs : List Nat) (e : Int) (w : World) (h : SlW w a n c xs) (o : OkW xs) (hl : -9223372036854775808 ≤ e) (hh : e ≤ 9223372036854775807) (hT : Tab64 w) :
    Calls Tryd.prog 14 #[setV s a n c, .int .i64 e] w fun r w' => r = .returned (.int .i64 (nextR s xs e)) ∧ Below w.heap.size w w' := by
  obtain ⟨wa, hwa⟩ : ∃ x, w.alloc (.cells #[.int .i64 s, .slice a n c] 24) = x := ⟨_, rfl⟩
  have hba : Below w.heap.size w wa := by rw [← hwa]; exact (Below.refl _ _).alloc (Nat.le_refl _) _
  have tA : Two wa w.heap.size (.int .i64 s) (.slice a n c) := by rw [← hwa]; exact Two.made _ _ _ _
  have K := may_any s a n c xs wa (h.below hba) o
  have HTb := hide (hT.below hba)
  clear hT
  have a0 := tA.c0
  have a1 := tA.c1
  have hle := h.le
  have hcap := h.cap
  unfold maxLen at hcap
  have HA := hide (And.intro tA (And.intro (h.below hba) hba))
  have HO := hide o
  have HL := hide h.len
  clear tA hba h o
  unfold setV at K ⊢
  cases m : MayS s xs
  · rw [m] at K
    have e0 : nextR s xs e = -1 := by simp [nextR, m]
    rw [e0]
    have HK := hide K
    clear K m e0
    go_enter Tryd.func14, Tryd.ntmps14
    go_wp2_with fail
    all_goals
      refine (unhide HK).mono ?_
      rintro _ w1 ⟨rfl, hb1⟩
      have HB := hide ((unhide HA).2.2.trans (hb1.mono (unhide HA).2.2.size))
      clear hb1 HK
      go_wp2_with fail
      go_ret
      exact ⟨rfl, unhide HB⟩
  · rw [m] at K
    have HK := hide K
    clear K
    obtain ⟨sz, rfl, hsz⟩ := fitsI_nat (MayS.fits m)
    have HM := hide m
    have hnn : n = nW sz := by have := MayS.len m; rw [unhide HL] at this; simpa using this
    have HN := hide hnn
    have hn64 : n ≤ 64 := by rw [hnn]; unfold nW; omega
    have hsn : sz ≤ 64 * n := by rw [hnn]; unfold nW; omega
    have HZ := hide (show ∀ x, sz ≤ x → x < 64 * n → hasB (gW xs) x = false from fun x h1 h2 => MayS.zero m x (by simpa using h1) (by rw [unhide HL]; exact h2))
    clear hnn
    obtain ⟨k, hk⟩ : ∃ k : Nat, max e 0 = (k : Int) := ⟨(max e 0).toNat, by omega⟩
    have eR : nextR (sz : Int) xs e = firstX (fun x => hasB (gW xs) x && decide ((k : Int) ≤ (x : Int))) sz := by
      simp only [nextR, m, if_true, Int.toNat_natCast]
      congr 1
      funext x
      congr 1
      rw [Bool.eq_iff_iff]
      simp only [decide_eq_true_eq]
      omega
    rw [eR]
    clear eR
    have HNF := hide (show ∀ j, NextI (gW xs) k j 0 → j + 1 = n → firstX (fun x => hasB (gW xs) x && decide ((k : Int) ≤ (x : Int))) sz = -1 from fun j hj hn => hj.none_found hn hsn)
    have HFD := hide (show ∀ j y, NextI (gW xs) k j y → 0 < y → j < n → firstX (fun x => hasB (gW xs) x && decide ((k : Int) ≤ (x : Int))) sz = ((64 * j + tz64 y : Nat) : Int) from fun j y hj h0 hn => hj.found h0 hn (unhide HZ))
    have HNO := hide (show sz ≤ k → firstX (fun x => hasB (gW xs) x && decide ((k : Int) ≤ (x : Int))) sz = -1 from fun hh => firstX_none (fun x hx => by rw [decide_eq_false (by omega), Bool.and_false]))
    obtain ⟨R, hR⟩ : ∃ R, firstX (fun x => hasB (gW xs) x && decide ((k : Int) ≤ (x : Int))) sz = R := ⟨_, rfl⟩
    rw [hR] at HNF HFD HNO ⊢
    clear hR m HM
    by_cases hneg : e < 0
    · have hk0 : k = 0 := by omega
      by_cases h1 : 0 < sz
      · have h1' : (0 : Int) < (sz : Int) := by omega
        have h1'' : ¬ (sz : Int) ≤ 0 := by omega
        have hn0 : 0 < n := by omega
        have hn0' : (0 : Int) < (n : Int) := by omega
        have HC := hide (show ∀ w', SlW w' a n c xs → ∃ b off, a = some ⟨b, off, none⟩ ∧ ∀ j, j < n → w'.cell? ⟨b, off + j, none⟩ = some (vU (gW xs j)) from fun w' h => by
          obtain ⟨b, off, h1, h2⟩ := h.at (by omega)
          exact ⟨b, off, h1, fun j hj => h2 j hj⟩)
        have KB : ∀ w, Calls Tryd.prog 44 #[.int .i64 0] w fun r w' => r = .returned (.int .u64 1) ∧ w' = w := fun w => by simpa using bit_any 0 w (by decide)
        have HKB := hide KB
        have hx := gW_ok (unhide HO) 0
        have ha : bits .andNot .u64 ((gW xs 0 : Nat) : Int) 0 = ((gW xs 0 : Nat) : Int) := by
          have := u64_andNot_nat (gW xs 0) 0 hx (by decide)
          rw [show gW xs 0 &&& (18446744073709551615 - 0) = gW xs 0 from by apply Nat.eq_of_testBit_eq; intro j; rw [Nat.testBit_and]; by_cases hj : j < 64; rw [tb_not (by decide) hj]; simp; rw [tb_big hx (by omega)]; rfl] at this
          exact this
        have HI := hide (show NextI (gW xs) k 0 (gW xs 0) by
          rw [hk0]
          exact ⟨hx, fun x h1 h2 => by omega, fun j hj => by rw [hasB_word _ _ _ hj]; simp⟩)
        clear KB
        go_enter Tryd.func14, Tryd.ntmps14
        go_wp2_with fail
        refine (unhide HK).mono ?_
        rintro _ w1 ⟨rfl, hb1⟩
        have HB := hide ((unhide HA).2.2.trans (hb1.mono (unhide HA).2.2.size))
        have HS := hide ((unhide HA).2.1.below hb1)
        have tA := (unhide HA).1.keep hb1
        have b0 := tA.c0
        have b1 := tA.c1
        obtain ⟨b, off, rfl, hcell⟩ := unhide HC _ (unhide HS)
        have HG := hide hcell
        have HTb := hide ((unhide HTb).below hb1)
        clear hb1 HK HA tA hcell HC
        have g := (unhide HG) 0 hn0
        rw [Nat.add_zero] at g
        unfold vU at g
        have hkq : k / 64 ≤ 0 := by omega
        obtain ⟨y0, hy0⟩ : ∃ y0, gW xs 0 = y0 := ⟨_, rfl⟩
        rw [hy0] at g HI ha hx
        clear hy0 hk hk0
        go_wp2_with fail
        go_quiet ((go_at_call 44; exact Calls.quiet_of_same (unhide HKB _)))
        go_wp2_with fail
        go_loopw [5, 6] (fun i v wr => ∃ j y : Nat, i = .int .i64 j ∧ v = .int .u64 y ∧ k / 64 ≤ j ∧ j < n ∧ NextI (gW xs) k j y ∧ ∃ dr : Nat, wr = w1.drewN dr) (fun i _ _ => n - (intOf i).toNat)
        case atStart => exact ⟨0, y0, rfl, rfl, hkq, hn0, unhide HI, _, rfl⟩
        case round =>
          obtain ⟨j, y, rfl, rfl, hj1, hj2, hI, dr, rfl⟩ := hrel
          have hyl := hI.lt
          have HIj := hide hI
          clear hI
          rcases Nat.eq_zero_or_pos y with hy | hy
          · have HY := hide hy
            have c2 : (y : Int) = 0 := by omega
            have HI0 := hide (show NextI (gW xs) k j 0 by have := unhide HIj; rwa [hy] at this)
            clear hy
            by_cases hn : j + 1 = n
            · have HR1 := hide (unhide HNF j (unhide HI0) hn)
              have d1 : ((j : Int) + 1 == (n : Int)) = true := by simp; omega
              have d2 : (j : Int) + 1 = (n : Int) := by omega
              have HD2 := hide d2
              clear d2 hn
              go_wp2_with fail
              go_ret
              rw [unhide HR1]
              exact ⟨rfl, bel_drewN (unhide HB) _⟩
            · have d1 : ((j : Int) + 1 == (n : Int)) = false := by simp; omega
              have d2 : ¬ (j : Int) + 1 = (n : Int) := by omega
              have hj3 : j + 1 < n := by omega
              have hjn : (j : Int) + 1 < (n : Int) := by omega
              have g := (unhide HG) (j + 1) hj3
              unfold vU at g
              have HI1 := hide ((unhide HI0).next (gW_ok (unhide HO) (j + 1)) hj1)
              obtain ⟨x, hx⟩ : ∃ x, gW xs (j + 1) = x := ⟨_, rfl⟩
              rw [hx] at g HI1
              have htn : ((j : Int) + 1).toNat = j + 1 := by omega
              clear hx
              go_wp2_with fail
              exact ⟨⟨j + 1, x, by go_num, rfl, by omega, hj3, unhide HI1, dr, by first | trivial | rfl⟩, by simp [intOf]; omega⟩
          · have c1 : ((y : Int) == 0) = false := by simp; omega
            have c2 : ¬ (y : Int) = 0 := by omega
            have HR1 := hide (unhide HFD j y (unhide HIj) hy hj2)
            have HKT := hide (tz64_any y (w1.drewN dr) hy hyl ((unhide HTb).below (bel_drewN (Below.refl _ _) dr)))
            have ht := tz64_lt hy hyl
            generalize tz64 y = tz at *
            clear HIj HFD HNF HNO
            go_wp2_with fail
            refine (unhide HKT).mono ?_
            rintro _ w' ⟨rfl, hw⟩
            obtain rfl := hw.symm
            go_wp2_with fail
            go_ret
            rw [unhide HR1]
            exact ⟨by go_num, bel_drewN (unhide HB) _⟩
      · have HR1 := hide (unhide HNO (by omega))
        rw [unhide HR1]
        have h1'' : (sz : Int) ≤ 0 := by omega
        clear hk hk0 HR1
        go_enter Tryd.func14, Tryd.ntmps14
        go_wp2_with fail
        refine (unhide HK).mono ?_
        rintro _ w1 ⟨rfl, hb1⟩
        have HB := hide ((unhide HA).2.2.trans (hb1.mono (unhide HA).2.2.size))
        have HS := hide ((unhide HA).2.1.below hb1)
        have tA := (unhide HA).1.keep hb1
        have b0 := tA.c0
        have b1 := tA.c1
        clear hb1 HK HA tA
        go_wp2_with fail
        go_ret
        exact ⟨rfl, unhide HB⟩
    · obtain ⟨k', rfl⟩ : ∃ k' : Nat, e = (k' : Int) := ⟨e.toNat, by omega⟩
      obtain rfl : k' = k := by omega
      have hneg' : ¬ ((k' : Nat) : Int) < 0 := by omega
      by_cases h1 : k' < sz
      · have h1' : (k' : Int) < (sz : Int) := by omega
        have h1'' : ¬ (sz : Int) ≤ (k' : Int) := by omega
        have KB := bit_any k'
        obtain ⟨q, hq⟩ : ∃ q, k' / 64 = q := ⟨_, rfl⟩
        have hqi : (k' : Int) / 64 = (q : Int) := by omega
        have hqw : IntKind.i64.wrap (q : Int) = (q : Int) := by rw [wrap_i64]; omega
        have hqn : q < n := by omega
        have hqn' : (q : Int) < (n : Int) := by omega
        have hq0 : (0 : Int) ≤ (q : Int) := by omega
        have hr : k' % 64 < 64 := Nat.mod_lt _ (by decide)
        have hx := gW_ok (unhide HO) q
        have HC := hide (show ∀ w', SlW w' a n c xs → ∃ b off, a = some ⟨b, off, none⟩ ∧ ∀ j, j < n → w'.cell? ⟨b, off + j, none⟩ = some (vU (gW xs j)) from fun w' h => by
          obtain ⟨b, off, h1, h2⟩ := h.at (by omega)
          exact ⟨b, off, h1, fun j hj => h2 j hj⟩)
        have hm := pow_lt64 hr
        have hm0 := Nat.two_pow_pos (k' % 64)
        have ha := u64_andNot_nat (gW xs q) (2 ^ (k' % 64) - 1) hx (by omega)
        have HI := hide (show NextI (gW xs) k' q (anot (gW xs q) (2 ^ (k' % 64) - 1)) by
          have := NextI.start (f := gW xs) (e := k') (by rw [hq]; exact hx)
          rwa [hq] at this)
        have ha2 : bits .andNot .u64 ((gW xs q : Nat) : Int) ((2 ^ (k' % 64) - 1 : Nat) : Int) = ((anot (gW xs q) (2 ^ (k' % 64) - 1) : Nat) : Int) := ha
        have hyl := anot_lt (y := 2 ^ (k' % 64) - 1) hx
        have hsub : ((2 ^ (k' % 64) : Nat) : Int) - 1 = ((2 ^ (k' % 64) - 1 : Nat) : Int) := by omega
        have hk1 : k' < 1000000 := by omega
        have HKB := hide (fun w => KB w hk1)
        generalize anot (gW xs q) (2 ^ (k' % 64) - 1) = y0 at *
        generalize 2 ^ (k' % 64) - 1 = m1 at *
        generalize 2 ^ (k' % 64) = mm at *
        have hkq : k' / 64 ≤ q := by omega
        clear KB ha hq hk
        go_enter Tryd.func14, Tryd.ntmps14
        go_wp2_with fail
        refine (unhide HK).mono ?_
        rintro _ w1 ⟨rfl, hb1⟩
        have HB := hide ((unhide HA).2.2.trans (hb1.mono (unhide HA).2.2.size))
        have HS := hide ((unhide HA).2.1.below hb1)
        have tA := (unhide HA).1.keep hb1
        have b0 := tA.c0
        have b1 := tA.c1
        obtain ⟨b, off, rfl, hcell⟩ := unhide HC _ (unhide HS)
        have HG := hide hcell
        have HTb := hide ((unhide HTb).below hb1)
        clear hb1 HK HA tA hcell HC
        have g := (unhide HG) q hqn
        unfold vU at g
        generalize gW xs q = x0 at *
        go_wp2_with fail
        go_quiet ((go_at_call 44; exact Calls.quiet_of_same (unhide HKB _)))
        go_wp2_with fail
        go_loopw [5, 6] (fun i v wr => ∃ j y : Nat, i = .int .i64 j ∧ v = .int .u64 y ∧ k' / 64 ≤ j ∧ j < n ∧ NextI (gW xs) k' j y ∧ ∃ dr : Nat, wr = w1.drewN dr) (fun i _ _ => n - (intOf i).toNat)
        case atStart => exact ⟨q, y0, rfl, rfl, hkq, hqn, unhide HI, _, rfl⟩
        case round =>
          obtain ⟨j, y, rfl, rfl, hj1, hj2, hI, dr, rfl⟩ := hrel
          have hyl := hI.lt
          have HIj := hide hI
          clear hI
          rcases Nat.eq_zero_or_pos y with hy | hy
          · have HY := hide hy
            have c2 : (y : Int) = 0 := by omega
            have HI0 := hide (show NextI (gW xs) k' j 0 by have := unhide HIj; rwa [hy] at this)
            clear hy
            by_cases hn : j + 1 = n
            · have HR1 := hide (unhide HNF j (unhide HI0) hn)
              have d1 : ((j : Int) + 1 == (n : Int)) = true := by simp; omega
              have d2 : (j : Int) + 1 = (n : Int) := by omega
              have HD2 := hide d2
              clear d2 hn
              go_wp2_with fail
              go_ret
              rw [unhide HR1]
              exact ⟨rfl, bel_drewN (unhide HB) _⟩
            · have d1 : ((j : Int) + 1 == (n : Int)) = false := by simp; omega
              have d2 : ¬ (j : Int) + 1 = (n : Int) := by omega
              have hj3 : j + 1 < n := by omega
              have hjn : (j : Int) + 1 < (n : Int) := by omega
              have g := (unhide HG) (j + 1) hj3
              unfold vU at g
              have HI1 := hide ((unhide HI0).next (gW_ok (unhide HO) (j + 1)) hj1)
              obtain ⟨x, hx⟩ : ∃ x, gW xs (j + 1) = x := ⟨_, rfl⟩
              rw [hx] at g HI1
              have htn : ((j : Int) + 1).toNat = j + 1 := by omega
              clear hx
              go_wp2_with fail
              exact ⟨⟨j + 1, x, by go_num, rfl, by omega, hj3, unhide HI1, dr, by first | trivial | rfl⟩, by simp [intOf]; omega⟩
          · have c1 : ((y : Int) == 0) = false := by simp; omega
            have c2 : ¬ (y : Int) = 0 := by omega
            have HR1 := hide (unhide HFD j y (unhide HIj) hy hj2)
            have HKT := hide (tz64_any y (w1.drewN dr) hy hyl ((unhide HTb).below (bel_drewN (Below.refl _ _) dr)))
            have ht := tz64_lt hy hyl
            generalize tz64 y = tz at *
            clear HIj HFD HNF HNO
            go_wp2_with fail
            refine (unhide HKT).mono ?_
            rintro _ w' ⟨rfl, hw⟩
            obtain rfl := hw.symm
            go_wp2_with fail
            go_ret
            rw [unhide HR1]
            exact ⟨by go_num, bel_drewN (unhide HB) _⟩
      · have HR1 := hide (unhide HNO (by omega))
        rw [unhide HR1]
        have h1'' : (sz : Int) ≤ (k' : Int) := by omega
        clear hk HR1
        go_enter Tryd.func14, Tryd.ntmps14
        go_wp2_with fail
        refine (unhide HK).mono ?_
        rintro _ w1 ⟨rfl, hb1⟩
        have HB := hide ((unhide HA).2.2.trans (hb1.mono (unhide HA).2.2.size))
        have HS := hide ((unhide HA).2.1.below hb1)
        have tA := (unhide HA).1.keep hb1
        have b0 := tA.c0
        have b1 := tA.c1
        clear hb1 HK HA tA
        go_wp2_with fail
        go_ret
        exact ⟨rfl, unhide HB⟩
end Go.Proofs.YtbendkndnojihaaDoor
