/-
  bitset.Last: contract.
-/
import Derived.Test.YtbendkndnojihaaDoorBz2
import Derived.Test.YtbendkndnojihaaDoorBza
import Derived.Test.YtbendkndnojihaaDoorBq0
namespace Go.Proofs.YtbendkndnojihaaDoor
open Go.RowKit Go.Deep
set_option linter.unusedVariables false

set_option maxHeartbeats 8000000 in
set_option maxRecDepth 100000 in
/-- bitset.Last. -/
theorem last_any (s : Int) (a : Option Addr) (n c : Nat) (xs : List Nat) (e : Int) (w : World) (h : SlW w a n c xs) (o : OkW xs) (hl : -9223372036854775808 ≤ e) (hh : e ≤ 9223372036854775807) :
    Calls Tryd.prog 15 #[setV s a n c, .int .i64 e] w fun r w' => r = .returned (.int .i64 (lastR s xs e)) ∧ Below w.heap.size w w' := by
  obtain ⟨wa, hwa⟩ : ∃ x, w.alloc (.cells #[.int .i64 s, .slice a n c] 24) = x := ⟨_, rfl⟩
  have hba : Below w.heap.size w wa := by rw [← hwa]; exact (Below.refl _ _).alloc (Nat.le_refl _) _
  have tA : Two wa w.heap.size (.int .i64 s) (.slice a n c) := by rw [← hwa]; exact Two.made _ _ _ _
  have K := may_any s a n c xs wa (h.below hba) o
  have a0 := tA.c0
  have a1 := tA.c1
  have hle := h.le
  have hcap := h.cap
  unfold maxLen at hcap
  have HA := hide (And.intro tA (And.intro (h.below hba) hba))
  have HO := hide o
  have HL := hide h.len
  clear tA hba h o
  unfold setV at K ⊢
  cases m : MayS s xs
  · rw [m] at K
    have e0 : lastR s xs e = -1 := by simp [lastR, m]
    rw [e0]
    have HK := hide K
    clear K m e0
    go_enter Tryd.func15, Tryd.ntmps15
    go_wp2_with fail
    refine (unhide HK).mono ?_
    rintro _ w1 ⟨rfl, hb1⟩
    have HB := hide ((unhide HA).2.2.trans (hb1.mono (unhide HA).2.2.size))
    clear hb1 HK
    go_wp2_with fail
    go_ret
    exact ⟨rfl, unhide HB⟩
  · rw [m] at K
    have HK := hide K
    clear K
    obtain ⟨sz, rfl, hsz⟩ := fitsI_nat (MayS.fits m)
    have HM := hide m
    have hnn : n = nW sz := by have := MayS.len m; rw [unhide HL] at this; simpa using this
    have HN := hide hnn
    have hn64 : n ≤ 64 := by rw [hnn]; unfold nW; omega
    have hsn : sz ≤ 64 * n := by rw [hnn]; unfold nW; omega
    have HZ := hide (show ∀ x, sz ≤ x → x < 64 * n → hasB (gW xs) x = false from fun x h1 h2 => MayS.zero m x (by simpa using h1) (by rw [unhide HL]; exact h2))
    clear hnn
    have HNF := hide (show ∀ k : Nat, LastI (gW xs) k 0 0 → lastX (fun x => hasB (gW xs) x && decide ((x : Int) ≤ (k : Int))) sz = -1 from fun k hj => hj.none_found)
    have HFD := hide (show ∀ k j y : Nat, LastI (gW xs) k j y → 0 < y → k < sz → lastX (fun x => hasB (gW xs) x && decide ((x : Int) ≤ (k : Int))) sz = ((64 * j + top64 y : Nat) : Int) from fun k j y hj h0 hn => hj.found h0 hn)
    by_cases hs0 : sz = 0
    · have e0 : lastR (sz : Int) xs e = -1 := by
        rw [lastR, if_pos m]
        exact lastX_none (fun x hx => by simp at hx; omega)
      rw [e0]
      have d1 : ((sz : Int) == 0) = true := by simp [hs0]
      have d3 : decide (sz = 0) = true := by simp [hs0]
      clear e0 m hs0
      go_enter Tryd.func15, Tryd.ntmps15
      go_wp2_with fail
      refine (unhide HK).mono ?_
      rintro _ w1 ⟨rfl, hb1⟩
      have HB := hide ((unhide HA).2.2.trans (hb1.mono (unhide HA).2.2.size))
      have HS := hide ((unhide HA).2.1.below hb1)
      have tA := (unhide HA).1.keep hb1
      have b0 := tA.c0
      have b1 := tA.c1
      clear hb1 HK HA tA
      go_wp2_with fail
      go_ret
      exact ⟨rfl, unhide HB⟩
    · have d1 : ((sz : Int) == 0) = false := by simp [hs0]
      have d3 : decide (sz = 0) = false := by simp [hs0]
      by_cases hneg : e < 0
      · have e0 : lastR (sz : Int) xs e = -1 := by
          simp only [lastR, m, if_true]
          exact lastX_none (fun x hx => by rw [decide_eq_false (by omega), Bool.and_false])
        rw [e0]
        clear e0 m
        go_enter Tryd.func15, Tryd.ntmps15
        go_wp2_with fail
        refine (unhide HK).mono ?_
        rintro _ w1 ⟨rfl, hb1⟩
        have HB := hide ((unhide HA).2.2.trans (hb1.mono (unhide HA).2.2.size))
        have HS := hide ((unhide HA).2.1.below hb1)
        have tA := (unhide HA).1.keep hb1
        have b0 := tA.c0
        have b1 := tA.c1
        clear hb1 HK HA tA
        go_wp2_with fail
        go_ret
        exact ⟨rfl, unhide HB⟩
      · obtain ⟨k, hk⟩ : ∃ k : Nat, min e ((sz : Int) - 1) = (k : Int) := ⟨(min e ((sz : Int) - 1)).toNat, by omega⟩
        have hks : k < sz := by omega
        have eR : lastR (sz : Int) xs e = lastX (fun x => hasB (gW xs) x && decide ((x : Int) ≤ (k : Int))) sz := by
          simp only [lastR, m, if_true, Int.toNat_natCast]
          exact lastX_congr (fun x hx => by rw [show decide ((x : Int) ≤ e) = decide ((x : Int) ≤ (k : Int)) from by rw [Bool.eq_iff_iff]; simp only [decide_eq_true_eq]; omega])
        rw [eR]
        have HNF := hide (unhide HNF k)
        have HFD := hide (unhide HFD k)
        obtain ⟨R, hR⟩ : ∃ R, lastX (fun x => hasB (gW xs) x && decide ((x : Int) ≤ (k : Int))) sz = R := ⟨_, rfl⟩
        rw [hR] at HNF HFD ⊢
        have KB := bit_any k
        obtain ⟨q, hq⟩ : ∃ q, k / 64 = q := ⟨_, rfl⟩
        have hqi : (k : Int) / 64 = (q : Int) := by omega
        have hqw : IntKind.i64.wrap (q : Int) = (q : Int) := by rw [wrap_i64]; omega
        have hqn : q < n := by omega
        have hqn' : (q : Int) < (n : Int) := by omega
        have hq0 : (0 : Int) ≤ (q : Int) := by omega
        have hr : k % 64 < 64 := Nat.mod_lt _ (by decide)
        have hx := gW_ok (unhide HO) q
        have HC := hide (show ∀ w', SlW w' a n c xs → ∃ b off, a = some ⟨b, off, none⟩ ∧ ∀ j, j < n → w'.cell? ⟨b, off + j, none⟩ = some (vU (gW xs j)) from fun w' h => by
          obtain ⟨b, off, h1, h2⟩ := h.at (by omega)
          exact ⟨b, off, h1, fun j hj => h2 j hj⟩)
        have hm := pow_lt64 hr
        have hm0 := Nat.two_pow_pos (k % 64)
        have ho := u64_or_nat (2 ^ (k % 64)) (2 ^ (k % 64) - 1) hm (by omega)
        have ha := u64_and_nat (gW xs q) (2 ^ (k % 64) ||| (2 ^ (k % 64) - 1)) hx (or_lt64 hm (by omega))
        have HI := hide (show LastI (gW xs) k q (gW xs q &&& (2 ^ (k % 64) ||| (2 ^ (k % 64) - 1))) by
          have := LastI.start (f := gW xs) (e := k) (by rw [hq]; exact hx)
          rwa [hq] at this)
        have hsub : ((2 ^ (k % 64) : Nat) : Int) - 1 = ((2 ^ (k % 64) - 1 : Nat) : Int) := by omega
        have hk1 : k < 1000000 := by omega
        have HKB := hide (fun w => KB w hk1)
        generalize gW xs q &&& (2 ^ (k % 64) ||| (2 ^ (k % 64) - 1)) = y0 at *
        generalize 2 ^ (k % 64) ||| (2 ^ (k % 64) - 1) = m2 at *
        generalize 2 ^ (k % 64) - 1 = m1 at *
        generalize 2 ^ (k % 64) = mm at *
        have hkq : q ≤ k / 64 := by omega
        clear KB hq hR eR m
        by_cases hes : e ≤ (sz : Int) - 1
        · obtain rfl : e = (k : Int) := by omega
          have f1 : ¬ (sz : Int) - 1 < (k : Int) := by omega
          clear hk
          go_enter Tryd.func15, Tryd.ntmps15
          go_wp2_with fail
          refine (unhide HK).mono ?_
          rintro _ w1 ⟨rfl, hb1⟩
          have HB := hide ((unhide HA).2.2.trans (hb1.mono (unhide HA).2.2.size))
          have HS := hide ((unhide HA).2.1.below hb1)
          have tA := (unhide HA).1.keep hb1
          have b0 := tA.c0
          have b1 := tA.c1
          obtain ⟨b, off, rfl, hcell⟩ := unhide HC _ (unhide HS)
          have HG := hide hcell
          clear hb1 HK HA tA hcell HC
          have g := (unhide HG) q hqn
          unfold vU at g
          generalize gW xs q = x0 at *
          go_wp2_with fail
          go_quiet ((go_at_call 44; exact Calls.quiet_of_same (unhide HKB _)))
          go_wp2_with fail
          go_loopw [5, 6] (fun i v wr => ∃ j y : Nat, i = .int .i64 j ∧ v = .int .u64 y ∧ j ≤ k / 64 ∧ j < n ∧ LastI (gW xs) k j y ∧ ∃ dr : Nat, wr = w1.drewN dr) (fun i _ _ => (intOf i).toNat)
          case atStart => exact ⟨q, y0, rfl, rfl, hkq, hqn, unhide HI, _, rfl⟩
          case round =>
            obtain ⟨j, y, rfl, rfl, hj1, hj2, hI, dr, rfl⟩ := hrel
            have hyl := hI.lt
            have HIj := hide hI
            clear hI
            rcases Nat.eq_zero_or_pos y with hy | hy
            · have HY := hide hy
              have c2 : (y : Int) = 0 := by omega
              have HI0 := hide (show LastI (gW xs) k j 0 by have := unhide HIj; rwa [hy] at this)
              clear hy
              by_cases hn : j = 0
              · have HR1 := hide (unhide HNF (by have := unhide HI0; rwa [hn] at this))
                have d1 : (j : Int) - 1 < 0 := by omega
                clear hn
                go_wp2_with fail
                go_ret
                rw [unhide HR1]
                exact ⟨rfl, bel_drewN (unhide HB) _⟩
              · obtain ⟨j', rfl⟩ : ∃ j', j = j' + 1 := ⟨j - 1, by omega⟩
                have hj3 : j' < n := by omega
                have hjn : (j' : Int) < (n : Int) := by omega
                have e1 : ((j' + 1 : Nat) : Int) - 1 = (j' : Int) := by omega
                have e2 : (j' : Int) + 1 - 1 = (j' : Int) := by omega
                have e3 : ¬ (j' : Int) < 0 := by omega
                have g := (unhide HG) j' hj3
                unfold vU at g
                have HI1 := hide ((unhide HI0).next (gW_ok (unhide HO) j') hj1)
                obtain ⟨x, hx⟩ : ∃ x, gW xs j' = x := ⟨_, rfl⟩
                rw [hx] at g HI1
                clear hx
                go_wp2_with fail
                exact ⟨⟨j', x, by go_num, rfl, by omega, hj3, unhide HI1, dr, by first | trivial | rfl⟩, by simp [intOf] <;> omega⟩
            · have c1 : ((y : Int) == 0) = false := by simp; omega
              have c2 : ¬ (y : Int) = 0 := by omega
              have HR1 := hide (unhide HFD j y (unhide HIj) hy hks)
              have HKT := hide (len64_any y (w1.drewN dr) hyl)
              obtain ⟨ht1, ht⟩ := top64_len hy hyl
              rw [ht1] at HKT
              generalize top64 y = tz at *
              clear HIj HFD HNF ht1
              go_wp2_with fail
              refine (unhide HKT).mono ?_
              rintro _ w' ⟨rfl, hw⟩
              obtain rfl := hw.symm
              go_wp2_with fail
              go_ret
              rw [unhide HR1]
              exact ⟨by go_num, bel_drewN (unhide HB) _⟩
        · have hk' : (sz : Int) - 1 = (k : Int) := by omega
          have f1 : (k : Int) < e := by omega
          clear hk
          go_enter Tryd.func15, Tryd.ntmps15
          go_wp2_with fail
          refine (unhide HK).mono ?_
          rintro _ w1 ⟨rfl, hb1⟩
          have HB := hide ((unhide HA).2.2.trans (hb1.mono (unhide HA).2.2.size))
          have HS := hide ((unhide HA).2.1.below hb1)
          have tA := (unhide HA).1.keep hb1
          have b0 := tA.c0
          have b1 := tA.c1
          obtain ⟨b, off, rfl, hcell⟩ := unhide HC _ (unhide HS)
          have HG := hide hcell
          clear hb1 HK HA tA hcell HC
          have g := (unhide HG) q hqn
          unfold vU at g
          generalize gW xs q = x0 at *
          go_wp2_with fail
          go_quiet ((go_at_call 44; exact Calls.quiet_of_same (unhide HKB _)))
          go_wp2_with fail
          go_loopw [5, 6] (fun i v wr => ∃ j y : Nat, i = .int .i64 j ∧ v = .int .u64 y ∧ j ≤ k / 64 ∧ j < n ∧ LastI (gW xs) k j y ∧ ∃ dr : Nat, wr = w1.drewN dr) (fun i _ _ => (intOf i).toNat)
          case atStart => exact ⟨q, y0, rfl, rfl, hkq, hqn, unhide HI, _, rfl⟩
          case round =>
            obtain ⟨j, y, rfl, rfl, hj1, hj2, hI, dr, rfl⟩ := hrel
            have hyl := hI.lt
            have HIj := hide hI
            clear hI
            rcases Nat.eq_zero_or_pos y with hy | hy
            · have HY := hide hy
              have c2 : (y : Int) = 0 := by omega
              have HI0 := hide (show LastI (gW xs) k j 0 by have := unhide HIj; rwa [hy] at this)
              clear hy
              by_cases hn : j = 0
              · have HR1 := hide (unhide HNF (by have := unhide HI0; rwa [hn] at this))
                have d1 : (j : Int) - 1 < 0 := by omega
                clear hn
                go_wp2_with fail
                go_ret
                rw [unhide HR1]
                exact ⟨rfl, bel_drewN (unhide HB) _⟩
              · obtain ⟨j', rfl⟩ : ∃ j', j = j' + 1 := ⟨j - 1, by omega⟩
                have hj3 : j' < n := by omega
                have hjn : (j' : Int) < (n : Int) := by omega
                have e1 : ((j' + 1 : Nat) : Int) - 1 = (j' : Int) := by omega
                have e2 : (j' : Int) + 1 - 1 = (j' : Int) := by omega
                have e3 : ¬ (j' : Int) < 0 := by omega
                have g := (unhide HG) j' hj3
                unfold vU at g
                have HI1 := hide ((unhide HI0).next (gW_ok (unhide HO) j') hj1)
                obtain ⟨x, hx⟩ : ∃ x, gW xs j' = x := ⟨_, rfl⟩
                rw [hx] at g HI1
                clear hx
                go_wp2_with fail
                exact ⟨⟨j', x, by go_num, rfl, by omega, hj3, unhide HI1, dr, by first | trivial | rfl⟩, by simp [intOf] <;> omega⟩
            · have c1 : ((y : Int) == 0) = false := by simp; omega
              have c2 : ¬ (y : Int) = 0 := by omega
              have HR1 := hide (unhide HFD j y (unhide HIj) hy hks)
              have HKT := hide (len64_any y (w1.drewN dr) hyl)
              obtain ⟨ht1, ht⟩ := top64_len hy hyl
              rw [ht1] at HKT
              generalize top64 y = tz at *
              clear HIj HFD HNF ht1
              go_wp2_with fail
              refine (unhide HKT).mono ?_
              rintro _ w' ⟨rfl, hw⟩
              obtain rfl := hw.symm
              go_wp2_with fail
              go_ret
              rw [unhide HR1]
              exact ⟨by go_num, bel_drewN (unhide HB) _⟩
end Go.Proofs.YtbendkndnojihaaDoor
