/-
  bitset.Rank: contract.
-/
import Derived.Test.YtbendkndnojihaaDoorBz2
import Derived.Test.YtbendkndnojihaaDoorBza
import Derived.Test.YtbendkndnojihaaDoorBq0
namespace Go.Proofs.YtbendkndnojihaaDoor
open Go.RowKit Go.Deep
set_option linter.unusedVariables false

set_option maxHeartbeats 8000000 in
set_option maxRecDepth 100000 in
/-- bitset.Rank. -/
theorem rank_any (s : Int) (a : Option Addr) (n c : Nat) (xs : List Nat) (e : Int) (w : World) (h : SlW w a n c xs) (o : OkW xs) (hl : -9223372036854775808 ≤ e) (hh : e ≤ 9223372036854775807) :
    Calls Tryd.prog 10 #[setV s a n c, .int .i64 e] w fun r w' => r = .returned (.int .i64 ((rankR s xs e : Nat))) ∧ Below w.heap.size w w' := by
  obtain ⟨wa, hwa⟩ : ∃ x, w.alloc (.cells #[.int .i64 s, .slice a n c] 24) = x := ⟨_, rfl⟩
  have hba : Below w.heap.size w wa := by rw [← hwa]; exact (Below.refl _ _).alloc (Nat.le_refl _) _
  have tA : Two wa w.heap.size (.int .i64 s) (.slice a n c) := by rw [← hwa]; exact Two.made _ _ _ _
  have K := may_any s a n c xs wa (h.below hba) o
  have a0 := tA.c0
  have a1 := tA.c1
  have hle := h.le
  have hcap := h.cap
  unfold maxLen at hcap
  have HA := hide (And.intro tA (And.intro (h.below hba) hba))
  have HO := hide o
  have HL := hide h.len
  clear tA hba h o
  unfold setV at K ⊢
  cases m : MayS s xs
  · rw [m] at K
    have e0 : (rankR s xs e : Nat) = 0 := by simp [rankR, m]
    rw [e0]
    have HK := hide K
    clear K m e0
    go_enter Tryd.func10, Tryd.ntmps10
    go_wp2_with fail
    refine (unhide HK).mono ?_
    rintro _ w1 ⟨rfl, hb1⟩
    have HB := hide ((unhide HA).2.2.trans (hb1.mono (unhide HA).2.2.size))
    clear hb1 HK
    go_wp2_with fail
    go_ret
    exact ⟨rfl, unhide HB⟩
  · rw [m] at K
    have HK := hide K
    clear K
    obtain ⟨sz, rfl, hsz⟩ := fitsI_nat (MayS.fits m)
    have HM := hide m
    have hnn : n = nW sz := by have := MayS.len m; rw [unhide HL] at this; simpa using this
    have HN := hide hnn
    have hn64 : n ≤ 64 := by rw [hnn]; unfold nW; omega
    have hsn : sz ≤ 64 * n := by rw [hnn]; unfold nW; omega
    have HZ := hide (show ∀ x, sz ≤ x → x < 64 * n → hasB (gW xs) x = false from fun x h1 h2 => MayS.zero m x (by simpa using h1) (by rw [unhide HL]; exact h2))
    clear hnn
    by_cases h0 : e ≤ 0
    · have e0 : ((rankR (sz : Int) xs e : Nat) : Int) = 0 := by
        have : min e.toNat sz = 0 := by omega
        simp [rankR, m, rkN, this, cntB]
      rw [e0]
      clear e0 m
      go_enter Tryd.func10, Tryd.ntmps10
      go_wp2_with fail
      refine (unhide HK).mono ?_
      rintro _ w1 ⟨rfl, hb1⟩
      have HB := hide ((unhide HA).2.2.trans (hb1.mono (unhide HA).2.2.size))
      have HS := hide ((unhide HA).2.1.below hb1)
      have tA := (unhide HA).1.keep hb1
      have b0 := tA.c0
      have b1 := tA.c1
      clear hb1 HK HA tA
      go_wp2_with fail
      go_ret
      exact ⟨rfl, unhide HB⟩
    · by_cases h1 : (sz : Int) ≤ e
      · have e0 : rankR (sz : Int) xs e = cntB (hasB (gW xs)) (64 * n) := by
          have h2 : rankR (sz : Int) xs e = countR (sz : Int) xs := by
            have : min e.toNat sz = sz := by omega
            simp [rankR, m, rkN, countR, this]
          rw [h2, countR_words m, unhide HL]
        rw [e0]
        clear e0 m
        go_enter Tryd.func10, Tryd.ntmps10
        go_wp2_with fail
        refine (unhide HK).mono ?_
        rintro _ w1 ⟨rfl, hb1⟩
        have HB := hide ((unhide HA).2.2.trans (hb1.mono (unhide HA).2.2.size))
        have HS := hide ((unhide HA).2.1.below hb1)
        have tA := (unhide HA).1.keep hb1
        have b0 := tA.c0
        have b1 := tA.c1
        clear hb1 HK HA tA
        have K2 := count_any a n c xs w1 (unhide HS) (unhide HO) (by omega)
        obtain ⟨u, hu⟩ : ∃ u, cntB (hasB (gW xs)) (64 * n) = u := ⟨_, rfl⟩
        rw [hu] at K2
        have HU := hide hu
        have HK2 := hide K2
        clear K2 hu
        go_wp2_with fail
        refine (unhide HK2).mono ?_
        rintro _ w' ⟨rfl, hw⟩
        obtain rfl := hw.symm
        go_wp2_with fail
        go_ret
        rw [unhide HU]
        exact ⟨rfl, unhide HB⟩
      · obtain ⟨k, rfl⟩ : ∃ k : Nat, e = (k : Int) := ⟨e.toNat, by omega⟩
        obtain ⟨q, hq⟩ : ∃ q, k / 64 = q := ⟨_, rfl⟩
        have hqi : (k : Int) / 64 = (q : Int) := by omega
        have hqw : IntKind.i64.wrap (q : Int) = (q : Int) := by rw [wrap_i64]; omega
        have hqn : q < n := by omega
        have hqn' : (q : Int) < (n : Int) := by omega
        have hq0 : (0 : Int) ≤ (q : Int) := by omega
        have hr : k % 64 < 64 := Nat.mod_lt _ (by decide)
        have hx := gW_ok (unhide HO) q
        have e0 : rankR (sz : Int) xs (k : Int) = cntB (hasB (gW xs)) (64 * q) + pc64 (gW xs q &&& (2 ^ (k % 64) - 1)) := by
          have h2 : rankR (sz : Int) xs (k : Int) = cntB (hasB (gW xs)) k := by
            have : min k sz = k := by omega
            simp [rankR, m, rkN, this]
          rw [h2, show k = 64 * q + k % 64 from by omega, cntB_add]
          congr 1
          rw [show (64 * q + k % 64) % 64 = k % 64 from by omega]
          unfold pc64
          rw [pc_below _ _ (by omega)]
          apply cntB_congr
          intro x hx
          unfold hasB
          rw [show (64 * q + x) / 64 = q from by omega, show (64 * q + x) % 64 = x from by omega]
        rw [e0]
        have KB := bit_any k
        have hm := pow_lt64 hr
        have hm0 := Nat.two_pow_pos (k % 64)
        have ha := u64_and_nat (gW xs q) (2 ^ (k % 64) - 1) hx (by omega)
        have hsub : ((2 ^ (k % 64) : Nat) : Int) - 1 = ((2 ^ (k % 64) - 1 : Nat) : Int) := by omega
        have KO := ones64_any (gW xs q &&& (2 ^ (k % 64) - 1))
        have hxa : gW xs q &&& (2 ^ (k % 64) - 1) < 18446744073709551616 := and_lt64 hx
        have hpc := pc64_le (gW xs q &&& (2 ^ (k % 64) - 1))
        generalize 2 ^ (k % 64) - 1 = m1 at *
        generalize 2 ^ (k % 64) = mm at *
        have HC := hide (show ∀ w', SlW w' a n c xs → ∃ b off, a = some ⟨b, off, none⟩ ∧ w'.cell? ⟨b, off + q, none⟩ = some (vU (gW xs q)) from fun w' h => by
          obtain ⟨b, off, h1, h2⟩ := h.at (by omega)
          exact ⟨b, off, h1, h2 q hqn⟩)
        generalize gW xs q = x at *
        generalize x &&& m1 = y at *
        generalize pc64 y = pc at *
        have HKO := hide (fun w => KO w hxa)
        have hk1 : k < 1000000 := by omega
        have HKB := hide (fun w => KB w hk1)
        have hcl := cntB_le (hasB (gW xs)) (64 * q)
        have HKC := hide (fun (w' : World) (h' : SlW w' a n c xs) => (by
          have K := count_any a q c (xs.take q) w' (h'.pre (Nat.le_of_lt hqn)) (fun z hz => unhide HO z (List.mem_of_mem_take hz)) (by omega)
          have e2 : cntB (hasB (gW (xs.take q))) (64 * q) = cntB (hasB (gW xs)) (64 * q) := by
            apply cntB_congr
            intro z hz
            unfold hasB gW
            have : z / 64 < q := by omega
            simp [List.getD, this]
          rw [e2] at K
          exact K : Calls Tryd.prog 42 #[.slice a q c] w' fun e w'' => e = .returned (.int .i64 (cntB (hasB (gW xs)) (64 * q) : Nat)) ∧ w'' = w'))
        generalize cntB (hasB (gW xs)) (64 * q) = cq at *
        clear KB m e0 hq HM KO
        obtain ⟨b, off, rfl, hcell⟩ := unhide HC _ (unhide HA).2.1
        clear hcell
        go_enter Tryd.func10, Tryd.ntmps10
        go_wp2_with fail
        refine (unhide HK).mono ?_
        rintro _ w1 ⟨rfl, hb1⟩
        have HB := hide ((unhide HA).2.2.trans (hb1.mono (unhide HA).2.2.size))
        have HS := hide ((unhide HA).2.1.below hb1)
        have tA := (unhide HA).1.keep hb1
        have b0 := tA.c0
        have b1 := tA.c1
        clear hb1 HK HA tA
        obtain ⟨b', off', he, g⟩ := unhide HC _ (unhide HS)
        cases he
        have HKC2 := hide (fun k => unhide HKC (w1.drewN k) ((unhide HS).drewN k))
        unfold vU at g
        clear HC HKC
        go_wp2_with fail
        go_quiet ((first | (go_at_call 44; exact Calls.quiet_of_same (unhide HKB _)) | (go_at_call 43; exact Calls.quiet_of_same (unhide HKO _)) | (go_at_call 42; exact Calls.quiet_of_same (unhide HKC2 _))))
        go_wp2_with fail
        go_ret
        exact ⟨rfl, bel_drewN (unhide HB) _⟩
end Go.Proofs.YtbendkndnojihaaDoor
