/-
  math/bits.OnesCount64; bitset.count, Count: contracts.
-/
import Derived.Test.YtbendkndnojihaaBn1
import Derived.Test.YtbendkndnojihaaBta
import Derived.Test.YtbendkndnojihaaBtg0
namespace Go.Proofs.Ytbendkndnojihaa
open Go.RowKit Go.Deep
set_option linter.unusedVariables false

theorem i64_and127 (n : Nat) (h : n < 9223372036854775808) : bits .and .i64 (n : Int) 127 = ((n % 128 : Nat) : Int) := by
  have h63 : (BitVec.ofInt 64 127).toNat = 2 ^ 7 - 1 := by decide
  have key : (BitVec.ofInt 64 (n : Int) &&& BitVec.ofInt 64 127).toNat = ((n : Int) % ((2 ^ 64 : Nat) : Int)).toNat % 2 ^ 7 := by
    rw [BitVec.toNat_and, BitVec.toNat_ofInt, h63, Nat.and_two_pow_sub_one_eq_mod]
  show IntKind.i64.wrap ((BitVec.ofInt 64 (n : Int) &&& BitVec.ofInt 64 127).toNat : Nat) = _
  rw [key, wrap_i64]
  omega

def pc64 (x : Nat) : Nat := cntB (fun j => x.testBit j) 64
theorem pc64_le (x : Nat) : pc64 x ≤ 64 := cntB_le _ _
/-- One sum within a word. -/
theorem wsum (a b : Nat) (h : a + b < 18446744073709551616) : IntKind.u64.wrap ((a : Int) + (b : Int)) = ((a + b : Nat) : Int) := by
  rw [show (a : Int) + (b : Int) = ((a + b : Nat) : Int) from by omega]
  exact u64_nat h
theorem wdiv (a k : Nat) : (a : Int) / (k : Int) = ((a / k : Nat) : Int) := by simp

set_option maxHeartbeats 8000000 in
set_option maxRecDepth 100000 in
/-- math/bits.OnesCount64. -/
theorem ones64_any (x : Nat) (w : World) (h : x < 18446744073709551616) :
    Calls Try.prog 84 #[.int .u64 (x : Nat)] w fun e w' => e = .returned (.int .i64 (pc64 x : Nat)) ∧ w' = w := by
  obtain ⟨p1, q1, p2, q2, y3, e1, e2, l1, e3, e4, l2, l3, e5, l4, l5, l6, e6⟩ := swar x h
  obtain ⟨a1, ha1⟩ : ∃ a, x / 2 = a := ⟨_, rfl⟩
  obtain ⟨y1, hy1⟩ : ∃ a, p1 + q1 = a := ⟨_, rfl⟩
  rw [ha1] at e1
  rw [hy1] at e3 e4 l1
  obtain ⟨a2, ha2⟩ : ∃ a, y1 / 4 = a := ⟨_, rfl⟩
  rw [ha2] at e3
  obtain ⟨y2, hy2⟩ : ∃ a, p2 + q2 = a := ⟨_, rfl⟩
  rw [hy2] at e5 l2 l3
  obtain ⟨a3, ha3⟩ : ∃ a, y2 / 16 = a := ⟨_, rfl⟩
  rw [ha3] at e5 l3
  obtain ⟨z, hz⟩ : ∃ b, a3 + y2 = b := ⟨_, rfl⟩
  rw [hz] at e5 l3
  obtain ⟨a4, ha4⟩ : ∃ a, y3 / 256 = a := ⟨_, rfl⟩
  rw [ha4] at e6 l4 l5 l6
  obtain ⟨y4, hy4⟩ : ∃ a, y3 + a4 = a := ⟨_, rfl⟩
  rw [hy4] at e6 l4 l5 l6
  obtain ⟨a5, ha5⟩ : ∃ a, y4 / 65536 = a := ⟨_, rfl⟩
  rw [ha5] at e6 l5 l6
  obtain ⟨y5, hy5⟩ : ∃ a, y4 + a5 = a := ⟨_, rfl⟩
  rw [hy5] at e6 l5 l6
  obtain ⟨a6, ha6⟩ : ∃ a, y5 / 4294967296 = a := ⟨_, rfl⟩
  rw [ha6] at e6 l6
  obtain ⟨y6, hy6⟩ : ∃ a, y5 + a6 = a := ⟨_, rfl⟩
  rw [hy6] at e6 l6
  have g1 : (x : Int) / 2 = (a1 : Int) := by omega
  have f1 : bits .and .u64 (a1 : Int) 6148914691236517205 = (p1 : Int) := by rw [← e1]; exact u64_and_nat a1 6148914691236517205 (by omega) (by decide)
  have f2 : bits .and .u64 (x : Int) 6148914691236517205 = (q1 : Int) := by rw [← e2]; exact u64_and_nat x 6148914691236517205 h (by decide)
  have S1 : (p1 : Int) + (q1 : Int) = (y1 : Int) := by omega
  have U1 := u64_nat l1
  have g2 : (y1 : Int) / 4 = (a2 : Int) := by omega
  have f3 : bits .and .u64 (a2 : Int) 3689348814741910323 = (p2 : Int) := by rw [← e3]; exact u64_and_nat a2 3689348814741910323 (by omega) (by decide)
  have f4 : bits .and .u64 (y1 : Int) 3689348814741910323 = (q2 : Int) := by rw [← e4]; exact u64_and_nat y1 3689348814741910323 l1 (by decide)
  have S2 : (p2 : Int) + (q2 : Int) = (y2 : Int) := by omega
  have U2 := u64_nat l2
  have g3 : (y2 : Int) / 16 = (a3 : Int) := by omega
  have S3 : (a3 : Int) + (y2 : Int) = (z : Int) := by omega
  have U3 := u64_nat l3
  have f5 : bits .and .u64 (z : Int) 1085102592571150095 = (y3 : Int) := by rw [← e5]; exact u64_and_nat z 1085102592571150095 l3 (by decide)
  have g4 : (y3 : Int) / 256 = (a4 : Int) := by omega
  have S4 : (y3 : Int) + (a4 : Int) = (y4 : Int) := by omega
  have U4 := u64_nat (show y4 < 18446744073709551616 by omega)
  have g5 : (y4 : Int) / 65536 = (a5 : Int) := by omega
  have S5 : (y4 : Int) + (a5 : Int) = (y5 : Int) := by omega
  have U5 := u64_nat (show y5 < 18446744073709551616 by omega)
  have g6 : (y5 : Int) / 4294967296 = (a6 : Int) := by omega
  have S6 : (y5 : Int) + (a6 : Int) = (y6 : Int) := by omega
  have U6 := u64_nat (show y6 < 18446744073709551616 by omega)
  have V6 : IntKind.i64.wrap (y6 : Int) = (y6 : Int) := by rw [wrap_i64]; omega
  have f6 : bits .and .i64 (y6 : Int) 127 = ((pc64 x : Nat) : Int) := by rw [i64_and127 y6 l6, e6]; rfl
  clear e1 e2 e3 e4 e5 e6 l1 l2 l3 l4 l5 l6 ha1 hy1 ha2 hy2 ha3 hz ha4 hy4 ha5 hy5 ha6 hy6
  generalize pc64 x = r at *
  go_enter Try.func84, Try.ntmps84
  go_wp2
  go_ret
  exact ⟨rfl, rfl⟩

/-- How many numbers words have. -/
theorem cnt_words (xs : List Nat) (n : Nat) : cntB (hasB (gW xs)) (64 * (n + 1)) = cntB (hasB (gW xs)) (64 * n) + pc64 (gW xs n) := by
  rw [show 64 * (n + 1) = 64 * n + 64 from by omega, cntB_add]
  congr 1
  unfold pc64
  apply cntB_congr
  intro x hx
  unfold hasB
  rw [show (64 * n + x) / 64 = n from by omega, show (64 * n + x) % 64 = x from by omega]

set_option maxHeartbeats 2000000 in
/-- bitset.count. -/
theorem count_any (a : Option Addr) (n c : Nat) (xs : List Nat) (w : World) (h : SlW w a n c xs) (o : OkW xs) (hn : n ≤ 1000000) :
    Calls Try.prog 70 #[.slice a n c] w fun e w' => e = .returned (.int .i64 (cntB (hasB (gW xs)) (64 * n) : Nat)) ∧ w' = w := by
  have hle := h.le
  have hcap := h.cap
  unfold maxLen at hcap
  have HS := hide h
  have HO := hide o
  have HLn := hide h.len
  clear h o
  go_enter Try.func70, Try.ntmps70
  go_wp2_with fail
  go_loopw [8, 3, 5] (fun i v _ wr => ∃ k : Nat, k ≤ n ∧ i = .int .i64 k ∧ v = .int .i64 (cntB (hasB (gW xs)) (64 * k) : Nat) ∧ wr = w) (fun i _ _ _ => n - (intOf i).toNat)
  case atStart => exact ⟨0, Nat.zero_le _, rfl, rfl, rfl⟩
  case round =>
    obtain ⟨k, hk, rfl, rfl, rfl⟩ := hrel
    by_cases hlt : k < n
    · have hlt' : (k : Int) < (n : Int) := by omega
      obtain ⟨b, off, rfl, hc⟩ := (unhide HS).at (by omega)
      have g := hc k hlt
      have hx := gW_ok (unhide HO) k
      have hgk : xs.getD k 0 = gW xs k := rfl
      rw [hgk] at g
      have HE := hide (cnt_words xs k)
      have hb := cntB_le (hasB (gW xs)) (64 * k)
      have hp := pc64_le (gW xs k)
      have K := ones64_any (gW xs k) wr hx
      unfold vU at g
      generalize cntB (hasB (gW xs)) (64 * k) = u at *
      generalize gW xs k = x at *
      generalize pc64 x = v at *
      have HK := hide K
      clear hc K hx hgk
      go_wp2_with fail
      refine (unhide HK).mono ?_
      rintro _ w' ⟨rfl, hw⟩
      obtain rfl := hw.symm
      go_wp2_with fail
      refine ⟨⟨k + 1, by omega, by go_num, ?_, by first | trivial | rfl⟩, by simp [intOf]; omega⟩
      rw [unhide HE]
      go_num
    · have hlt' : ¬ (k : Int) < (n : Int) := by omega
      have hkn : k = n := by omega
      subst hkn
      obtain ⟨u, hu⟩ : ∃ u, cntB (hasB (gW xs)) (64 * k) = u := ⟨_, rfl⟩
      rw [hu]
      have HU := hide hu
      clear hu
      go_wp2_with fail
      go_ret
      rw [unhide HU]
      exact ⟨rfl, rfl⟩

def countR (s : Int) (xs : List Nat) : Nat := if MayS s xs then cntB (hasB (gW xs)) s.toNat else 0
theorem countR_words {s : Int} {xs : List Nat} (h : MayS s xs = true) : countR s xs = cntB (hasB (gW xs)) (64 * xs.length) := by
  have hn : s.toNat ≤ 64 * nW s.toNat := by unfold nW; omega
  rw [countR, if_pos h, MayS.len h]
  obtain ⟨m, hm⟩ : ∃ m, 64 * nW s.toNat = s.toNat + m := ⟨64 * nW s.toNat - s.toNat, by omega⟩
  rw [hm, cntB_add]
  have z : ∀ k, k ≤ m → cntB (fun x => hasB (gW xs) (s.toNat + x)) k = 0 := by
    intro k
    induction k with
    | zero => intro _; rfl
    | succ k ih =>
      intro hk
      simp only [cntB]
      have hz : hasB (gW xs) (s.toNat + k) = false := MayS.zero h (s.toNat + k) (by omega) (by rw [MayS.len h]; omega)
      rw [ih (by omega)]
      simp [hz]
  rw [z m (Nat.le_refl _)]
  rfl
theorem countR_le {s : Int} {xs : List Nat} : countR s xs ≤ 4096 := by
  unfold countR
  split
  · rename_i h
    have := cntB_le (hasB (gW xs)) s.toNat
    have hf := MayS.fits h
    simp [fitsI] at hf
    omega
  · omega

set_option maxHeartbeats 2000000 in
/-- bitset.Count. -/
theorem Count_any (s : Int) (a : Option Addr) (n c : Nat) (xs : List Nat) (w : World) (h : SlW w a n c xs) (o : OkW xs) :
    Calls Try.prog 40 #[setV s a n c] w fun e w' => e = .returned (.int .i64 (countR s xs : Nat)) ∧ Below w.heap.size w w' := by
  obtain ⟨wa, hwa⟩ : ∃ x, w.alloc (.cells #[.int .i64 s, .slice a n c] 24) = x := ⟨_, rfl⟩
  have hba : Below w.heap.size w wa := by rw [← hwa]; exact (Below.refl _ _).alloc (Nat.le_refl _) _
  have tA : Two wa w.heap.size (.int .i64 s) (.slice a n c) := by rw [← hwa]; exact Two.made _ _ _ _
  have K := may_any s a n c xs wa (h.below hba) o
  have a0 := tA.c0
  have a1 := tA.c1
  have HA := hide (And.intro tA (And.intro (h.below hba) hba))
  have HO := hide o
  have HL := hide h.len
  clear tA hba h o
  unfold setV at K ⊢
  cases m : MayS s xs
  · rw [m] at K
    have e0 : countR s xs = 0 := by simp [countR, m]
    rw [e0]
    have HK := hide K
    clear K m e0
    go_enter Try.func40, Try.ntmps40
    go_wp2_with fail
    refine (unhide HK).mono ?_
    rintro _ w1 ⟨rfl, hb1⟩
    have HB := hide ((unhide HA).2.2.trans (hb1.mono (unhide HA).2.2.size))
    clear hb1 HK
    go_wp2_with fail
    go_ret
    exact ⟨rfl, unhide HB⟩
  · rw [m] at K
    rw [countR_words m]
    have hn : n ≤ 1000000 := by
      have hf := MayS.fits m
      have hl := MayS.len m
      rw [unhide HL] at hl
      simp [fitsI] at hf
      rw [hl]; unfold nW; omega
    rw [unhide HL]
    have HK := hide K
    clear K m
    go_enter Try.func40, Try.ntmps40
    go_wp2_with fail
    refine (unhide HK).mono ?_
    rintro _ w1 ⟨rfl, hb1⟩
    have HB := hide ((unhide HA).2.2.trans (hb1.mono (unhide HA).2.2.size))
    have K2 := count_any a n c xs w1 ((unhide HA).2.1.below hb1) (unhide HO) hn
    have tA := (unhide HA).1.keep hb1
    have b1 := tA.c1
    obtain ⟨u, hu⟩ : ∃ u, cntB (hasB (gW xs)) (64 * n) = u := ⟨_, rfl⟩
    rw [hu] at K2
    have HU := hide hu
    have HK2 := hide K2
    clear hb1 HK K2 tA hu
    go_wp2_with fail
    refine (unhide HK2).mono ?_
    rintro _ w' ⟨rfl, hw⟩
    obtain rfl := hw.symm
    go_wp2_with fail
    go_ret
    rw [unhide HU]
    exact ⟨rfl, unhide HB⟩
end Go.Proofs.Ytbendkndnojihaa
