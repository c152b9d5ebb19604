/-
  bitset.inside, sloperef3.In, sloperef3.May: contracts; which sets may be.
-/
import Derived.Test.YtbendkndnojihaaBt2
namespace Go.Proofs.Ytbendkndnojihaa
open Go.RowKit Go.Deep
set_option linter.unusedVariables false

theorem i64_and63 (n : Int) : bits .and .i64 n 63 = n % 64 := by
  have h63 : (BitVec.ofInt 64 63).toNat = 2 ^ 6 - 1 := by decide
  have key : (BitVec.ofInt 64 n &&& BitVec.ofInt 64 63).toNat = (n % ((2 ^ 64 : Nat) : Int)).toNat % 2 ^ 6 := by
    rw [BitVec.toNat_and, BitVec.toNat_ofInt, h63, Nat.and_two_pow_sub_one_eq_mod]
  show IntKind.i64.wrap ((BitVec.ofInt 64 n &&& BitVec.ofInt 64 63).toNat : Nat) = n % 64
  rw [key, wrap_i64]
  omega

/-- How many bits of the last word stand for numbers. -/
def lastB (n : Nat) : Nat := 64 - (64 - n % 64) % 64
theorem ones_shift : ∀ M : Fin 64, (18446744073709551615 : Nat) / 2 ^ M.val = 2 ^ (64 - M.val) - 1 := by decide +kernel

set_option maxHeartbeats 400000 in
/-- bitset.inside. -/
theorem inside_any (n : Nat) (w : World) (hn : n ≤ 4096) : Calls Try.prog 43 #[.int .i64 (n : Int)] w fun e w' => e = .returned (.int .u64 ((2 ^ lastB n - 1 : Nat) : Int)) ∧ w' = w := by
  have hA := i64_and63 (-(n : Int))
  rw [show -(n : Int) % 64 = (((64 - n % 64) % 64 : Nat) : Int) from by omega] at hA
  have hM : (64 - n % 64) % 64 < 64 := Nat.mod_lt _ (by decide)
  have HE := hide (ones_shift ⟨(64 - n % 64) % 64, hM⟩)
  simp only at HE
  unfold lastB
  generalize (64 - n % 64) % 64 = M at *
  go_enter Try.func43, Try.ntmps43
  go_wp2_with fail
  go_ret
  refine ⟨?_, rfl⟩
  show Ending.returned (.int .u64 ((18446744073709551615 : Int) / 2 ^ M)) = _
  rw [← unhide HE]
  congr 2

theorem tb_int (x i : Nat) : (((x : Int) / 2 ^ i % 2 == 1) : Bool) = x.testBit i := by
  rw [Nat.testBit_eq_decide_div_mod_eq]
  have e : (x : Int) / 2 ^ i = ((x / 2 ^ i : Nat) : Int) := by simp
  rw [e]
  generalize x / 2 ^ i = y
  rw [Bool.eq_iff_iff]
  simp
  omega

set_option maxHeartbeats 800000 in
/-- sloperef3.In. -/
theorem in_any (s : Int) (a : Option Addr) (n c : Nat) (xs : List Nat) (e : Nat) (w : World) (h : SlW w a n c xs) (he : e / 64 < n) (he1 : e < 1000000) :
    Calls Try.prog 44 #[setV s a n c, .int .i64 (e : Int)] w fun r w' => r = .returned (.bool (hasB (fun i => xs.getD i 0) e)) ∧ Below w.heap.size w w' := by
  obtain ⟨q, hq⟩ : ∃ q, e / 64 = q := ⟨_, rfl⟩
  have hqi : (e : Int) / 64 = (q : Int) := by omega
  have hqw : IntKind.i64.wrap (q : Int) = (q : Int) := by rw [wrap_i64]; omega
  unfold hasB
  rw [hq] at he ⊢
  show Calls Try.prog 44 #[setV s a n c, .int .i64 (e : Int)] w fun r w' => r = .returned (.bool ((xs.getD q 0).testBit (e % 64))) ∧ Below w.heap.size w w'
  have hqn : (q : Int) < (n : Int) := by omega
  have hq0 : (0 : Int) ≤ (q : Int) := by omega
  obtain ⟨b, off, rfl, hc⟩ := h.at (by omega)
  obtain ⟨wa, hwa⟩ : ∃ wa, w.alloc (.cells #[.int .i64 s, .slice (some ⟨b, off, none⟩) n c] 24) = wa := ⟨_, rfl⟩
  have hb : Below w.heap.size w wa := by rw [← hwa]; exact (Below.refl _ _).alloc (Nat.le_refl _) _
  have hT : Two wa w.heap.size (.int .i64 s) (.slice (some ⟨b, off, none⟩) n c) := by rw [← hwa]; exact Two.made _ _ _ _
  have t1 := hT.c1
  have g := below_cell hb (hc q he)
  unfold vU at g
  have HT := hide (tb_int (xs.getD q 0) (e % 64))
  generalize xs.getD q 0 = x at *
  have HB := hide hb
  clear hT hb hc h hq
  unfold setV
  go_enter Try.func44, Try.ntmps44
  go_wp2_with fail
  go_ret
  refine ⟨?_, unhide HB⟩
  show Ending.returned (.bool ((x : Int) / 2 ^ (e % 64) % 2 == 1)) = _
  rw [unhide HT]

/-- Which sets may be. -/
def MayS (s : Int) (xs : List Nat) : Bool :=
  fitsI s && decide (xs.length = nW s.toNat) && (List.range (64 * xs.length)).all (fun x => decide (x < s.toNat) || !hasB (fun i => xs.getD i 0) x)
theorem MayS.fits {s : Int} {xs : List Nat} (h : MayS s xs = true) : fitsI s = true := by
  simp only [MayS, Bool.and_eq_true] at h
  exact h.1.1
theorem MayS.len {s : Int} {xs : List Nat} (h : MayS s xs = true) : xs.length = nW s.toNat := by
  simp only [MayS, Bool.and_eq_true, decide_eq_true_eq] at h
  exact h.1.2
theorem MayS.zero {s : Int} {xs : List Nat} (h : MayS s xs = true) (x : Nat) (h1 : s.toNat ≤ x) (h2 : x < 64 * xs.length) : hasB (fun i => xs.getD i 0) x = false := by
  simp only [MayS, Bool.and_eq_true, List.all_eq_true, List.mem_range, Bool.or_eq_true, decide_eq_true_eq, Bool.not_eq_true'] at h
  rcases h.2 x h2 with h3 | h3
  · omega
  · exact h3
theorem MayS.mk {s : Int} {xs : List Nat} (h1 : fitsI s = true) (h2 : xs.length = nW s.toNat) (h3 : ∀ x, s.toNat ≤ x → x < 64 * xs.length → hasB (fun i => xs.getD i 0) x = false) : MayS s xs = true := by
  simp only [MayS, Bool.and_eq_true, List.all_eq_true, List.mem_range, Bool.or_eq_true, decide_eq_true_eq, Bool.not_eq_true']
  refine ⟨⟨h1, h2⟩, fun x hx => ?_⟩
  by_cases h : x < s.toNat
  · exact .inl h
  · exact .inr (h3 x (by omega) hx)
theorem MayS.no {s : Int} {xs : List Nat} {x : Nat} (h1 : s.toNat ≤ x) (h2 : x < 64 * xs.length) (h3 : hasB (fun i => xs.getD i 0) x = true) : MayS s xs = false := by
  cases h : MayS s xs
  · rfl
  · have := MayS.zero h x h1 h2
    rw [this] at h3
    cases h3

set_option maxHeartbeats 2000000 in
/-- sloperef3.May. -/
theorem rmay_any (s : Int) (a : Option Addr) (n c : Nat) (xs : List Nat) (w : World) (h : SlW w a n c xs) :
    Calls Try.prog 13 #[setV s a n c] w fun r w' => r = .returned (.bool (MayS s xs)) ∧ Below w.heap.size w w' := by
  have hle := h.le
  have hcap := h.cap
  unfold maxLen at hcap
  obtain ⟨wa, hwa⟩ : ∃ wa, w.alloc (.cells #[.int .i64 s, .slice a n c] 24) = wa := ⟨_, rfl⟩
  have hb : Below w.heap.size w wa := by rw [← hwa]; exact (Below.refl _ _).alloc (Nat.le_refl _) _
  have hT : Two wa w.heap.size (.int .i64 s) (.slice a n c) := by rw [← hwa]; exact Two.made _ _ _ _
  have t0 := hT.c0
  have t1 := hT.c1
  have HT := hide hT
  have HB := hide hb
  have HS := hide (h.below hb)
  have HL := hide h.len
  clear hT hb h
  unfold setV
  by_cases hf : s < 0 ∨ 4096 < s
  · have e0 : MayS s xs = false := by
      have : fitsI s = false := by simp [fitsI]; omega
      simp [MayS, this]
    rw [e0]
    rcases hf with hf | hf
    all_goals
      go_enter Try.func13, Try.ntmps13
      go_wp2_with fail
      all_goals
        go_ret
        exact ⟨rfl, unhide HB⟩
  · obtain ⟨sz, rfl⟩ := Int.eq_ofNat_of_zero_le (by omega : 0 ≤ s)
    have hsz : sz ≤ 4096 := by omega
    have hf0 : ¬ ((sz : Int) < 0) := by omega
    have hf1 : ¬ (4096 < (sz : Int)) := by omega
    have hq : ((sz : Int) + 63) / 64 = (nW sz : Int) := by unfold nW; omega
    have hN : nW sz ≤ 64 := by unfold nW; omega
    have HNW := hide (show sz ≤ 64 * nW sz ∧ 64 * nW sz < sz + 64 by unfold nW; omega)
    obtain ⟨N, hNN⟩ : ∃ N, nW sz = N := ⟨_, rfl⟩
    rw [hNN] at hq hN HNW
    have HNN := hide hNN
    have hNw : IntKind.i64.wrap (N : Int) = (N : Int) := by rw [wrap_i64]; omega
    clear hf hNN
    by_cases hne : n = N
    · subst hne
      go_enter Try.func13, Try.ntmps13
      go_wp2_with fail
      go_loopw [3] (fun i wr => ∃ k : Nat, i = .int .i64 k ∧ sz ≤ k ∧ k ≤ 64 * n ∧ (∀ x, sz ≤ x → x < k → hasB (fun i => xs.getD i 0) x = false) ∧ Two wr w.heap.size (.int .i64 sz) (.slice a n c) ∧ SlW wr a n c xs ∧ Below w.heap.size w wr) (fun i _ => 64 * n - (intOf i).toNat)
      case atStart => exact ⟨sz, rfl, Nat.le_refl _, (unhide HNW).1, fun x h1 h2 => by omega, unhide HT, unhide HS, unhide HB⟩
      case round =>
        obtain ⟨k, rfl, hk1, hk2, hz, ht, hs, hbl⟩ := hrel
        have v0 := ht.c0
        have v1 := ht.c1
        have HR := hide (And.intro hz (And.intro ht (And.intro hs hbl)))
        clear t0 t1
        by_cases hlt : k < 64 * n
        · have hlt' : (k : Int) < 64 * (n : Int) := by omega
          have K := in_any sz a n c xs k wr hs (by omega) (by omega)
          cases hx : hasB (fun i => xs.getD i 0) k
          · rw [hx] at K
            have HK := hide K
            have HX := hide hx
            unfold setV at HK
            clear hz ht hs hbl K hx
            go_wp2_with fail
            refine (unhide HK).mono ?_
            rintro _ w2 ⟨rfl, hb2⟩
            have HR2 := hide (And.intro ((unhide HR).2.1.keep hb2) (And.intro ((unhide HR).2.2.1.below hb2) ((unhide HR).2.2.2.trans (hb2.mono (unhide HR).2.2.2.size))))
            clear hb2 HK v0 v1
            go_wp2_with fail
            refine ⟨⟨k + 1, by go_num, by omega, by omega, fun x h1 h2 => ?_, (unhide HR2).1, (unhide HR2).2.1, (unhide HR2).2.2⟩, by simp [intOf]; omega⟩
            by_cases hxk : x = k
            · subst hxk; exact unhide HX
            · exact (unhide HR).1 x h1 (by omega)
          · rw [hx] at K
            have HK := hide K
            have HM := hide (MayS.no (s := sz) (xs := xs) (x := k) (by simpa using hk1) (by rw [unhide HL]; exact hlt) hx)
            unfold setV at HK
            clear hz ht hs hbl K hx
            go_wp2_with fail
            refine (unhide HK).mono ?_
            rintro _ w2 ⟨rfl, hb2⟩
            have HB2 := hide ((unhide HR).2.2.2.trans (hb2.mono (unhide HR).2.2.2.size))
            clear hb2 HK
            go_wp2_with fail
            go_ret
            rw [unhide HM]
            exact ⟨rfl, unhide HB2⟩
        · have hlt' : ¬ ((k : Int) < 64 * (n : Int)) := by omega
          have hkn : k = 64 * n := by omega
          have HM := hide (show MayS sz xs = true from MayS.mk (by simp [fitsI]; omega) (by rw [unhide HL]; simpa using (unhide HNN).symm) (fun x h1 h2 => hz x (by simpa using h1) (by rw [unhide HL] at h2; omega)))
          clear hz ht hs hbl
          go_wp2_with fail
          go_ret
          rw [unhide HM]
          exact ⟨rfl, (unhide HR).2.2.2⟩
    · have hne' : ((n : Int) == (N : Int)) = false := by simp; omega
      have e0 : MayS sz xs = false := by
        have h1 := unhide HL
        have h2 := unhide HNN
        simp [MayS]
        intro _ h3
        rw [h1, h2] at h3
        exact absurd h3 hne
      rw [e0]
      go_enter Try.func13, Try.ntmps13
      go_wp2_with fail
      go_ret
      exact ⟨rfl, unhide HB⟩
end Go.Proofs.Ytbendkndnojihaa
