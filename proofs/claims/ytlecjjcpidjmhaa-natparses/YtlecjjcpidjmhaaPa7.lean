/-
  sloperef1.Parse: contract.
-/
import Derived.Test.YtlecjjcpidjmhaaPa6
import Derived.Test.YtlecjjcpidjmhaaRMul
namespace Go.Proofs.Ytlecjjcpidjmhaa
open Go.RowKit Go.Deep
set_option linter.unusedVariables false

/-- What the reading carries. -/
structure RpR (s : ByteArray) (b i : Nat) (w wr : World) (a : Option Addr) (n c : Nat) (zs : List Nat) : Prop where
  sl : Sl wr a n c zs
  rep : Rep (numP s b i) zs
  le : n ≤ 2048
  bel : Below w.heap.size w wr

set_option maxRecDepth 20000 in
set_option maxHeartbeats 16000000 in
theorem rparse_any (s : ByteArray) (b : Int) (w : World) :
    Calls Try.prog 8 #[.string s, .int .i64 b] w fun e w' => PaPost s b w e w' := by
  by_cases hl : 65536 < s.size
  · have HL := hide hl
    have hl' : (65536:Int) < (s.size:Int) := by omega
    go_enter Try.func8, Try.ntmps8
    go_wp2_with fail
    go_ret3
    exact ⟨none, 0, 0, [], _, _, rfl, sl_nil _, Below.refl _ _, .long (unhide HL)⟩
  · have HL := hide hl
    have hl' : ¬ (65536:Int) < (s.size:Int) := by omega
    by_cases hb1 : b < 2
    · go_enter Try.func8, Try.ntmps8
      go_wp2_with fail
      go_ret3
      exact ⟨none, 0, 0, [], _, _, rfl, sl_nil _, Below.refl _ _, .base (by have := unhide HL; omega) (by omega)⟩
    by_cases hb2 : 36 < b
    · go_enter Try.func8, Try.ntmps8
      go_wp2_with fail
      go_ret3
      exact ⟨none, 0, 0, [], _, _, rfl, sl_nil _, Below.refl _ _, .base (by have := unhide HL; omega) (by omega)⟩
    obtain ⟨k, rfl⟩ : ∃ k : Nat, b = (k : Int) := ⟨b.toNat, by omega⟩
    have HB : Hid ((2:Int) ≤ (k:Int) ∧ (k:Int) ≤ 36) := by constructor <;> omega
    have k1 : 2 ≤ k := by omega
    have k2 : k ≤ 36 := by omega
    by_cases h0 : s.size = 0
    · have h0' : (s.size:Int) = 0 := by omega
      have H0 := hide h0
      clear h0
      go_enter Try.func8, Try.ntmps8
      go_wp2_with fail
      go_ret3
      exact ⟨none, 0, 0, [], _, _, rfl, sl_nil _, Below.refl _ _, .none (unhide H0) (unhide HB)⟩
    have h0' : ¬ (s.size:Int) = 0 := by omega
    go_enter Try.func8, Try.ntmps8
    go_wp2_with fail
    go_loop [7] (fun iv => ∃ i : Nat, i ≤ s.size ∧ iv = .int .i64 (i : Nat) ∧ Hid (∀ j, j < i → dig s j < k)) (fun iv => s.size - (intOf iv).toNat)
    case atStart => exact ⟨0, Nat.zero_le _, rfl, fun j hj => by omega⟩
    case round =>
      obtain ⟨i, hi, rfl, HA⟩ := hrel
      by_cases hlt : i < s.size
      · have hlt' : (i:Int) < (s.size:Int) := by omega
        have his := hlt
        go_wp2_with fail
        refine (rdigit_any _ (by have := (s[i]'his).toNat_lt; omega) _).mono ?_
        rintro e w' ⟨rfl, hw⟩
        obtain rfl := hw.symm
        clear hw
        rw [dig_of his]
        by_cases hd : dig s i < k
        · have HA2 := hide (show ∀ j, j < i + 1 → dig s j < k from fun j hj => by
            by_cases e : j = i
            · rw [e]; exact hd
            · exact unhide HA j (by omega))
          have hd' : ¬ (k:Int) ≤ (dig s i : Int) := by omega
          generalize dig s i = D at hd hd' ⊢
          clear HA
          go_wp2_with fail
          exact ⟨⟨i + 1, by omega, by go_num, unhide HA2⟩, by simp [intOf]; omega⟩
        · have hd' : (k:Int) ≤ (dig s i : Int) := by omega
          have HD := hide hd
          generalize hg : dig s i = D at hd hd' ⊢
          clear hg
          go_wp2_with fail
          go_ret3
          exact ⟨none, 0, 0, [], _, _, rfl, sl_nil _, Below.refl _ _, .digit i (by have := unhide HL; omega) (unhide HB) ⟨by omega, unhide HA, .inr (by have := unhide HD; simp only [Int.toNat_natCast]; omega)⟩ his⟩
      · have hin : i = s.size := by omega
        have HALL := hide (show ∀ j, j < s.size → dig s j < k from fun j hj => unhide HA j (by omega))
        have hlt' : ¬ (i:Int) < (s.size:Int) := by omega
        clear HA hin
        go_wp2_with fail
        go_loopw [8, 9] (fun v iv wr => ∃ (j : Nat) (a : Option Addr) (n c : Nat) (zs : List Nat), j ≤ s.size ∧ iv = .int .i64 (j : Nat) ∧ v = .slice a n c ∧ RpR s k j w wr a n c zs) (fun _ iv _ => s.size - (intOf iv).toNat)
        case atStart => exact ⟨0, none, 0, 0, [], Nat.zero_le _, rfl, rfl, sl_nil _, ⟨Ok.nil, .inl rfl, rfl⟩, Nat.zero_le _, Below.refl _ _⟩
        case round =>
          obtain ⟨j, a, n, c, zs, hj, rfl, rfl, hR⟩ := hrel
          by_cases hjl : j < s.size
          · have hjl' : (j:Int) < (s.size:Int) := by omega
            have hRd : RpR s k j w wr.drew a n c zs := ⟨hR.sl.below (Below.refl _ _).drew, hR.rep, hR.le, hR.bel.drew⟩
            have HR := hide hRd
            have hn := hR.le
            have K1 := hide (rfrom_any k wr.drew (by omega))
            have hD := dig_le s j
            obtain ⟨D, hDe⟩ : ∃ D, dig s j = D := ⟨_, rfl⟩
            have HD := hide hDe
            have KD := hide (fun wx => rdigit_any _ (by have := (s[j]'hjl).toNat_lt; omega) wx)
            rw [dig_of hjl, hDe] at KD
            rw [hDe] at hD
            have wk : IntKind.u64.wrap (k:Int) = (k:Int) := by rw [IntKind.wrap_u64]; omega
            have wD : IntKind.u64.wrap (D:Int) = (D:Int) := by rw [IntKind.wrap_u64]; omega
            clear hR hRd hDe
            go_wp2_with fail
            go_region_with (first
              | (go_at_call 34
                 refine (unhide K1).mono ?_
                 clear K1
                 rintro _ w1 ⟨a1, m1, y1, rfl, s1, r1, n1, b1⟩
                 have l1 : m1 ≤ 1 := by
                   have h1 := rep_len_le5 r1 (j := 1) (by omega)
                   have h2 := s1.len
                   omega
                 have H1 := hide (And.intro s1 (And.intro r1 b1))
                 have K2 := hide (rtimes_any a a1 n c m1 m1 zs y1 w1 ((unhide HR).sl.below (unhide H1).2.2) (unhide H1).1 (unhide HR).rep.ok (unhide H1).2.1.ok (by omega))
                 clear s1 r1 n1 b1)
              | (go_at_call 33
                 refine (unhide K2).mono ?_
                 clear K2
                 rintro _ w2 ⟨z2, rfl, s2, o2, v2, b2⟩
                 have H2 := hide (And.intro s2 (And.intro o2 (And.intro v2 b2)))
                 have K3 := hide (rfrom_any D w2 (by omega))
                 clear s2 o2 v2 b2)
              | (go_at_call 30
                 refine (unhide KD _).mono ?_
                 rintro _ _ ⟨rfl, hw⟩
                 obtain rfl := hw.symm
                 clear hw)
              | (go_at_call 34
                 refine (unhide K3).mono ?_
                 clear K3
                 rintro _ w3 ⟨a3, m3, y3, rfl, s3, r3, n3, b3⟩
                 have l3 : m3 ≤ 1 := by
                   have h1 := rep_len_le5 r3 (j := 1) (by omega)
                   have h2 := s3.len
                   omega
                 have H3 := hide (And.intro s3 (And.intro r3 b3))
                 have K4 := hide (rplus_any _ a3 (n + m1) (n + m1) m3 m3 z2 y3 w3 ((unhide H2).1.below (unhide H3).2.2) (unhide H3).1 (unhide H2).2.1 (unhide H3).2.1.ok (by omega) (by omega))
                 clear s3 r3 n3 b3)
              | (go_at_call 32
                 refine (unhide K4).mono ?_
                 clear K4
                 rintro _ w4 ⟨a4, m4, c4, z4, rfl, l4, s4, o4, v4, n4, b4⟩
                 have H4 := hide (And.intro s4 (And.intro o4 (And.intro v4 b4)))
                 have K5 := hide (rtrim_any a4 m4 c4 z4 w4 (unhide H4).1 (unhide H4).2.1 (by omega))
                 clear s4 o4 v4 n4 b4)
              | (go_at_call 31
                 refine (unhide K5).mono ?_
                 clear K5
                 rintro _ w5 ⟨a5, m5, z5, rfl, s5, r5, n5, b5⟩
                 have H5 := hide (And.intro s5 (And.intro r5 b5))
                 clear s5 r5 n5 b5))
            all_goals
              obtain ⟨s5, r5, b5⟩ := unhide H5
              have hval : val z4 = numP s k (j + 1) := by
                rw [(unhide H4).2.2.1, (unhide H2).2.2.1, (unhide HR).rep.val, (unhide H1).2.1.val, (unhide H3).2.1.val, numP_add s k j 1, ← unhide HD]
                simp [numS]
              rw [hval] at r5
              have hbel : Below w.heap.size w w5 := by
                have h0 := (unhide HR).bel
                have h1 := h0.size
                have h2 := (unhide H1).2.2
                have h3 := h2.size
                have h4 := (unhide H2).2.2.2
                have h5 := h4.size
                have h6 := (unhide H3).2.2
                have h7 := h6.size
                have h8 := (unhide H4).2.2.2
                have h9 := h8.size
                exact h0.trans ((h2.mono (by omega)).trans ((h4.mono (by omega)).trans ((h6.mono (by omega)).trans ((h8.mono (by omega)).trans (b5.mono (by omega))))))
              have hlen := s5.len
              have HQ := hide (And.intro s5 (And.intro r5 (And.intro hbel hlen)))
              clear s5 r5 hbel hlen hval b5 H1 H2 H3 H4 H5
              by_cases hbig : 2048 < m5
              · have hbig' : (2048:Int) < (m5:Int) := by omega
                have hfit : fitL (numP s k s.size) = ([], 2) := by
                  refine fitL_big ?_
                  have hh := unhide HQ
                  have h5 := limbs_len_mono5 (numP_mono s (b := k) (by omega) (j + 1) (s.size - (j + 1)))
                  rw [show j + 1 + (s.size - (j + 1)) = s.size from by omega, ← hh.2.1.eq] at h5
                  omega
                have HF := hide hfit
                clear hfit
                go_wp2_with fail
                go_ret3
                exact ⟨none, 0, 0, [], _, _, rfl, sl_nil _, (unhide HQ).2.2.1, .read [] 2 (by have := unhide HL; omega) (by omega) (unhide HB) (unhide HALL) (unhide HF)⟩
              · have hbig' : ¬ (2048:Int) < (m5:Int) := by omega
                go_wp2_with fail
                exact ⟨⟨j + 1, a5, m5, m5, z5, by omega, by go_num, rfl, (unhide HQ).1, (unhide HQ).2.1, by omega, (unhide HQ).2.2.1⟩, by simp [intOf]; omega⟩
          · have hjl' : ¬ (j:Int) < (s.size:Int) := by omega
            have hje : j = s.size := by omega
            have hfit : fitL (numP s k s.size) = (zs, 0) := by
              have e := (limbs_rep (numP s k s.size)).unique (by rw [← hje]; exact hR.rep)
              have hl := hR.sl.len
              have := hR.le
              rw [fitL_ok (by rw [e]; omega), e]
            have HF := hide (And.intro hR hfit)
            clear hfit hje hR
            go_wp2_with fail
            go_ret3
            exact ⟨a, n, c, zs, _, _, rfl, (unhide HF).1.sl, (unhide HF).1.bel, .read zs 0 (by have := unhide HL; omega) (by omega) (unhide HB) (unhide HALL) (unhide HF).2⟩
end Go.Proofs.Ytlecjjcpidjmhaa
