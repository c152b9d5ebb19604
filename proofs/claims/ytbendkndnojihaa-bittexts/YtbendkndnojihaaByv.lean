/-
  sloperef3.form: its contract.
-/
import Derived.Test.YtbendkndnojihaaByu
namespace Go.Proofs.Ytbendkndnojihaa
open Go.RowKit Go.Deep
set_option linter.unusedVariables false

set_option maxHeartbeats 8000000 in
set_option maxRecDepth 1000000 in
theorem form_any (s : ByteArray) (w : World) (hN : s.size ≤ 65536) :
    Calls Try.prog 50 #[.string s] w fun r w' => ∃ v, r = .returned (.tuple #[v, .int .i64 (fmR s s.size 0 [] 0 0 0 0).2]) ∧ w'.ownsRow w.heap.size 84 3 v (fmR s s.size 0 [] 0 0 0 0).1.length (flatR (fmR s s.size 0 [] 0 0 0 0).1) ∧ Below w.heap.size w w' := by
  obtain ⟨i3, hi, hz, hs, hb⟩ := info_parts Try.info_nr
  have HInf := hide (And.intro hi (And.intro hz (And.intro hs hb)))
  clear hi hz hs hb
  obtain ⟨X, hX⟩ : ∃ X, fmR s s.size 0 [] 0 0 0 0 = X := ⟨_, rfl⟩
  have HX := hide hX
  rw [hX]
  clear hX
  obtain ⟨wa, hwa⟩ : ∃ x, w.alloc (.cells #[.int .i64 0, .int .i64 0, .int .u8 0] 84) = x := ⟨_, rfl⟩
  have hI0 : FmI w wa 0 0 0 [] (.slice none 0 0) := by
    refine ⟨?_, World.ownsRow_nil _ _ _ _, ?_⟩
    · rw [← hwa]; exact Thr.made _ _ _ _ _
    · rw [← hwa]; exact (Below.refl _ _).alloc (Nat.le_refl _) _
  have HI0 := hide hI0
  clear hI0
  go_enter Try.func50, Try.ntmps50
  go_wp2_with fail
  go_loopw [4, 6, 7, 8, 9] (fun v t g i _ wr => ∃ (j : Nat) (l : List Nr) (V A B T G : Nat), j ≤ s.size ∧ i = .int .i64 (j : Int) ∧ t = .int .i64 (T : Int) ∧ g = .int .i64 (G : Int) ∧ T ≤ 2 ∧ G ≤ j ∧ l.length ≤ j ∧ V ≤ 999999 ∧ A ≤ s.size ∧ B < 256 ∧ (0 < G → A < s.size ∧ B = 0) ∧ X = fmR s (s.size - j) j l V A T G ∧ FmI w wr V A B l v) (fun _ _ _ i _ _ => s.size - (intOf i).toNat)
  case atStart =>
    exact ⟨0, [], 0, 0, 0, 0, 0, Nat.zero_le _, rfl, rfl, rfl, by omega, by omega, by simp, by omega, by omega, by omega, by omega, by rw [Nat.sub_zero]; exact (unhide HX).symm, unhide HI0⟩
  case round =>
    obtain ⟨j, l, V, A, B, T, G, hj, rfl, rfl, rfl, hT, hG, hl, hV, hA, hB, hAB, hXj, hst⟩ := hrel
    by_cases hlt : j < s.size
    · have hlt' : (j : Int) < (s.size : Int) := by omega
      have hj0 : (0 : Int) ≤ (j : Int) := by omega
      have hsp := bySt_get s j hlt
      have hc9 := bySt_lt s j
      obtain ⟨c, hc⟩ : ∃ c, bySt s j = c := ⟨_, rfl⟩
      rw [hc] at hsp hc9
      have HS := hide hst
      have n0 := hst.tn.c0
      have n1 := hst.tn.c1
      have n2 := hst.tn.c2
      have m0 := hst.tn.f0
      have m1 := hst.tn.f1
      have m2 := hst.tn.f2
      cases hdg : dgB s j A G
      · have HC := hide (show (c < 48 ∨ 57 < c) ∨ (48 ≤ c ∧ c ≤ 57 ∧ 0 < G ∧ bySt s A = 48) by
          unfold dgB at hdg
          rw [hc] at hdg
          by_cases h1 : c < 48
          · exact .inl (.inl h1)
          · by_cases h2 : 57 < c
            · exact .inl (.inr h2)
            · right
              have h3 : isDg c = true := by simp [isDg]; omega
              rw [h3] at hdg
              simp at hdg
              exact ⟨by omega, by omega, by omega, hdg.2⟩)
        have HDg := hide hdg
        clear hdg
        by_cases hret : (decide (G = 0) || !aftB T c) = true
        · -- no text goes on here
          have hE : X = (l, (j : Int)) := by rw [hXj, fmR_stop hlt (unhide HDg) (by rw [hc]; exact hret)]
          subst hE
          have HFin := hide (And.intro (own_down hst.own (Nat.le_succ _)) hst.bel)
          have KA := after_any T c wr hT hc9
          have hAf : ¬ G = 0 → aftB T c = false := by intro h; simpa [h] using hret
          clear hXj hst hret
          by_cases hG0 : G = 0
          · subst hG0
            rcases unhide HC with (h1 | h1) | ⟨h1, h2, h3, h4⟩
            · have q1 : decide ((48 : Int) ≤ (c : Int)) = false := by simp; omega
              clear hc KA hAf HC h1
              go_wp2_with fail
              refine bodyPost_ret (by simp [results, Try.results50, go_sem]; try rfl) rfl ?_
              exact ⟨_, rfl, (unhide HFin).1, (unhide HFin).2⟩
            · have q1 : (48 : Int) ≤ ((s[j]'hlt).toNat : Int) := by rw [hsp]; omega
              have q2 : ¬ ((s[j]'hlt).toNat : Int) ≤ 57 := by rw [hsp]; omega
              clear hc KA hAf HC h1
              go_wp2_with fail
              refine bodyPost_ret (by simp [results, Try.results50, go_sem]; try rfl) rfl ?_
              exact ⟨_, rfl, (unhide HFin).1, (unhide HFin).2⟩
            · omega
          · have hGp : 0 < G := by omega
            obtain ⟨hAl, rfl⟩ := hAB hGp
            have hA' : (A : Int) < (s.size : Int) := by omega
            have hA0 : (0 : Int) ≤ (A : Int) := by omega
            have hspA := bySt_get s A hAl
            rw [hAf hG0] at KA
            have HKA := hide KA
            have qG : ((G : Int) == 0) = false := by simp; omega
            rcases unhide HC with (h1 | h1) | ⟨h1, h2, h3, h4⟩
            · have q1 : decide ((48 : Int) ≤ (c : Int)) = false := by simp; omega
              clear hc KA hAf HC h1 hspA
              go_wp2_with fail
              refine (unhide HKA).mono ?_
              rintro _ w5 ⟨rfl, rfl⟩
              go_wp2_with fail
              refine bodyPost_ret (by simp [results, Try.results50, go_sem]; try rfl) rfl ?_
              exact ⟨_, rfl, (unhide HFin).1, (unhide HFin).2⟩
            · have q1 : (48 : Int) ≤ ((s[j]'hlt).toNat : Int) := by rw [hsp]; omega
              have q2 : ¬ ((s[j]'hlt).toNat : Int) ≤ 57 := by rw [hsp]; omega
              clear hc KA hAf HC h1 hspA
              go_wp2_with fail
              refine (unhide HKA).mono ?_
              rintro _ w5 ⟨rfl, rfl⟩
              go_wp2_with fail
              refine bodyPost_ret (by simp [results, Try.results50, go_sem]; try rfl) rfl ?_
              exact ⟨_, rfl, (unhide HFin).1, (unhide HFin).2⟩
            · have q1 : (48 : Int) ≤ ((s[j]'hlt).toNat : Int) := by rw [hsp]; omega
              have q2 : ((s[j]'hlt).toNat : Int) ≤ 57 := by rw [hsp]; omega
              rw [h4] at hspA
              have qA : (((s[A]'hAl).toNat : Int) == 48) = true := by rw [hspA]; rfl
              clear hc KA hAf HC h1 h2 h3 h4
              go_wp2_with fail
              refine (unhide HKA).mono ?_
              rintro _ w5 ⟨rfl, rfl⟩
              go_wp2_with fail
              refine bodyPost_ret (by simp [results, Try.results50, go_sem]; try rfl) rfl ?_
              exact ⟨_, rfl, (unhide HFin).1, (unhide HFin).2⟩
        · -- the number is at its end
          have hGp : 0 < G := by
            rcases Nat.eq_zero_or_pos G with h | h
            · subst h; simp at hret
            · exact h
          have hAf : aftB T c = true := by
            have h0 : ¬ G = 0 := by omega
            simpa [h0] using hret
          have HX2 := hide (show X = fmR s (s.size - (j + 1)) (j + 1) (l ++ [(V, A, c)]) V A (if c = 45 then 2 else 1) 0 by rw [hXj, fmR_put hlt (unhide HDg) hGp (by rw [hc]; exact hAf), hc])
          obtain ⟨hAl, rfl⟩ := hAB hGp
          have hA' : (A : Int) < (s.size : Int) := by omega
          have hA0 : (0 : Int) ≤ (A : Int) := by omega
          have hspA := bySt_get s A hAl
          have KA := after_any T c wr hT hc9
          rw [hAf] at KA
          have HKA := hide KA
          have qG : ((G : Int) == 0) = false := by simp; omega
          obtain ⟨W2, hW2⟩ : ∃ x, wr.setCell ⟨w.heap.size, 2, none⟩ (.int .u8 (c : Int)) = x := ⟨_, rfl⟩
          have hF := hst.beh c
          rw [hW2] at hF
          have HF := hide hF
          have b0 := hF.tn.c0
          have b1 := hF.tn.c1
          have b2 := hF.tn.c2
          have hlw := hF.tn.lt
          clear hst hXj hret KA hAf hF hAB
          rcases unhide HC with (h1 | h1) | ⟨h1, h2, h3, h4⟩
          · have q1 : decide ((48 : Int) ≤ (c : Int)) = false := by simp; omega
            clear hc HC h1 hspA
            go_wp2_with fail
            refine (unhide HKA).mono ?_
            rintro _ w5 ⟨rfl, rfl⟩
            go_wp2_with (at_builtin; refine wpList_append_lies _ rfl _ _ 80 rfl (w.heap.size + 1) 84 i3 (.agg #[.int .i64 0, .int .i64 0, .int .u8 0]) 3 24 Try.underlying80 (unhide HInf).1 (unhide HInf).2.1 (unhide HInf).2.2.1 (unhide HInf).2.2.2 rfl (by decide) _ l.length (flatR l) rfl ((unhide HF).own.alloc _) ⟨W2.heap.size, 0, none⟩ 1 1 [.int .i64 (V : Int), .int .i64 (A : Int), .int .u8 (c : Int)] rfl rfl (World.news_of_block (alloc_block _ _)) ?c21 (by decide) ?c31 ?c41 ?c51 (W2.heap.size + 1) (by simp) ?_)
            case c21 => intro u hu; simp at hu; rcases hu with rfl | rfl | rfl <;> rfl
            case c31 => unfold maxLen; omega
            case c41 => omega
            case c51 => simp; omega
            intro g9 cap9 w9 hown hg hat hlt2
            have HN9 := hide ((unhide HF).app (e := (V, A, c)) hg hown)
            have hl9 : (l ++ [(V, A, c)]).length = l.length + 1 := by simp
            obtain ⟨L1, hL1⟩ : ∃ L1, l ++ [(V, A, c)] = L1 := ⟨_, rfl⟩
            rw [hL1] at HN9 hl9 HX2
            clear hown hg hat hlt2 HF b0 b1 b2 hL1 n0 n1 n2 m0 m1 m2
            by_cases h45 : c = 45
            · rw [if_pos h45] at HX2
              have z5 : ((c : Int) == 45) = true := by simp; omega
              have hsp2 := hsp
              clear h45
              go_wp2_with fail
              exact ⟨⟨j + 1, L1, V, A, c, 2, 0, by omega, by go_num, rfl, rfl, by omega, by omega, by omega, hV, hA, hc9, fun h => absurd h (by omega), unhide HX2, unhide HN9⟩, by simp [intOf]; omega⟩
            · rw [if_neg h45] at HX2
              have z5 : ((c : Int) == 45) = false := by simp; omega
              clear h45
              go_wp2_with fail
              exact ⟨⟨j + 1, L1, V, A, c, 1, 0, by omega, by go_num, rfl, rfl, by omega, by omega, by omega, hV, hA, hc9, fun h => absurd h (by omega), unhide HX2, unhide HN9⟩, by simp [intOf]; omega⟩
          · have q1 : (48 : Int) ≤ ((s[j]'hlt).toNat : Int) := by rw [hsp]; omega
            have q2 : ¬ ((s[j]'hlt).toNat : Int) ≤ 57 := by rw [hsp]; omega
            clear hc HC h1 hspA
            go_wp2_with fail
            refine (unhide HKA).mono ?_
            rintro _ w5 ⟨rfl, rfl⟩
            go_wp2_with (at_builtin; refine wpList_append_lies _ rfl _ _ 80 rfl (w.heap.size + 1) 84 i3 (.agg #[.int .i64 0, .int .i64 0, .int .u8 0]) 3 24 Try.underlying80 (unhide HInf).1 (unhide HInf).2.1 (unhide HInf).2.2.1 (unhide HInf).2.2.2 rfl (by decide) _ l.length (flatR l) rfl ((unhide HF).own.alloc _) ⟨W2.heap.size, 0, none⟩ 1 1 [.int .i64 (V : Int), .int .i64 (A : Int), .int .u8 (c : Int)] rfl rfl (World.news_of_block (alloc_block _ _)) ?c21 (by decide) ?c31 ?c41 ?c51 (W2.heap.size + 1) (by simp) ?_)
            case c21 => intro u hu; simp at hu; rcases hu with rfl | rfl | rfl <;> rfl
            case c31 => unfold maxLen; omega
            case c41 => omega
            case c51 => simp; omega
            intro g9 cap9 w9 hown hg hat hlt2
            have HN9 := hide ((unhide HF).app (e := (V, A, c)) hg hown)
            have hl9 : (l ++ [(V, A, c)]).length = l.length + 1 := by simp
            obtain ⟨L1, hL1⟩ : ∃ L1, l ++ [(V, A, c)] = L1 := ⟨_, rfl⟩
            rw [hL1] at HN9 hl9 HX2
            clear hown hg hat hlt2 HF b0 b1 b2 hL1 n0 n1 n2 m0 m1 m2
            by_cases h45 : c = 45
            · rw [if_pos h45] at HX2
              have z5 : ((c : Int) == 45) = true := by simp; omega
              have hsp2 := hsp
              clear h45
              go_wp2_with fail
              exact ⟨⟨j + 1, L1, V, A, c, 2, 0, by omega, by go_num, rfl, rfl, by omega, by omega, by omega, hV, hA, hc9, fun h => absurd h (by omega), unhide HX2, unhide HN9⟩, by simp [intOf]; omega⟩
            · rw [if_neg h45] at HX2
              have z5 : ((c : Int) == 45) = false := by simp; omega
              clear h45
              go_wp2_with fail
              exact ⟨⟨j + 1, L1, V, A, c, 1, 0, by omega, by go_num, rfl, rfl, by omega, by omega, by omega, hV, hA, hc9, fun h => absurd h (by omega), unhide HX2, unhide HN9⟩, by simp [intOf]; omega⟩
          · have q1 : (48 : Int) ≤ ((s[j]'hlt).toNat : Int) := by rw [hsp]; omega
            have q2 : ((s[j]'hlt).toNat : Int) ≤ 57 := by rw [hsp]; omega
            rw [h4] at hspA
            have qA : (((s[A]'hAl).toNat : Int) == 48) = true := by rw [hspA]; rfl
            clear hc HC h1 h2 h3 h4
            go_wp2_with fail
            refine (unhide HKA).mono ?_
            rintro _ w5 ⟨rfl, rfl⟩
            go_wp2_with (at_builtin; refine wpList_append_lies _ rfl _ _ 80 rfl (w.heap.size + 1) 84 i3 (.agg #[.int .i64 0, .int .i64 0, .int .u8 0]) 3 24 Try.underlying80 (unhide HInf).1 (unhide HInf).2.1 (unhide HInf).2.2.1 (unhide HInf).2.2.2 rfl (by decide) _ l.length (flatR l) rfl ((unhide HF).own.alloc _) ⟨W2.heap.size, 0, none⟩ 1 1 [.int .i64 (V : Int), .int .i64 (A : Int), .int .u8 (c : Int)] rfl rfl (World.news_of_block (alloc_block _ _)) ?c21 (by decide) ?c31 ?c41 ?c51 (W2.heap.size + 1) (by simp) ?_)
            case c21 => intro u hu; simp at hu; rcases hu with rfl | rfl | rfl <;> rfl
            case c31 => unfold maxLen; omega
            case c41 => omega
            case c51 => simp; omega
            intro g9 cap9 w9 hown hg hat hlt2
            have HN9 := hide ((unhide HF).app (e := (V, A, c)) hg hown)
            have hl9 : (l ++ [(V, A, c)]).length = l.length + 1 := by simp
            obtain ⟨L1, hL1⟩ : ∃ L1, l ++ [(V, A, c)] = L1 := ⟨_, rfl⟩
            rw [hL1] at HN9 hl9 HX2
            clear hown hg hat hlt2 HF b0 b1 b2 hL1 n0 n1 n2 m0 m1 m2
            by_cases h45 : c = 45
            · rw [if_pos h45] at HX2
              have z5 : ((c : Int) == 45) = true := by simp; omega
              have hsp2 := hsp
              clear h45
              go_wp2_with fail
              exact ⟨⟨j + 1, L1, V, A, c, 2, 0, by omega, by go_num, rfl, rfl, by omega, by omega, by omega, hV, hA, hc9, fun h => absurd h (by omega), unhide HX2, unhide HN9⟩, by simp [intOf]; omega⟩
            · rw [if_neg h45] at HX2
              have z5 : ((c : Int) == 45) = false := by simp; omega
              clear h45
              go_wp2_with fail
              exact ⟨⟨j + 1, L1, V, A, c, 1, 0, by omega, by go_num, rfl, rfl, by omega, by omega, by omega, hV, hA, hc9, fun h => absurd h (by omega), unhide HX2, unhide HN9⟩, by simp [intOf]; omega⟩
      · have HX2 := hide (show X = fmR s (s.size - (j + 1)) (j + 1) l (nxV G V (c - 48)) (if G = 0 then j else A) T (G + 1) by rw [hXj, fmR_dg hlt hdg, hc])
        have hd : 48 ≤ c ∧ c ≤ 57 := by
          have : isDg (bySt s j) = true := by unfold dgB at hdg; simp at hdg; exact hdg.1
          rw [hc] at this
          simpa [isDg] using this
        have q1 : (48 : Int) ≤ ((s[j]'hlt).toNat : Int) := by rw [hsp]; omega
        have q2 : ((s[j]'hlt).toNat : Int) ≤ 57 := by rw [hsp]; omega
        by_cases hG0 : G = 0
        · subst hG0
          have HD := hide (show ((s[j]'hlt).toNat : Int) - 48 = ((c - 48 : Nat) : Int) by rw [hsp]; omega)
          have h1 := hst.all 0 j 0
          have a0 := h1.tn.c0
          have a1 := h1.tn.c1
          have a2 := h1.tn.c2
          have b0 := h1.tn.f0
          have HE := hide (h1.val (c - 48))
          clear hst hXj hdg hc h1 hd
          go_wp2_with fail
          refine ⟨⟨j + 1, l, c - 48, j, 0, T, 1, by omega, by go_num, rfl, rfl, hT, by omega, by omega, by omega, by omega, by omega, fun _ => ⟨hlt, rfl⟩, ?_, ?_⟩, by simp [intOf]; omega⟩
          · have h := unhide HX2
            simpa [nxV] using h
          · have h := unhide HE
            rw [show ((c - 48 : Nat) : Int) = (c : Int) - 48 by omega] at h
            exact h
        · have hGp : 0 < G := by omega
          obtain ⟨hAl, rfl⟩ := hAB hGp
          have hA' : (A : Int) < (s.size : Int) := by omega
          have hA0 : (0 : Int) ≤ (A : Int) := by omega
          have hzA : ¬ bySt s A = 48 := by unfold dgB at hdg; simp [hG0] at hdg; exact hdg.2
          have hspA := bySt_get s A hAl
          obtain ⟨cA, hcA⟩ : ∃ c, bySt s A = c := ⟨_, rfl⟩
          rw [hcA] at hspA hzA
          have qA : ((cA : Int) == 48) = false := by simp; omega
          have qG : ((G : Int) == 0) = false := by simp; omega
          rw [if_neg hG0] at HX2
          have HVb := hide hV
          have w1 : IntKind.i64.wrap ((j : Int) + 1) = (j : Int) + 1 := by rw [wrap_i64]; omega
          have w2 : IntKind.i64.wrap ((G : Int) + 1) = (G : Int) + 1 := by rw [wrap_i64]; omega
          have HN := hide hN
          by_cases hv : V < 100000
          · have v1 := hv
            have v2 : IntKind.i64.wrap (10 * (V : Int)) = 10 * (V : Int) := by rw [wrap_i64]; omega
            have v3 : IntKind.i64.wrap (10 * (V : Int) + ((c : Int) - 48)) = 10 * (V : Int) + ((c : Int) - 48) := by rw [wrap_i64]; omega
            have HE := hide (hst.val (10 * V + (c - 48)))
            have HV := hide (show nxV G V (c - 48) = 10 * V + (c - 48) by unfold nxV; rw [if_neg hG0, if_pos hv])
            have HVl := hide hv
            have v4 : IntKind.u8.wrap ((c : Int) - 48) = (c : Int) - 48 := by rw [show IntKind.u8.wrap ((c : Int) - 48) = ((c : Int) - 48) % 256 from rfl]; omega
            have V1 := hide v1
            have V2 := hide (And.intro v2 (And.intro v3 v4))
            clear hst hXj hdg hc hzA hAB hcA hv hV hN v1 v2 v3 v4
            iterate 100 (first | go_values | go_skip | go_guarded | go_step | go_upon | go_back)
            clear q1 q2
            have v1 := unhide V1
            obtain ⟨v2, v3, v4⟩ := unhide V2
            go_wp2_with fail
            refine ⟨⟨j + 1, l, 10 * V + (c - 48), A, 0, T, G + 1, by omega, by go_num, rfl, by go_num, hT, by omega, by omega, by have := unhide HVl; omega, by omega, by omega, fun _ => ⟨hAl, rfl⟩, ?_, ?_⟩, by simp [intOf]; omega⟩
            · rw [unhide HX2, unhide HV]
            · have h := unhide HE
              rw [show ((10 * V + (c - 48) : Nat) : Int) = 10 * (V : Int) + ((c : Int) - 48) by omega] at h
              exact h
          · have v1 := hv
            have HE := hide hst
            have HV := hide (show nxV G V (c - 48) = V by unfold nxV; rw [if_neg hG0, if_neg hv])
            have V1 := hide v1
            clear hst hXj hdg hc hzA hAB hcA hv hV hN v1
            iterate 100 (first | go_values | go_skip | go_guarded | go_step | go_upon | go_back)
            clear q1 q2
            have v1 := unhide V1
            go_wp2_with fail
            refine ⟨⟨j + 1, l, V, A, 0, T, G + 1, by omega, by go_num, rfl, by go_num, hT, by omega, by omega, unhide HVb, by omega, by omega, fun _ => ⟨hAl, rfl⟩, ?_, unhide HE⟩, by simp [intOf]; omega⟩
            rw [unhide HX2, unhide HV]
    · have hlt' : ¬ (j : Int) < (s.size : Int) := by omega
      have HXe := hide (show X = if endB l T G then (l, (s.size : Int)) else (if 0 < G then l ++ [(V, A, 0)] else l, -1) by rw [hXj, fmR_end (by omega)])
      have HS := hide hst
      obtain ⟨a0, c0, hu4⟩ := own_shape hst.own
      subst hu4
      have HFin := hide (And.intro (own_down hst.own (Nat.le_succ _)) hst.bel)
      obtain ⟨n, hn⟩ : ∃ n, l.length = n := ⟨_, rfl⟩
      have n0 := hst.tn.c0
      have n1 := hst.tn.c1
      have n2 := hst.tn.c2
      have hlw := hst.tn.lt
      rw [hn]
      by_cases hG0 : G = 0
      · subst hG0
        by_cases h1 : n = 1
        · by_cases h2 : T = 1
          · have hE : X = (l, -1) := by rw [unhide HXe, if_neg (by unfold endB; simp [hn, h1, h2]), if_neg (by omega)]
            subst hE h2
            have HNn := hide (hn.trans h1)
            subst h1
            clear hXj hst hn
            go_wp2_with fail
            refine bodyPost_ret (by simp [results, Try.results50, go_sem]; try rfl) rfl ?_
            exact ⟨_, rfl, by rw [← unhide HNn]; exact (unhide HFin).1, (unhide HFin).2⟩
          · have hE : X = (l, (s.size : Int)) := by rw [unhide HXe, if_pos (by unfold endB; simp [h2])]
            subst hE
            have e2 : ((T : Int) == 1) = false := by simp; omega
            have e3 : decide (T = 1) = false := by simpa using h2
            have HNn := hide (hn.trans h1)
            subst h1
            clear hXj hst hn
            go_wp2_with fail
            refine bodyPost_ret (by simp [results, Try.results50, go_sem]; try rfl) rfl ?_
            exact ⟨_, rfl, by rw [← unhide HNn]; exact (unhide HFin).1, (unhide HFin).2⟩
        · have hE : X = (l, (s.size : Int)) := by rw [unhide HXe, if_pos (by unfold endB; simp [hn, h1])]
          subst hE
          have e1 : ((n : Int) == 1) = false := by simp; omega
          have e3 : decide (n = 1) = false := by simpa using h1
          have HNn := hide hn
          clear hXj hst hn
          go_wp2_with fail
          refine bodyPost_ret (by simp [results, Try.results50, go_sem]; try rfl) rfl ?_
          exact ⟨_, rfl, by rw [← unhide HNn]; exact (unhide HFin).1, (unhide HFin).2⟩
      · have hGp : 0 < G := by omega
        obtain ⟨hAl, rfl⟩ := hAB hGp
        have qG : ((G : Int) == 0) = false := by simp; omega
        have qP : (0 : Int) < (G : Int) := by omega
        by_cases h2 : T = 0
        · have hE : X = (l, (s.size : Int)) := by rw [unhide HXe, if_pos (by unfold endB; simp [h2]; omega)]
          subst hE h2
          have HNn := hide hn
          clear hXj hst hn
          go_wp2_with fail
          refine bodyPost_ret (by simp [results, Try.results50, go_sem]; try rfl) rfl ?_
          exact ⟨_, rfl, by rw [← unhide HNn]; exact (unhide HFin).1, (unhide HFin).2⟩
        · have hE : X = (l ++ [(V, A, 0)], -1) := by rw [unhide HXe, if_neg (by unfold endB; simp [hG0, h2]), if_pos hGp]
          subst hE
          have e2 : ((T : Int) == 0) = false := by simp; omega
          have e3 : decide (T = 0) = false := by simpa using h2
          have HNn := hide hn
          have hnl : n ≤ 65536 := by omega
          have HS2 := hide (show FmI w wr V A 0 l (.slice a0 n c0) by rw [← hn]; exact hst)
          have HO := hide (show wr.ownsRow (w.heap.size + 1) 84 3 (.slice a0 n c0) n (flatR l) by rw [← hn]; exact hst.own)
          clear hXj hst hn
          go_wp2_with (at_builtin; refine wpList_append_lies _ rfl _ _ 80 rfl (w.heap.size + 1) 84 i3 (.agg #[.int .i64 0, .int .i64 0, .int .u8 0]) 3 24 Try.underlying80 (unhide HInf).1 (unhide HInf).2.1 (unhide HInf).2.2.1 (unhide HInf).2.2.2 rfl (by decide) _ n (flatR l) rfl ((unhide HO).alloc _) ⟨wr.heap.size, 0, none⟩ 1 1 [.int .i64 (V : Int), .int .i64 (A : Int), .int .u8 0] rfl rfl (World.news_of_block (alloc_block _ _)) ?c21 (by decide) ?c31 ?c41 ?c51 (wr.heap.size + 1) (by simp) ?_)
          case c21 => first | exact ⟨rfl, rfl, rfl⟩ | (intro u hu; simp at hu; rcases hu with rfl | rfl | rfl <;> rfl)
          case c31 => unfold maxLen; omega
          case c41 => omega
          case c51 => first | omega | (simp; omega)
          intro g9 cap9 w9 hown hg hat hlt2
          have HN9 := hide ((unhide HS2).app (e := (V, A, 0)) hg (by rw [unhide HNn]; exact hown))
          clear hown hg hat hlt2 n0 n1 n2
          go_wp2_with fail
          refine bodyPost_ret (by simp [results, Try.results50, go_sem]; try rfl) rfl ?_
          exact ⟨_, rfl, by have h := own_down (unhide HN9).own (Nat.le_succ _); rw [List.length_append] at h; exact h, (unhide HN9).bel⟩
end Go.Proofs.Ytbendkndnojihaa
