/-
  sloperef3.Has, Rank, Select, Next: contracts.
-/
import Derived.Test.YtbendkndnojihaaDoorBz8
namespace Go.Proofs.YtbendkndnojihaaDoor
open Go.RowKit Go.Deep
set_option linter.unusedVariables false

theorem rankR_els (s : Int) (xs : List Nat) (e : Int) : ∃ r : Nat, rankR s xs e = r ∧ r ≤ (elsR s xs).length ∧ ∀ i, i < (elsR s xs).length → ((elsR s xs).getD i 0 < e ↔ i < r) := by
  cases m : MayS s xs
  · exact ⟨0, by simp [rankR, m], Nat.zero_le _, fun i hi => by simp [elsR, m] at hi⟩
  · refine ⟨_, rfl, ?_, ?_⟩
    · simp only [rankR, m, if_true, elsR, elsL_len]; exact rkN_le _ _ _
    · intro i hi
      simp only [rankR, m, if_true, elsR, elsL_len] at hi ⊢
      exact rk_at _ hi
theorem els_bound (s : Int) (xs : List Nat) : (elsR s xs).length ≤ 4096 ∧ ∀ i, i < (elsR s xs).length → 0 ≤ (elsR s xs).getD i 0 ∧ (elsR s xs).getD i 0 ≤ 4096 := by
  cases m : MayS s xs
  · simp [elsR, m]
  · have hf := MayS.fits m
    simp [fitsI] at hf
    simp only [elsR, m, if_true, elsL_len]
    have := cntB_le (hasB (gW xs)) s.toNat
    refine ⟨by omega, fun i hi => ?_⟩
    obtain ⟨x, h1, h2, h3, h4⟩ := elsL_at _ _ i hi
    rw [h4]
    omega

set_option maxHeartbeats 4000000 in
set_option maxRecDepth 100000 in
/-- sloperef3.Rank. -/
theorem rrank_any (s : Int) (a : Option Addr) (n c : Nat) (xs : List Nat) (e : Int) (w : World) (h : SlW w a n c xs) :
    Calls Tryd.prog 11 #[setV s a n c, .int .i64 e] w fun r w' => r = .returned (.int .i64 (rankR s xs e : Nat)) ∧ Below w.heap.size w w' := by
  obtain ⟨wa, hwa⟩ : ∃ x, w.alloc (.cells #[.int .i64 s, .slice a n c] 24) = x := ⟨_, rfl⟩
  have hba : Below w.heap.size w wa := by rw [← hwa]; exact (Below.refl _ _).alloc (Nat.le_refl _) _
  have tA : Two wa w.heap.size (.int .i64 s) (.slice a n c) := by rw [← hwa]; exact Two.made _ _ _ _
  have K := elements_any s a n c xs wa (h.below hba)
  have a0 := tA.c0
  have a1 := tA.c1
  have HB := hide hba
  obtain ⟨r, hr, hrl, hri⟩ := rankR_els s xs e
  have hbd := els_bound s xs
  rw [hr]
  generalize elsR s xs = L at *
  obtain ⟨l, hl⟩ : ∃ l, L.length = l := ⟨_, rfl⟩
  rw [hl] at K hrl hri hbd
  have HI := hide hri
  have HK := hide K
  have hl1 := hbd.1
  clear tA hba h K hri hbd hr
  unfold setV at HK ⊢
  go_enter Tryd.func11, Tryd.ntmps11
  go_wp2_with fail
  refine (unhide HK).mono ?_
  rintro _ w1 ⟨a', c', rfl, hs, hb⟩
  have HB1 := hide ((unhide HB).trans (hb.mono (unhide HB).size))
  have hcl := hs.le
  have hcc := hs.cap
  unfold maxLen at hcc
  have HS := hide hs
  clear hs hb HK HB a0 a1
  go_wp2_with fail
  go_loopw [6, 7] (fun v i wr => ∃ k : Nat, k ≤ l ∧ i = .int .i64 k ∧ v = .int .i64 ((min k r : Nat) : Int) ∧ wr = w1) (fun _ i _ => l - (intOf i).toNat)
  case atStart => exact ⟨0, Nat.zero_le _, rfl, by simp, rfl⟩
  case round =>
    obtain ⟨k, hk, rfl, rfl, rfl⟩ := hrel
    obtain ⟨v, hv⟩ : ∃ v, min k r = v := ⟨_, rfl⟩
    rw [hv]
    by_cases hlt : k < l
    · have hlt' : (k : Int) < (l : Int) := by omega
      obtain ⟨b, off, rfl, hc⟩ := (unhide HS).at (by omega)
      have g := hc k hlt
      unfold vI at g
      by_cases h1 : L.getD k 0 < e
      · have hkr : k < r := (unhide HI k hlt).1 h1
        have hvk : v + 1 = min (k + 1) r := by omega
        have hv2 : v ≤ 4096 := by omega
        generalize L.getD k 0 = x at *
        clear hc hv
        go_wp2_with fail
        refine ⟨⟨k + 1, by omega, by go_num, ?_, by first | trivial | rfl⟩, by simp [intOf]; omega⟩
        rw [← hvk]
        go_num
      · have hkr : ¬ k < r := fun hh => h1 ((unhide HI k hlt).2 hh)
        have hvk : v = min (k + 1) r := by omega
        generalize L.getD k 0 = x at *
        clear hc hv
        go_wp2_with fail
        exact ⟨⟨k + 1, by omega, by go_num, by rw [← hvk], by first | trivial | rfl⟩, by simp [intOf]; omega⟩
    · have hlt' : ¬ (k : Int) < (l : Int) := by omega
      have hvr : v = r := by omega
      subst hvr
      clear hv
      go_wp2_with fail
      go_ret
      exact ⟨rfl, unhide HB1⟩

set_option maxHeartbeats 4000000 in
set_option maxRecDepth 100000 in
/-- sloperef3.Select. -/
theorem rselect_any (s : Int) (a : Option Addr) (n c : Nat) (xs : List Nat) (e : Int) (w : World) (h : SlW w a n c xs) :
    Calls Tryd.prog 13 #[setV s a n c, .int .i64 e] w fun r w' => r = .returned (.int .i64 (selR s xs e)) ∧ Below w.heap.size w w' := by
  obtain ⟨wa, hwa⟩ : ∃ x, w.alloc (.cells #[.int .i64 s, .slice a n c] 24) = x := ⟨_, rfl⟩
  have hba : Below w.heap.size w wa := by rw [← hwa]; exact (Below.refl _ _).alloc (Nat.le_refl _) _
  have tA : Two wa w.heap.size (.int .i64 s) (.slice a n c) := by rw [← hwa]; exact Two.made _ _ _ _
  have K := elements_any s a n c xs wa (h.below hba)
  have a0 := tA.c0
  have a1 := tA.c1
  have HB := hide hba
  have eR : selR s xs e = if 0 ≤ e ∧ e < (elsR s xs).length then (elsR s xs).getD e.toNat 0 else -1 := by
    cases m : MayS s xs
    · have : (elsR s xs).length = 0 := by simp [elsR, m]
      rw [if_neg (by omega)]
      simp [selR, m]
    · by_cases h0 : 0 ≤ e
      · simp only [selR, m, elsR, if_true, elsL_len, Bool.true_and, decide_eq_true_eq, h0, true_and]
        split
        · rw [sel_els _ (by omega)]
        · rw [sel_none _ (by omega)]
      · rw [if_neg (fun hh => h0 hh.1)]
        simp [selR, h0]
  rw [eR]
  generalize elsR s xs = L at *
  obtain ⟨l, hl⟩ : ∃ l, L.length = l := ⟨_, rfl⟩
  rw [hl] at K ⊢
  have HK := hide K
  clear tA hba h K eR
  unfold setV at HK ⊢
  by_cases h0 : 0 ≤ e
  · by_cases h1 : e < (l : Int)
    · rw [if_pos ⟨h0, h1⟩]
      obtain ⟨k, rfl⟩ : ∃ k : Nat, e = (k : Int) := ⟨e.toNat, by omega⟩
      rw [Int.toNat_natCast]
      have hk : k < l := by omega
      obtain ⟨x, hx⟩ : ∃ x, L.getD k 0 = x := ⟨_, rfl⟩
      rw [hx]
      have HX := hide hx
      clear hx
      go_enter Tryd.func13, Tryd.ntmps13
      go_wp2_with fail
      refine (unhide HK).mono ?_
      rintro _ w1 ⟨a', c', rfl, hs, hb⟩
      have HB1 := hide ((unhide HB).trans (hb.mono (unhide HB).size))
      have hcl := hs.le
      have hcc := hs.cap
      unfold maxLen at hcc
      obtain ⟨b, off, rfl, hc⟩ := hs.at (by omega)
      have g := hc k hk
      rw [unhide HX] at g
      unfold vI at g
      clear hs hb HK HB a0 a1 hc
      go_wp2_with fail
      go_ret
      exact ⟨rfl, unhide HB1⟩
    · rw [if_neg (fun hh => h1 hh.2)]
      go_enter Tryd.func13, Tryd.ntmps13
      go_wp2_with fail
      refine (unhide HK).mono ?_
      rintro _ w1 ⟨a', c', rfl, hs, hb⟩
      have HB1 := hide ((unhide HB).trans (hb.mono (unhide HB).size))
      have hcl := hs.le
      have hcc := hs.cap
      unfold maxLen at hcc
      clear hs hb HK HB a0 a1
      go_wp2_with fail
      go_ret
      exact ⟨rfl, unhide HB1⟩
  · rw [if_neg (fun hh => h0 hh.1)]
    go_enter Tryd.func13, Tryd.ntmps13
    go_wp2_with fail
    refine (unhide HK).mono ?_
    rintro _ w1 ⟨a', c', rfl, hs, hb⟩
    have HB1 := hide ((unhide HB).trans (hb.mono (unhide HB).size))
    have hcl := hs.le
    have hcc := hs.cap
    unfold maxLen at hcc
    clear hs hb HK HB a0 a1
    go_wp2_with fail
    go_ret
    exact ⟨rfl, unhide HB1⟩

/-- What the walk over the numbers has found, k of them seen: the first that is not below e; the last that is not above. -/
def lo_ (L : List Int) (r k : Nat) : Int := if r < k then L.getD r 0 else -1
def hi_ (L : List Int) (q k : Nat) : Int := if 0 < min q k then L.getD (min q k - 1) 0 else -1

set_option maxHeartbeats 8000000 in
set_option maxRecDepth 100000 in
/-- sloperef3.Next. -/
theorem rnext_any (s : Int) (a : Option Addr) (n c : Nat) (xs : List Nat) (e : Int) (w : World) (h : SlW w a n c xs) :
    Calls Tryd.prog 9 #[setV s a n c, .int .i64 e] w fun r w' => r = .returned (.tuple #[.int .i64 (nextR s xs e), .int .i64 (lastR s xs e)]) ∧ Below w.heap.size w w' := by
  obtain ⟨wa, hwa⟩ : ∃ x, w.alloc (.cells #[.int .i64 s, .slice a n c] 24) = x := ⟨_, rfl⟩
  have hba : Below w.heap.size w wa := by rw [← hwa]; exact (Below.refl _ _).alloc (Nat.le_refl _) _
  have tA : Two wa w.heap.size (.int .i64 s) (.slice a n c) := by rw [← hwa]; exact Two.made _ _ _ _
  have K := elements_any s a n c xs wa (h.below hba)
  have a0 := tA.c0
  have a1 := tA.c1
  have HB := hide hba
  obtain ⟨r, hr, hrl, hri⟩ := rankR_els s xs e
  obtain ⟨q, hq, hql, hqi⟩ := rankR_els s xs (e + 1)
  have hbd := els_bound s xs
  have eR : nextR s xs e = lo_ (elsR s xs) r (elsR s xs).length := by
    rw [← hr]
    cases m : MayS s xs
    · simp [nextR, lo_, elsR, rankR, m]
    · simp only [nextR, m, if_true, lo_, elsR, elsL_len, rankR, next_els]
  have eQ : lastR s xs e = hi_ (elsR s xs) q (elsR s xs).length := by
    rw [← hq]
    cases m : MayS s xs
    · simp [lastR, hi_, elsR, rankR, m]
    · simp only [lastR, m, if_true, hi_, elsR, elsL_len, rankR, last_els]
      rw [Nat.min_eq_left (rkN_le _ _ _)]
  rw [eR, eQ]
  generalize elsR s xs = L at *
  obtain ⟨l, hl⟩ : ∃ l, L.length = l := ⟨_, rfl⟩
  rw [hl] at K hrl hri hql hqi hbd ⊢
  have HI := hide (And.intro hri hqi)
  have HD := hide hbd.2
  have HK := hide K
  have hl1 := hbd.1
  clear tA hba h K hri hqi hbd hr hq eR eQ
  unfold setV at HK ⊢
  go_enter Tryd.func9, Tryd.ntmps9
  go_wp2_with fail
  refine (unhide HK).mono ?_
  rintro _ w1 ⟨a', c', rfl, hs, hb⟩
  have HB1 := hide ((unhide HB).trans (hb.mono (unhide HB).size))
  have hcl := hs.le
  have hcc := hs.cap
  unfold maxLen at hcc
  have HS := hide hs
  clear hs hb HK HB a0 a1
  go_wp2_with fail
  go_loopw [7, 8, 9] (fun u v i wr => ∃ k : Nat, k ≤ l ∧ i = .int .i64 k ∧ u = .int .i64 (lo_ L r k) ∧ v = .int .i64 (hi_ L q k) ∧ wr = w1) (fun _ _ i _ => l - (intOf i).toNat)
  case atStart => exact ⟨0, Nat.zero_le _, rfl, by simp [lo_], by simp [hi_], rfl⟩
  case round =>
    obtain ⟨k, hk, rfl, rfl, rfl, rfl⟩ := hrel
    by_cases hlt : k < l
    · have hlt' : (k : Int) < (l : Int) := by omega
      obtain ⟨b, off, rfl, hc⟩ := (unhide HS).at (by omega)
      have g := hc k hlt
      unfold vI at g
      have i1 := (unhide HI).1 k hlt
      have i2 := (unhide HI).2 k hlt
      have d0 := (unhide HD k hlt).1
      have hlo : lo_ L r k = -1 ∧ k ≤ r ∨ 0 ≤ lo_ L r k ∧ r < k := by
        unfold lo_
        by_cases hh : r < k
        · rw [if_pos hh]; exact .inr ⟨(unhide HD r (by omega)).1, hh⟩
        · rw [if_neg hh]; exact .inl ⟨rfl, by omega⟩
      have s1 : lo_ L r (k + 1) = if k = r then L.getD k 0 else lo_ L r k := by
        unfold lo_
        by_cases hh : k = r
        · subst hh; rw [if_pos (by omega), if_pos rfl]
        · rw [if_neg hh]
          by_cases h3 : r < k
          · rw [if_pos h3, if_pos (by omega)]
          · rw [if_neg h3, if_neg (by omega)]
      have s2 : hi_ L q (k + 1) = if k < q then L.getD k 0 else hi_ L q k := by
        unfold hi_
        by_cases hh : k < q
        · rw [if_pos hh, Nat.min_eq_right (by omega), if_pos (by omega)]
          rfl
        · rw [if_neg hh, Nat.min_eq_left (by omega), Nat.min_eq_left (by omega)]
      have S1 := hide s1
      have S2 := hide s2
      clear s1 s2 hc
      generalize lo_ L r k = u at *
      generalize hi_ L q k = v at *
      generalize L.getD k 0 = x at *
      by_cases c1 : x < e
      · have c2 : x ≤ e := by omega
        have p1 : ¬ k = r := by have := i1.1 c1; omega
        have p2 : k < q := i2.1 (by omega)
        have P1 := hide p1
        have P2 := hide p2
        clear i1 i2 hlo p1 p2
        have c3 : ¬ e ≤ x := by omega
        go_wp2_with fail
        exact ⟨⟨k + 1, by omega, by go_num, by first | rw [unhide S1, if_pos (unhide P1)] | rw [unhide S1, if_neg (unhide P1)], by first | rw [unhide S2, if_pos (unhide P2)] | rw [unhide S2, if_neg (unhide P2)], by first | trivial | rfl⟩, by simp [intOf]; omega⟩
      · have c3 : e ≤ x := by omega
        by_cases c4 : x ≤ e
        · have p2 : k < q := i2.1 (by omega)
          by_cases p1 : k = r
          · have c5 : u < 0 := by omega
            have P1 := hide p1
            have P2 := hide p2
            clear i1 i2 hlo p1 p2
            go_wp2_with fail
            exact ⟨⟨k + 1, by omega, by go_num, by first | rw [unhide S1, if_pos (unhide P1)] | rw [unhide S1, if_neg (unhide P1)], by first | rw [unhide S2, if_pos (unhide P2)] | rw [unhide S2, if_neg (unhide P2)], by first | trivial | rfl⟩, by simp [intOf]; omega⟩
          · have c5 : ¬ u < 0 := by omega
            have P1 := hide p1
            have P2 := hide p2
            clear i1 i2 hlo p1 p2
            go_wp2_with fail
            exact ⟨⟨k + 1, by omega, by go_num, by first | rw [unhide S1, if_pos (unhide P1)] | rw [unhide S1, if_neg (unhide P1)], by first | rw [unhide S2, if_pos (unhide P2)] | rw [unhide S2, if_neg (unhide P2)], by first | trivial | rfl⟩, by simp [intOf]; omega⟩
        · have p2 : ¬ k < q := fun hh => by have := i2.2 hh; omega
          by_cases p1 : k = r
          · have c5 : u < 0 := by omega
            have P1 := hide p1
            have P2 := hide p2
            clear i1 i2 hlo p1 p2
            go_wp2_with fail
            exact ⟨⟨k + 1, by omega, by go_num, by first | rw [unhide S1, if_pos (unhide P1)] | rw [unhide S1, if_neg (unhide P1)], by first | rw [unhide S2, if_pos (unhide P2)] | rw [unhide S2, if_neg (unhide P2)], by first | trivial | rfl⟩, by simp [intOf]; omega⟩
          · have c5 : ¬ u < 0 := by omega
            have P1 := hide p1
            have P2 := hide p2
            clear i1 i2 hlo p1 p2
            go_wp2_with fail
            exact ⟨⟨k + 1, by omega, by go_num, by first | rw [unhide S1, if_pos (unhide P1)] | rw [unhide S1, if_neg (unhide P1)], by first | rw [unhide S2, if_pos (unhide P2)] | rw [unhide S2, if_neg (unhide P2)], by first | trivial | rfl⟩, by simp [intOf]; omega⟩
    · have hlt' : ¬ (k : Int) < (l : Int) := by omega
      have hkl : k = l := by omega
      subst hkl
      go_wp2_with fail
      refine bodyPost_ret (by simp [results, Tryd.results9, go_sem]; try rfl) rfl ?_
      exact ⟨rfl, unhide HB1⟩
end Go.Proofs.YtbendkndnojihaaDoor
