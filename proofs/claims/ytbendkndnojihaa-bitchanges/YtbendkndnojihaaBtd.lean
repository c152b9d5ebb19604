/-
  bitset.copyFor, Put, Drop: contracts.
-/
import Derived.Test.YtbendkndnojihaaBtc
namespace Go.Proofs.Ytbendkndnojihaa
open Go.RowKit Go.Deep
set_option linter.unusedVariables false

/-- What putting says. -/
def putE (s : Int) (xs : List Nat) (e : Int) : Int := if MayS s xs then (if 0 ≤ e ∧ e < s then 0 else 62) else 61
def putR (s : Int) (xs : List Nat) (e : Int) (yes : Bool) : Int × List Nat × Int :=
  if putE s xs e = 0 then (s, wordsL s.toNat (fun x => if (x : Int) = e then yes else hasB (fun i => xs.getD i 0) x), 0) else (0, [], putE s xs e)
theorem putE_zero {s : Int} {xs : List Nat} {e : Int} (h : putE s xs e = 0) : MayS s xs = true ∧ 0 ≤ e ∧ e < s := by
  unfold putE at h
  split at h
  · split at h
    · rename_i h1 h2; exact ⟨h1, h2⟩
    · cases h
  · cases h

set_option maxHeartbeats 2000000 in
/-- bitset.copyFor, refused. -/
theorem copyFor_bad (s : Int) (a : Option Addr) (n c : Nat) (xs : List Nat) (e : Int) (w : World) (h : SlW w a n c xs) (hok : ∀ x ∈ xs, x < 18446744073709551616) (hz : putE s xs e ≠ 0) :
    Calls Try.prog 56 #[setV s a n c, .int .i64 e] w fun r w' => r = .returned (.tuple #[.agg #[.int .i64 0, .slice none 0 0], .int .i64 (putE s xs e)]) ∧ Below w.heap.size w w' := by
  obtain ⟨wa, hwa⟩ : ∃ wa, w.alloc (.cells #[.int .i64 s, .slice a n c] 24) = wa := ⟨_, rfl⟩
  obtain ⟨wb, hwb⟩ : ∃ wb, wa.alloc (.cells #[.int .i64 0, .slice none 0 0] 24) = wb := ⟨_, rfl⟩
  obtain ⟨tA, tR, hB, hlt1, hlt2⟩ := enter1 hwa hwb
  have K := may_any s a n c xs wb (h.below hB) hok
  have a0 := tA.c0
  have a1 := tA.c1
  have HA := hide (And.intro tA (And.intro tR hB))
  clear tA tR hB h hok
  unfold setV at K ⊢
  cases hm : MayS s xs
  · rw [hm] at K
    have hE : putE s xs e = 61 := by simp [putE, hm]
    rw [hE]
    have HK := hide K
    clear K hm hz hE
    go_enter Try.func56, Try.ntmps56
    go_wp2_with fail
    refine (unhide HK).mono ?_
    rintro _ w1 ⟨rfl, hb1⟩
    have tR := (unhide HA).2.1.keep hb1
    have r0 := tR.c0
    have r1 := tR.c1
    have f0 := tR.f0
    have f1 := tR.f1
    have T3 := tR.set (.int .i64 0) (.slice none 0 0)
    have p0 := T3.c0
    have p1 := T3.c1
    have HB := hide (two_below ((unhide HA).2.2.trans (hb1.mono (by omega))) wa.heap.size (by omega) (.int .i64 0) (.slice none 0 0))
    clear tR T3 hb1 HK
    go_wp2_with fail
    refine bodyPost_ret (by simp [results, Try.results56, go_sem, p0, p1]; try rfl) rfl ?_
    exact ⟨rfl, unhide HB⟩
  · rw [hm] at K
    have hE : putE s xs e = 62 := by
      simp only [putE, hm, if_true] at hz ⊢
      split
      · rename_i h; simp [h] at hz
      · rfl
    have hbad : e < 0 ∨ s ≤ e := by
      simp only [putE, hm, if_true] at hz
      split at hz
      · exact absurd rfl hz
      · omega
    rw [hE]
    have HK := hide K
    clear K hm hz hE
    rcases hbad with hbad | hbad
    all_goals
      go_enter Try.func56, Try.ntmps56
      go_wp2_with fail
      refine (unhide HK).mono ?_
      rintro _ w1 ⟨rfl, hb1⟩
      have tA := (unhide HA).1.keep hb1
      have e0 := tA.c0
      have e1 := tA.c1
      have tR := (unhide HA).2.1.keep hb1
      have r0 := tR.c0
      have r1 := tR.c1
      have f0 := tR.f0
      have f1 := tR.f1
      have T3 := tR.set (.int .i64 0) (.slice none 0 0)
      have p0 := T3.c0
      have p1 := T3.c1
      have HB := hide (two_below ((unhide HA).2.2.trans (hb1.mono (by omega))) wa.heap.size (by omega) (.int .i64 0) (.slice none 0 0))
      clear tR T3 hb1 HK tA
      go_wp2_with fail
      all_goals
        refine bodyPost_ret (by simp [results, Try.results56, go_sem, p0, p1]; try rfl) rfl ?_
        exact ⟨rfl, unhide HB⟩

set_option maxHeartbeats 2000000 in
/-- bitset.copyFor. -/
theorem copyFor_ok (sz : Nat) (a : Option Addr) (n c : Nat) (xs : List Nat) (e : Nat) (w : World) (h : SlW w a n c xs) (hok : ∀ x ∈ xs, x < 18446744073709551616) (hm : MayS sz xs = true) (he : e < sz) :
    Calls Try.prog 56 #[setV sz a n c, .int .i64 (e : Int)] w fun r w' => ∃ v, r = .returned (.tuple #[v, .int .i64 0]) ∧ NewS w w' sz (nW sz) (fun i => xs.getD i 0) v := by
  obtain ⟨wa, hwa⟩ : ∃ wa, w.alloc (.cells #[.int .i64 (sz : Int), .slice a n c] 24) = wa := ⟨_, rfl⟩
  obtain ⟨wb, hwb⟩ : ∃ wb, wa.alloc (.cells #[.int .i64 0, .slice none 0 0] 24) = wb := ⟨_, rfl⟩
  obtain ⟨tA, tR, hB, hlt1, hlt2⟩ := enter1 hwa hwb
  have K := may_any sz a n c xs wb (h.below hB) hok
  rw [hm] at K
  have hsz : sz ≤ 4096 := by have := MayS.fits hm; simp [fitsI] at this; omega
  have hn : n = nW sz := by rw [← h.len, MayS.len hm]; simp
  have a0 := tA.c0
  have a1 := tA.c1
  have HA := hide (And.intro tA (And.intro tR (And.intro (h.below hB) hB)))
  have HN := hide hn
  clear tA tR hB h hok hm hn
  unfold setV at K ⊢
  have HK := hide K
  have he0 : ¬ ((e : Int) < 0) := by omega
  have he1 : ¬ ((sz : Int) ≤ (e : Int)) := by omega
  clear K
  go_enter Try.func56, Try.ntmps56
  go_wp2_with fail
  refine (unhide HK).mono ?_
  rintro _ w1 ⟨rfl, hb1⟩
  have tA := (unhide HA).1.keep hb1
  have e0 := tA.c0
  have e1 := tA.c1
  have K2 := clone_any sz a n c xs w1 ((unhide HA).2.2.1.below hb1) hsz (unhide HN)
  unfold setV at K2
  have HK2 := hide K2
  have HR := hide (And.intro ((unhide HA).2.1.keep hb1) ((unhide HA).2.2.2.trans (hb1.mono (by omega))))
  clear tA hb1 HK K2
  go_wp2_with fail
  refine (unhide HK2).mono ?_
  rintro _ w2 ⟨v, rfl, b, cb, rfl, hc1, hc2, hb1, hb2, hfn, hbel⟩
  have tR := (unhide HR).1.keep hbel
  have r0 := tR.c0
  have r1 := tR.c1
  have f0 := tR.f0
  have f1 := tR.f1
  have T3 := tR.set (.int .i64 sz) (.slice (some ⟨b, 0, none⟩) (nW sz) cb)
  have p0 := T3.c0
  have p1 := T3.c1
  have hR1 := (unhide HR).1.lt
  have hwz := (unhide HR).2.size
  have hRb : wa.heap.size ≠ b := by omega
  have HE := hide (show FnW ((w2.setCell ⟨wa.heap.size, 0, none⟩ (.int .i64 sz)).setCell ⟨wa.heap.size, 1, none⟩ (.slice (some ⟨b, 0, none⟩) (nW sz) cb)) b 0 (nW sz) (fun i => xs.getD i 0) ∧ Below w.heap.size w ((w2.setCell ⟨wa.heap.size, 0, none⟩ (.int .i64 sz)).setCell ⟨wa.heap.size, 1, none⟩ (.slice (some ⟨b, 0, none⟩) (nW sz) cb)) ∧ nW sz ≤ cb ∧ cb ≤ maxLen ∧ w.heap.size ≤ b ∧ b < ((w2.setCell ⟨wa.heap.size, 0, none⟩ (.int .i64 sz)).setCell ⟨wa.heap.size, 1, none⟩ (.slice (some ⟨b, 0, none⟩) (nW sz) cb)).heap.size from
    ⟨hfn.two _ _ _ hRb, two_below ((unhide HR).2.trans (hbel.mono hwz)) _ (by omega) _ _, hc1, hc2, by omega, by simp; omega⟩)
  clear tR T3 hfn hbel hc1 hc2
  unfold setV
  go_wp2_with fail
  refine bodyPost_ret (by simp [results, Try.results56, go_sem, p0, p1]; try rfl) rfl ?_
  obtain ⟨q1, q2, q3, q4, q5, q6⟩ := unhide HE
  exact ⟨_, rfl, b, cb, rfl, q3, q4, q5, q6, q1, q2⟩
end Go.Proofs.Ytbendkndnojihaa
