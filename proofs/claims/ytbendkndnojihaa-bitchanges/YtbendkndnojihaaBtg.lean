/-
  sloperef3.List, Put: contracts.
-/
import Derived.Test.YtbendkndnojihaaBtd
import Derived.Test.YtbendkndnojihaaBt6
namespace Go.Proofs.Ytbendkndnojihaa
open Go.RowKit Go.Deep
set_option linter.unusedVariables false

set_option maxHeartbeats 2000000 in
/-- sloperef3.List. -/
theorem list_any (sz : Nat) (a : Option Addr) (n c : Nat) (xs : List Nat) (w : World) (h : SlW w a n c xs) (hsz : sz ≤ 4096) (hn : n = nW sz) :
    Calls Try.prog 57 #[setV sz a n c] w fun r w' => ∃ b, r = .returned (.slice (some ⟨b, 0, none⟩) sz sz) ∧ w.heap.size ≤ b ∧ b < w'.heap.size ∧ FnB w' b 0 sz (hasB (fun i => xs.getD i 0)) ∧ Below w.heap.size w w' := by
  obtain ⟨wa, hwa⟩ : ∃ wa, w.alloc (.cells #[.int .i64 (sz : Int), .slice a n c] 24) = wa := ⟨_, rfl⟩
  have hb : Below w.heap.size w wa := by rw [← hwa]; exact (Below.refl _ _).alloc (Nat.le_refl _) _
  have tA : Two wa w.heap.size (.int .i64 sz) (.slice a n c) := by rw [← hwa]; exact Two.made _ _ _ _
  have hm := make_bools sz (by omega)
  have hq : ∀ k, k < sz → k / 64 < n := fun k hk => by rw [hn]; unfold nW; omega
  have a0 := tA.c0
  have a1 := tA.c1
  have hal : Below wa.heap.size wa (wa.alloc (.cells (madeCells #[.bool false] sz) 4)) := (Below.refl _ _).alloc (Nat.le_refl _) _
  have HT := hide (And.intro (tA.keep hal) (And.intro ((h.below hb).below hal) (And.intro (show FnB (wa.alloc (.cells (madeCells #[.bool false] sz) 4)) wa.heap.size 0 sz (fun _ => false) from FnG.made wa sz 4 false rfl) (hb.trans (hal.mono hb.size)))))
  have hwl : w.heap.size < wa.heap.size := tA.lt
  have HQ := hide hq
  have HSl := hide h
  clear tA hb h hal hn hq
  unfold setV
  go_enter Try.func57, Try.ntmps57
  go_wp2_with fail
  clear hwa a0 a1
  have hs0 : wa.heap.size < (wa.alloc (.cells (madeCells #[.bool false] sz) 4)).heap.size := by simp
  generalize wa.alloc (.cells (madeCells #[.bool false] sz) 4) = wc at *
  generalize wa.heap.size = b at *
  go_loopw [4] (fun i wr => ∃ k : Nat, k ≤ sz ∧ i = .int .i64 k ∧ Two wr w.heap.size (.int .i64 sz) (.slice a n c) ∧ SlW wr a n c xs ∧ FnB wr b 0 sz (fun x => decide (x < k) && hasB (fun i => xs.getD i 0) x) ∧ Below w.heap.size w wr ∧ b < wr.heap.size) (fun i _ => sz - (intOf i).toNat)
  case atStart =>
    obtain ⟨q1, q2, q3, q4⟩ := unhide HT
    exact ⟨0, Nat.zero_le _, rfl, q1, q2, q3.congr (fun x _ => by simp), q4, hs0⟩
  case round =>
    obtain ⟨k, hk, rfl, q1, q2, q3, q4, q5⟩ := hrel
    have v0 := q1.c0
    have v1 := q1.c1
    have HR := hide (And.intro q1 (And.intro q2 (And.intro q3 q4)))
    by_cases hlt : k < sz
    · have hlt' : (k : Int) < (sz : Int) := by omega
      have K := in_any sz a n c xs k wr q2 (unhide HQ k hlt) (by omega)
      unfold setV at K
      have HK := hide K
      clear q1 q2 q3 q4 K
      go_wp2_with fail
      refine (unhide HK).mono ?_
      rintro _ w2 ⟨rfl, hb2⟩
      obtain ⟨q1, q2, q3, q4⟩ := unhide HR
      have g3 := q3.below hb2
      have g1 := (g3 k hlt).1
      have g2 := (g3 k hlt).2
      rw [Nat.zero_add] at g1 g2
      unfold vB at g1
      generalize (decide (k < k) && hasB (fun i => xs.getD i 0) k) = old at g1
      have hsz2 := hb2.size
      have HS := hide (show Two (w2.setCell ⟨b, k, none⟩ (.bool (hasB (fun i => xs.getD i 0) k))) w.heap.size (.int .i64 sz) (.slice a n c) ∧ SlW (w2.setCell ⟨b, k, none⟩ (.bool (hasB (fun i => xs.getD i 0) k))) a n c xs ∧ FnB (w2.setCell ⟨b, k, none⟩ (.bool (hasB (fun i => xs.getD i 0) k))) b 0 sz (fun x => decide (x < k + 1) && hasB (fun i => xs.getD i 0) x) ∧ Below w.heap.size w (w2.setCell ⟨b, k, none⟩ (.bool (hasB (fun i => xs.getD i 0) k))) by
        have hBx := q4.trans (hb2.mono q4.size)
        refine ⟨(q1.keep hb2).other b k _ (by omega), ?_, ?_, hBx.setCell (p := ⟨b, k, none⟩) (by show w.heap.size ≤ b; omega) _⟩
        · exact (unhide HSl).below (hBx.setCell (p := ⟨b, k, none⟩) (by show w.heap.size ≤ b; omega) _)
        · have := g3.set k (hasB (fun i => xs.getD i 0) k) hlt
          rw [Nat.zero_add] at this
          refine this.congr (fun x hx => ?_)
          by_cases hxk : x = k
          · subst hxk; simp
          · by_cases hx2 : x < k
            · simp [hxk, hx2, show x < k + 1 from by omega]
            · simp [hxk, hx2, show ¬ x < k + 1 from by omega])
      generalize hasB (fun i => xs.getD i 0) k = bv at *
      clear q1 q2 q3 q4 g3 hb2 HK HR v0 v1
      go_wp2_with fail
      obtain ⟨e1, e2, e3, e4⟩ := unhide HS
      exact ⟨⟨k + 1, by omega, by go_num, e1, e2, e3, e4, by simp; omega⟩, by simp [intOf]; omega⟩
    · have hlt' : ¬ (k : Int) < (sz : Int) := by omega
      have hkn : k = sz := by omega
      subst hkn
      clear q1 q2 q3 q4
      go_wp2_with fail
      go_ret
      obtain ⟨q1, q2, q3, q4⟩ := unhide HR
      exact ⟨b, rfl, by omega, q5, q3.congr (fun x hx => by simp [hx]), q4⟩

set_option maxHeartbeats 2000000 in
/-- sloperef3.Put. -/
theorem rput_any (s : Int) (a : Option Addr) (n c : Nat) (xs : List Nat) (e : Int) (yes : Bool) (w : World) (h : SlW w a n c xs) :
    Calls Try.prog 29 #[setV s a n c, .int .i64 e, .bool yes] w fun r w' => ResS w w' (putR s xs e yes) r := by
  obtain ⟨wa, hwa⟩ : ∃ wa, w.alloc (.cells #[.int .i64 s, .slice a n c] 24) = wa := ⟨_, rfl⟩
  obtain ⟨wb, hwb⟩ : ∃ wb, wa.alloc (.cells #[.int .i64 0, .slice none 0 0] 24) = wb := ⟨_, rfl⟩
  obtain ⟨tA, tR, hB, hlt1, hlt2⟩ := enter1 hwa hwb
  have K := rmay_any s a n c xs wb (h.below hB)
  have a0 := tA.c0
  have a1 := tA.c1
  have HA := hide (And.intro tA (And.intro tR (And.intro (h.below hB) hB)))
  have HL := hide h.len
  clear tA tR hB h
  unfold setV at K ⊢
  cases hm : MayS s xs
  · rw [hm] at K
    have hE : putR s xs e yes = (0, [], 61) := by simp [putR, putE, hm]
    rw [hE]
    have HK := hide K
    clear K hm hE
    go_enter Try.func29, Try.ntmps29
    go_wp2_with fail
    refine (unhide HK).mono ?_
    rintro _ w1 ⟨rfl, hb1⟩
    have HR := hide (And.intro ((unhide HA).2.1.keep hb1) ((unhide HA).2.2.2.trans (hb1.mono (by omega))))
    clear hb1 HK
    go_wp2_with fail
    refine (none_any _).mono ?_
    rintro _ w2 ⟨rfl, hb2⟩
    have hz1 := (unhide HR).2.size
    have tR := (unhide HR).1.keep hb2
    have r0 := tR.c0
    have r1 := tR.c1
    have f0 := tR.f0
    have f1 := tR.f1
    have T3 := tR.set (.int .i64 0) (.slice none 0 0)
    have p0 := T3.c0
    have p1 := T3.c1
    have HB := hide (two_below ((unhide HR).2.trans (hb2.mono hz1)) wa.heap.size (by omega) (.int .i64 0) (.slice none 0 0))
    clear tR T3 hb2
    go_wp2_with fail
    refine bodyPost_ret (by simp [results, Try.results29, go_sem, p0, p1]; try rfl) rfl ?_
    exact resS_zero (unhide HB)
  · rw [hm] at K
    obtain ⟨sz, rfl, hsz⟩ := fitsI_nat (MayS.fits hm)
    have HK := hide K
    by_cases hbad : e < 0 ∨ (sz : Int) ≤ e
    · have hE : putR sz xs e yes = (0, [], 62) := by
        have : ¬ (0 ≤ e ∧ e < (sz : Int)) := by omega
        simp [putR, putE, hm, this]
      rw [hE]
      clear K hm hE
      rcases hbad with hbad | hbad
      all_goals
        go_enter Try.func29, Try.ntmps29
        go_wp2_with fail
        refine (unhide HK).mono ?_
        rintro _ w1 ⟨rfl, hb1⟩
        have tA := (unhide HA).1.keep hb1
        have e0 := tA.c0
        have e1 := tA.c1
        have HR := hide (And.intro ((unhide HA).2.1.keep hb1) ((unhide HA).2.2.2.trans (hb1.mono (by omega))))
        clear hb1 HK tA
        go_wp2_with fail
        all_goals
          refine (none_any _).mono ?_
          rintro _ w2 ⟨rfl, hb2⟩
          have hz1 := (unhide HR).2.size
          have tR := (unhide HR).1.keep hb2
          have r0 := tR.c0
          have r1 := tR.c1
          have f0 := tR.f0
          have f1 := tR.f1
          have T3 := tR.set (.int .i64 0) (.slice none 0 0)
          have p0 := T3.c0
          have p1 := T3.c1
          have HB := hide (two_below ((unhide HR).2.trans (hb2.mono hz1)) wa.heap.size (by omega) (.int .i64 0) (.slice none 0 0))
          clear tR T3 hb2
          go_wp2_with fail
          refine bodyPost_ret (by simp [results, Try.results29, go_sem, p0, p1]; try rfl) rfl ?_
          exact resS_zero (unhide HB)
    · obtain ⟨e, rfl⟩ := Int.eq_ofNat_of_zero_le (by omega : 0 ≤ e)
      have hes : e < sz := by omega
      have hn : n = nW sz := by rw [← unhide HL, MayS.len hm]; simp
      have hE : putR sz xs e yes = ((sz : Int), wordsL sz (fun x => if (x : Int) = (e : Int) then yes else hasB (fun i => xs.getD i 0) x), 0) := by
        have : (0 : Int) ≤ (e : Int) ∧ (e : Int) < (sz : Int) := by omega
        simp [putR, putE, hm, this]
      rw [hE]
      have HM := hide hm
      have HN := hide hn
      have he0 : ¬ ((e : Int) < 0) := by omega
      have he1 : (e : Int) < (sz : Int) := by omega
      clear K hm hE hbad hn
      go_enter Try.func29, Try.ntmps29
      go_wp2_with fail
      refine (unhide HK).mono ?_
      rintro _ w1 ⟨rfl, hb1⟩
      have tA := (unhide HA).1.keep hb1
      have e0 := tA.c0
      have e1 := tA.c1
      have hBw1 := (unhide HA).2.2.2.trans (hb1.mono (by omega))
      have HR := hide (And.intro ((unhide HA).2.1.keep hb1) hBw1)
      have K2 := list_any sz a n c xs w1 ((unhide HA).2.2.1.below hb1) hsz (unhide HN)
      unfold setV at K2
      have HK2 := hide K2
      have hz1 := hBw1.size
      have hRl := ((unhide HA).2.1.keep hb1).lt
      clear hb1 HK tA K2 hBw1
      go_wp2_with fail
      refine (unhide HK2).mono ?_
      rintro _ w2 ⟨b, rfl, hb0, hb1, hfn, hbel⟩
      have hI : InLp w w2 wa.heap.size b sz (hasB (fun i => xs.getD i 0)) := ⟨(unhide HR).1.keep hbel, hfn, (unhide HR).2.trans (hbel.mono hz1)⟩
      have hI2 := hI.set e yes hes (by omega) (by omega)
      have g1 := (hfn e hes).1
      have g2 := (hfn e hes).2
      rw [Nat.zero_add] at g1 g2
      unfold vB at g1
      have HI := hide hI2
      have HO := hide (of_any (some ⟨b, 0, none⟩) sz sz _ _ (hI2.sl hsz) hsz)
      generalize hasB (fun i => xs.getD i 0) e = old at g1
      have hRlt : wa.heap.size < w2.heap.size := hI.res.lt
      clear hI hI2 hfn hbel HK2 HR e0 e1 a0 a1
      go_wp2_with fail
      refine (unhide HO).mono ?_
      rintro _ w3 ⟨_, rfl, a3, n3, c3, rfl, hs3, hn3, hb3⟩
      have T2 := (unhide HI).res.keep hb3
      have t0 := T2.c0
      have t1 := T2.c1
      have f0 := T2.f0
      have f1 := T2.f1
      have T3 := T2.set (.int .i64 sz) (.slice a3 n3 c3)
      have p0 := T3.c0
      have p1 := T3.c1
      have HS3 := hide hs3
      have HB3 := hide hb3
      have HN3 := hide hn3
      clear T2 T3 hb3 hs3 HO hn3
      unfold setV
      go_wp2_with fail
      refine bodyPost_ret (by simp [results, Try.results29, go_sem, p0, p1]; try rfl) rfl ?_
      refine (unhide HI).doneR (by omega) (unhide HS3) (unhide HB3) (unhide HN3) (fun x hx => ?_)
      by_cases hxe : x = e
      · subst hxe; simp [hes]
      · rw [if_neg hxe, if_neg (by omega)]
        by_cases hxs : x < sz
        · simp [hxs]
        · have := MayS.zero (unhide HM) x (by simp; omega) (by rw [unhide HL, unhide HN]; exact hx)
          rw [this]; simp
end Go.Proofs.Ytbendkndnojihaa
