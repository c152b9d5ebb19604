/-
  bitset.Put: its contract.
-/
import Derived.Test.YtbendkndnojihaaBtd
namespace Go.Proofs.Ytbendkndnojihaa
open Go.RowKit Go.Deep
set_option linter.unusedVariables false

set_option maxHeartbeats 4000000 in
/-- bitset.Put. -/
theorem sput_any (s : Int) (a : Option Addr) (n c : Nat) (xs : List Nat) (e : Int) (w : World) (h : SlW w a n c xs) (hok : ∀ x ∈ xs, x < 18446744073709551616) :
    Calls Try.prog 28 #[setV s a n c, .int .i64 e] w fun r w' => ResS w w' (putR s xs e true) r := by
  obtain ⟨wa, hwa⟩ : ∃ wa, w.alloc (.cells #[.int .i64 s, .slice a n c] 24) = wa := ⟨_, rfl⟩
  obtain ⟨wb, hwb⟩ : ∃ wb, wa.alloc (.cells #[.int .i64 0, .slice none 0 0] 24) = wb := ⟨_, rfl⟩
  obtain ⟨tA, tR, hB, hlt1, hlt2⟩ := enter1 hwa hwb
  have a0 := tA.c0
  have a1 := tA.c1
  have HR := hide (And.intro tR hB)
  by_cases hz : putE s xs e = 0
  · obtain ⟨hm, h0, h1⟩ := putE_zero hz
    obtain ⟨sz, rfl, hsz⟩ := fitsI_nat (MayS.fits hm)
    obtain ⟨e, rfl⟩ := Int.eq_ofNat_of_zero_le h0
    have hes : e < sz := by omega
    have hE : putR sz xs e true = ((sz : Int), wordsL sz (fun x => if (x : Int) = (e : Int) then true else hasB (fun i => xs.getD i 0) x), 0) := by simp [putR, hz]
    rw [hE]
    have K := copyFor_ok sz a n c xs e wb (h.below hB) hok hm hes
    have hlen : xs.length = nW sz := by rw [MayS.len hm]; simp
    have HRep := hide (RepB.self (n := nW sz) (f := fun i => xs.getD i 0) (fun i hi => by
      have : xs.getD i 0 = xs[i]'(by omega) := by simp [List.getD, show i < xs.length from by omega]
      rw [this]; exact hok _ (List.getElem_mem _)))
    have heN : e / 64 < nW sz := by unfold nW; omega
    have hle64 : nW sz ≤ 64 := by unfold nW; omega
    have HNq := hide (And.intro heN hle64)
    clear tA tR hB h hok hm hz hE hlen
    unfold setV at K ⊢
    have HK := hide K
    clear K
    go_enter Try.func28, Try.ntmps28
    go_wp2_with fail
    refine (unhide HK).mono ?_
    rintro _ w1 ⟨v, rfl, b, cb, rfl, hc1, hc2, hb1, hb2, hfn, hbel⟩
    unfold setV
    have hR1 := (unhide HR).1.lt
    have hRb : wa.heap.size ≠ b := by omega
    have hal : Below w1.heap.size w1 (w1.alloc (.cells #[.int .i64 sz, .slice (some ⟨b, 0, none⟩) (nW sz) cb] 24)) := (Below.refl _ _).alloc (Nat.le_refl _) _
    have tZ : Two (w1.alloc (.cells #[.int .i64 sz, .slice (some ⟨b, 0, none⟩) (nW sz) cb] 24)) w1.heap.size (.int .i64 sz) (.slice (some ⟨b, 0, none⟩) (nW sz) cb) := Two.made _ _ _ _
    have hbz := hbel.size
    have HS := hide (And.intro tZ (And.intro (((unhide HR).1.keep hbel).keep hal) (And.intro (hfn.below hal) (And.intro (((unhide HR).2.trans (hbel.mono (by omega))).trans (hal.mono (by omega))) (And.intro hc1 hc2)))))
    have hcw := hc2
    unfold maxLen at hcw
    clear tZ hal hfn hbel hc1 hc2 HK HR a0 a1
    obtain ⟨wd, hwd⟩ : ∃ wd, w1.alloc (.cells #[.int .i64 sz, .slice (some ⟨b, 0, none⟩) (nW sz) cb] 24) = wd := ⟨_, rfl⟩
    rw [hwd] at HS
    have z0 := (unhide HS).1.c0
    have z1 := (unhide HS).1.c1
    have K2 := put_any sz b (nW sz) cb (fun i => xs.getD i 0) e wd (unhide HS).2.2.1 (fun i hi => (unhide HRep i hi).1) (unhide HNq).1 (unhide HNq).2
    unfold setV at K2
    have HK2 := hide K2
    clear K2
    go_wp2_with fail
    refine (unhide HK2).mono ?_
    rintro _ w2 ⟨rfl, hf2, hc2⟩
    have tZ2 := (unhide HS).1.chg hc2 (by omega)
    have tR2 := (unhide HS).2.1.chg hc2 (by omega)
    have e0 := tZ2.c0
    have e1 := tZ2.c1
    have r0 := tR2.c0
    have r1 := tR2.c1
    have f0 := tR2.f0
    have f1 := tR2.f1
    have T3 := tR2.set (.int .i64 sz) (.slice (some ⟨b, 0, none⟩) (nW sz) cb)
    have p0 := T3.c0
    have p1 := T3.c1
    have HE := hide (And.intro hf2 hc2)
    clear tZ2 tR2 T3 hf2 hc2 z0 z1
    go_wp2_with fail
    refine bodyPost_ret (by simp [results, Try.results28, go_sem, p0, p1]; try rfl) rfl ?_
    obtain ⟨q1, q2, q3, q4, q5, q6⟩ := unhide HS
    obtain ⟨g1, g2⟩ := unhide HE
    refine resS_set (g1.two _ _ _ hRb) (((unhide HRep).put e (unhide HNq).1).congr (fun _ _ => rfl) (fun x _ => ?_)) q5 q6 (two_below (q4.trans (g2.below q4.size (fun j hj => by omega))) _ (by omega) _ _)
    by_cases hx : x = e
    · subst hx; simp
    · rw [if_neg (by omega)]; simp [hx]

  · have hE : putR s xs e true = (0, [], putE s xs e) := by simp [putR, hz]
    rw [hE]
    have K := copyFor_bad s a n c xs e wb (h.below hB) hok hz
    have hne : (putE s xs e == 0) = false := by simpa using hz
    generalize putE s xs e = er at *
    clear tA tR hB h hok hz hE
    unfold setV at K ⊢
    have HK := hide K
    clear K
    go_enter Try.func28, Try.ntmps28
    go_wp2_with fail
    refine (unhide HK).mono ?_
    rintro _ w1 ⟨rfl, hb1⟩
    have hal : Below w1.heap.size w1 (w1.alloc (.cells #[.int .i64 0, .slice none 0 0] 24)) := (Below.refl _ _).alloc (Nat.le_refl _) _
    have tZ : Two (w1.alloc (.cells #[.int .i64 0, .slice none 0 0] 24)) w1.heap.size (.int .i64 0) (.slice none 0 0) := Two.made _ _ _ _
    have tR := ((unhide HR).1.keep hb1).keep hal
    have hbz := hb1.size
    obtain ⟨wd, hwd⟩ : ∃ wd, w1.alloc (.cells #[.int .i64 0, .slice none 0 0] 24) = wd := ⟨_, rfl⟩
    rw [hwd] at tZ tR hal
    have hRlt := (unhide HR).1.lt
    have z0 := tZ.c0
    have z1 := tZ.c1
    have z2 := tZ.f0
    have z3 := tZ.f1
    have tZ2 := tZ.set (.int .i64 0) (.slice none 0 0)
    have tR2 := tR.chg (two_chg wd w1.heap.size (.int .i64 0) (.slice none 0 0)) (by omega)
    have y0 := tZ2.c0
    have y1 := tZ2.c1
    have r0 := tR2.c0
    have r1 := tR2.c1
    have f0 := tR2.f0
    have f1 := tR2.f1
    have T3 := tR2.set (.int .i64 0) (.slice none 0 0)
    have p0 := T3.c0
    have p1 := T3.c1
    have HB := hide (two_below (two_below (((unhide HR).2.trans (hb1.mono (by omega))).trans (hal.mono (by omega))) w1.heap.size (by omega) (.int .i64 0) (.slice none 0 0)) wa.heap.size (by omega) (.int .i64 0) (.slice none 0 0))
    clear tZ tR T3 hb1 HK hal HR a0 a1 tZ2 tR2
    go_wp2_with fail
    refine bodyPost_ret (by simp [results, Try.results28, go_sem, p0, p1]; try rfl) rfl ?_
    exact resS_zero (unhide HB)
end Go.Proofs.Ytbendkndnojihaa
