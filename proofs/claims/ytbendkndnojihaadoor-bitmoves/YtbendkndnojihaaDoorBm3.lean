/-
  bitset.Shift: contract.
-/
import Derived.Test.YtbendkndnojihaaDoorBm2
import Derived.Test.YtbendkndnojihaaDoorBto
import Derived.Deep.RegionHeld3
namespace Go.Proofs.YtbendkndnojihaaDoor
open Go.RowKit Go.Deep
set_option linter.unusedVariables false

/-- One word is written. -/
theorem RepB.word {N k y : Nat} {f : Nat → Nat} {Q : Nat → Bool} (h : RepB N f (fun x => decide (x < 64 * k) && Q x)) (hy : y < 18446744073709551616) (hb : ∀ j, j < 64 → y.testBit j = Q (64 * k + j)) :
    RepB N (fun i => if i = k then y else f i) (fun x => decide (x < 64 * (k + 1)) && Q x) := by
  intro i hi
  by_cases e : i = k
  · subst e
    simp only [if_true]
    refine ⟨hy, fun j hj => ?_⟩
    rw [hb j hj, decide_eq_true (by omega), Bool.true_and]
  · simp only [if_neg e]
    refine ⟨(h i hi).1, fun j hj => ?_⟩
    rw [(h i hi).2 j hj]
    show (decide (64 * i + j < 64 * k) && Q (64 * i + j)) = (decide (64 * i + j < 64 * (k + 1)) && Q (64 * i + j))
    by_cases c : i < k
    · rw [decide_eq_true (by omega), decide_eq_true (by omega)]
    · rw [decide_eq_false (by omega), decide_eq_false (by omega)]

set_option maxHeartbeats 8000000 in
set_option maxRecDepth 100000 in
/-- bitset.Shift. -/
theorem shift_any (s : Int) (a : Option Addr) (n c : Nat) (x : List Nat) (sh : Int) (w : World) (h : SlW w a n c x) (o : OkW x) (hl : -9223372036854775808 ≤ sh) (hh : sh ≤ 9223372036854775807) :
    Calls Tryd.prog 30 #[setV s a n c, .int .i64 sh] w fun r w' => ResS w w' (shiftR s x sh) r := by
  obtain ⟨wa, hwa⟩ : ∃ x, w.alloc (.cells #[.int .i64 s, .slice a n c] 24) = x := ⟨_, rfl⟩
  obtain ⟨wb, hwb⟩ : ∃ x, wa.alloc (.cells #[.int .i64 0, .slice none 0 0] 24) = x := ⟨_, rfl⟩
  obtain ⟨A0, hl1, hl2⟩ := enter1r hwa hwb h
  have tA := A0.t w.heap.size (.int .i64 s) (.slice a n c) (by simp)
  have K := may_any s a n c x wb (A0.w a n c x (by simp)) o
  have HA := hide A0
  have a0 := tA.c0
  have a1' := tA.c1
  have HL := hide h.len
  have HSl := hide h
  have HO := hide o
  clear tA A0 h o
  unfold setV at K ⊢
  cases m : MayS s x
  · rw [m] at K
    have hE : shiftR s x sh = (0, [], 61) := by simp [shiftR, m]
    rw [hE]
    have HK := hide K
    clear K m hE
    go_enter Tryd.func30, Tryd.ntmps30
    go_wp2_with fail
    refine (unhide HK).mono ?_
    rintro _ wc ⟨rfl, hbc⟩
    have A2 := (unhide HA).step hbc
    have tR := A2.t wa.heap.size (.int .i64 0) (.slice none 0 0) (by simp)
    have r0 := tR.c0
    have r1 := tR.c1
    have f0 := tR.f0
    have f1 := tR.f1
    have T3 := tR.set (.int .i64 0) (.slice none 0 0)
    have p0 := T3.c0
    have p1 := T3.c1
    have HB := hide A2.bel
    have HB2 := hide (two_below A2.bel wa.heap.size (by omega) (.int .i64 0) (.slice none 0 0))
    clear tR T3 hbc A2 HA HK a0 a1'
    go_wp2_with fail
    refine bodyPost_ret (by simp [results, Tryd.results30, go_sem, p0, p1]; try rfl) rfl ?_
    first | exact resS_zero (unhide HB2) | exact resS_zero (unhide HB)
  · rw [m] at K
    obtain ⟨sz, rfl, hsz⟩ := fitsI_nat (MayS.fits m)
    have hE : shiftR sz x sh = ((sz : Int), wordsL sz (fun e => decide (e < sz) && shP (gW x) sz sh e), 0) := by simp [shiftR, m]
    rw [hE]
    have hnN : n = nW sz := by have := MayS.len m; rw [unhide HL] at this; simpa using this
    have HZ := hide (show ∀ e, sz ≤ e → hasB (gW x) e = false from fun e he => by
      by_cases c : e < 64 * x.length
      · exact MayS.zero m e (by simpa using he) c
      · unfold hasB gW
        rw [show x.getD (e / 64) 0 = 0 from by simp [List.getD, show ¬ e / 64 < x.length from by omega]]
        simp)
    have HK := hide K
    -- BRANCHES
    by_cases hmid : -(sz : Int) < sh ∧ sh ≤ (sz : Int)
    · have f1 : ¬ (sz : Int) < sh := by omega
      have f2 : -(sz : Int) < sh := by omega
      have f3 : -4096 ≤ sh := by omega
      have f4 : sh ≤ 4096 := by omega
      clear hmid
      have HPZ := hide (show ∀ e, e < sz → pZ x ((e : Int) - (sh)) = shP (gW x) sz sh e from fun e he => by
        unfold pZ shP
        by_cases c : 0 ≤ (e : Int) - sh ∧ (e : Int) - sh < (sz : Int)
        · first | exact absurd c (by omega) | (rw [decide_eq_true c.1, decide_eq_true c.2]; simp)
        · rw [show (decide (0 ≤ (e : Int) - sh) && decide ((e : Int) - sh < (sz : Int))) = false from by simp; omega]
          simp only [Bool.false_and]
          by_cases c2 : 0 ≤ (e : Int) - (sh)
          · rw [unhide HZ _ (by omega)]; simp
          · rw [decide_eq_false c2]; rfl)
      have hle64 : nW sz ≤ 64 := by unfold nW; omega
      have HnN := hide hnN
      clear K m hE hnN
      go_enter Tryd.func30, Tryd.ntmps30
      go_wp2_with fail
      refine (unhide HK).mono ?_
      rintro _ w1 ⟨rfl, hb1⟩
      have HA1 := hide ((unhide HA).step hb1)
      have tA := (unhide HA1).t w.heap.size (.int .i64 sz) (.slice a n c) (by simp)
      have e0 := tA.c0
      have e1 := tA.c1
      clear hb1 HK HA a0 a1' tA hwa hwb
      go_wp2_with fail
      refine (blank_any sz w1 hsz).mono ?_
      rintro _ wb2 ⟨v, rfl, b, cb, rfl, hc1, hc2, hb1, hb2, hfn, hbel⟩
      unfold setV
      have tR := (unhide HA1).t wa.heap.size (.int .i64 0) (.slice none 0 0) (by simp)
      have hRl := tR.lt
      have hw1 := (unhide HA1).bel.size
      have hal : Below wb2.heap.size wb2 (wb2.alloc (.cells #[.int .i64 sz, .slice (some ⟨b, 0, none⟩) (nW sz) cb] 24)) := (Below.refl _ _).alloc (Nat.le_refl _) _
      have HT := hide (show RgLp w (wb2.alloc (.cells #[.int .i64 sz, .slice (some ⟨b, 0, none⟩) (nW sz) cb] 24)) wa.heap.size wb2.heap.size b cb (nW sz) sz (fun x' => decide (x' < 64 * 0) && pZ x ((x' : Int) - (sh))) from
        ⟨(tR.keep hbel).keep hal, Two.made _ _ _ _, ⟨_, hfn.below hal, (RepB.zero (nW sz)).congr (fun _ _ => rfl) (fun x _ => by simp)⟩, ((unhide HA1).bel.trans (hbel.mono hw1)).trans (hal.mono (by have := hbel.size; omega))⟩)
      have HA2 := hide (((unhide HA1).step hbel).step hal)
      have hcb : cb ≤ 9223372036854775807 := by unfold maxLen at hc2; omega
      have HC := hide (And.intro hc1 hc2)
      have hbZ : wb2.heap.size ≠ b := by omega
      have hbR : wa.heap.size ≠ b := by omega
      have hbw : w.heap.size ≤ b := by omega
      have hbw2 : w.heap.size ≠ b := by omega
      have hRZ : wa.heap.size < wb2.heap.size := by have := hbel.size; omega
      have hxb : ∀ z, a = some z → z.block < w.heap.size ∨ n = 0 := fun z hz => by
        by_cases hn0 : n = 0
        · exact .inr hn0
        · obtain ⟨b9, o9, e9, k9⟩ := (unhide HSl).at (by omega)
          rw [e9] at hz
          cases hz
          exact .inl (World.block_lt_of_cell? _ _ (k9 0 (by omega)))
      have HXb := hide hxb
      clear hal hfn hbel hc1 hc2 tR e0 e1 hxb hb1 hb2 hRl
      go_wp2_with fail
      generalize wb2.alloc (.cells #[.int .i64 sz, .slice (some ⟨b, 0, none⟩) (nW sz) cb] 24) = wc at *
      generalize wb2.heap.size = Z at *
      obtain ⟨N, hN⟩ : ∃ N, nW sz = N := ⟨_, rfl⟩
      have HNN := hide hN
      rw [hN] at HT hle64 HC ⊢
      clear hN
      go_loopw [26, 7] (fun i _ wr => ∃ k : Nat, k ≤ N ∧ i = .int .i64 k ∧ RgLp w wr wa.heap.size Z b cb N sz (fun x' => decide (x' < 64 * k) && pZ x ((x' : Int) - (sh))) ∧ Below wc.heap.size wc wc ∧ Facts w wr [fT w.heap.size (.int .i64 sz) (.slice a n c), fW a n c x]) (fun i _ _ => N - (intOf i).toNat)
      case atStart => exact ⟨0, Nat.zero_le _, rfl, unhide HT, Below.refl _ _, ⟨(unhide HA2).bel, fun f hf => (unhide HA2).all f (by simp at hf ⊢; rcases hf with h | h <;> simp [h])⟩⟩
      case round =>
        obtain ⟨k, hk, rfl, hst, _, hFa⟩ := hrel
        have t0 := hst.two.c0
        have t1 := hst.two.c1
        have HS := hide hst
        have HFa := hide hFa
        by_cases hlt : k < N
        · have hlt' : (k : Int) < (N : Int) := by omega
          obtain ⟨f, hfn, hrep⟩ := hst.rep
          have g1 := (hfn k hlt).1
          have g2 := (hfn k hlt).2
          rw [Nat.zero_add] at g1 g2
          unfold vU at g1
          have tA := hFa.t w.heap.size (.int .i64 sz) (.slice a n c) (by simp)
          have e1 := tA.c1
          have hSx := hFa.w a n c x (by simp)
          obtain ⟨p, hp⟩ : ∃ p : Int, (k : Int) * 64 - (sh) = p := ⟨_, rfl⟩
          have hp1 : -100000 ≤ p := by omega
          have hp2 : p ≤ 100000 := by omega
          have hv1 : IntKind.i64.wrap ((k : Int) * 64) = (k : Int) * 64 := by rw [wrap_i64]; omega
          have hv2 : IntKind.i64.wrap p = p := by rw [wrap_i64]; omega
          have HKW := hide (fun (w' : World) (hb : Below wr.heap.size wr w') => window_any a n c x p w' (hSx.below hb) (unhide HO) hp1 hp2)
          have HStep := hide (fun (X : World) (hX : Below wr.heap.size wr X) (y : Nat) (hy1 : y < 18446744073709551616) (hy2 : ∀ j, j < 64 → y.testBit j = pZ x (p + j)) => show RgLp w (X.setCell ⟨b, k, none⟩ (.int .u64 (y : Nat))) wa.heap.size Z b cb N sz (fun x' => decide (x' < 64 * (k + 1)) && pZ x ((x' : Int) - (sh))) ∧ Facts w (X.setCell ⟨b, k, none⟩ (.int .u64 (y : Nat))) [fT w.heap.size (.int .i64 sz) (.slice a n c), fW a n c x] from by
            have hs := (hfn.below hX).set k y hlt
            rw [Nat.zero_add] at hs
            refine ⟨(hst.keep hX).chg hbR hbZ hbw (hrep.word hy1 (fun j hj => ?_)) hs (Chg.of_set (S := fun j => j = b) _ _ _ _ rfl), ?_⟩
            · rw [hy2 j hj]
              congr 1
              omega
            · have hc : Chg (fun j => j = b) X (X.setCell ⟨b, k, none⟩ (.int .u64 (y : Nat))) := Chg.of_set (S := fun j => j = b) _ _ _ _ rfl
              have hF2 := hFa.step hX
              have hbX : Below w.heap.size w (X.setCell ⟨b, k, none⟩ (.int .u64 (y : Nat))) := hF2.bel.trans (hc.below hF2.bel.size (fun j hj => by omega))
              refine ⟨hbX, fun f' hf' => ?_⟩
              simp at hf'
              rcases hf' with rfl | rfl
              · exact (hF2.t w.heap.size (.int .i64 sz) (.slice a n c) (by simp)).chg hc (by omega)
              · exact (unhide HSl).below hbX)
          generalize f k = old at g1
          clear hst hfn hrep hFa tA hSx
          go_wp2_with fail
          go_region_with (
            go_at_call 55
            refine (unhide HKW _ (by first | exact Below.refl _ _ | exact (Below.refl _ _).drew)).mono ?_
            rintro _ w1 ⟨y, rfl, hy1, hy2, d, rfl⟩)
          all_goals
            go_wp2_with fail
            obtain ⟨q1, q2⟩ := unhide HStep (wr.drewN (1 + d)) (bel_drewN (Below.refl _ _) _) y hy1 hy2
            exact ⟨⟨k + 1, by omega, by go_num, q1, Below.refl _ _, q2⟩, by simp [intOf]; omega⟩
        · have hlt' : ¬ (k : Int) < (N : Int) := by omega
          have hkn : k = N := by omega
          subst hkn
          obtain ⟨f, hfn, hrep⟩ := hst.rep
          have K := trim_any sz b k cb f wr hsz hfn (fun i hi => (hrep i hi).1) hle64
          unfold setV at K
          have HK := hide K
          have HRp := hide hrep
          clear K hst hfn hrep hFa
          go_wp2_with fail
          refine (unhide HK).mono ?_
          rintro _ w3 ⟨rfl, hf3, hc3⟩
          have hst3 : RgLp w w3 wa.heap.size Z b cb k sz (fun e => decide (e < sz) && shP (gW x) sz sh e) := by
            have e := unhide HNN
            subst e
            refine ((unhide HS).chg hbR hbZ hbw (unhide HRp).trim hf3 hc3).congr (fun x' hx' => ?_)
            show ((decide (x' < 64 * nW sz) && pZ x ((x' : Int) - (sh))) && decide (x' < sz)) = (decide (x' < sz) && shP (gW x) sz sh x')
            rw [decide_eq_true hx', Bool.true_and, Bool.and_comm]
            by_cases c : x' < sz
            · rw [unhide HPZ x' c]
            · rw [decide_eq_false c]; rfl
          have z0 := hst3.two.c0
          have z1 := hst3.two.c1
          have r0 := hst3.res.c0
          have r1 := hst3.res.c1
          have f0 := hst3.res.f0
          have f1' := hst3.res.f1
          have T3 := hst3.res.set (.int .i64 sz) (.slice (some ⟨b, 0, none⟩) k cb)
          have p0 := T3.c0
          have p1 := T3.c1
          have HS3 := hide hst3
          clear hst3 T3 hf3 hc3 HK HS HRp t0 t1
          go_wp2_with fail
          refine bodyPost_ret (by simp [results, Tryd.results30, go_sem, p0, p1]; try rfl) rfl ?_
          obtain ⟨f, hfn, hrep⟩ := (unhide HS3).rep
          have e := unhide HNN
          subst e
          exact resS_set (hfn.two _ _ _ hbR) hrep (unhide HC).1 (unhide HC).2 (two_below (unhide HS3).bel _ (by omega) _ _)
    · by_cases hhi : (sz : Int) < sh ∧ 0 < sz
      · have f1 : (sz : Int) < sh := by omega
        have f2 : -(sz : Int) < (sz : Int) := by omega
        clear hhi hmid
        have HPZ := hide (show ∀ e, e < sz → pZ x ((e : Int) - ((sz : Int))) = shP (gW x) sz sh e from fun e he => by
          unfold pZ shP
          by_cases c : 0 ≤ (e : Int) - sh ∧ (e : Int) - sh < (sz : Int)
          · first | exact absurd c (by omega) | (rw [decide_eq_true c.1, decide_eq_true c.2]; simp)
          · rw [show (decide (0 ≤ (e : Int) - sh) && decide ((e : Int) - sh < (sz : Int))) = false from by simp; omega]
            simp only [Bool.false_and]
            by_cases c2 : 0 ≤ (e : Int) - ((sz : Int))
            · rw [unhide HZ _ (by omega)]; simp
            · rw [decide_eq_false c2]; rfl)
        have hle64 : nW sz ≤ 64 := by unfold nW; omega
        have HnN := hide hnN
        clear K m hE hnN
        go_enter Tryd.func30, Tryd.ntmps30
        go_wp2_with fail
        refine (unhide HK).mono ?_
        rintro _ w1 ⟨rfl, hb1⟩
        have HA1 := hide ((unhide HA).step hb1)
        have tA := (unhide HA1).t w.heap.size (.int .i64 sz) (.slice a n c) (by simp)
        have e0 := tA.c0
        have e1 := tA.c1
        clear hb1 HK HA a0 a1' tA hwa hwb
        go_wp2_with fail
        refine (blank_any sz w1 hsz).mono ?_
        rintro _ wb2 ⟨v, rfl, b, cb, rfl, hc1, hc2, hb1, hb2, hfn, hbel⟩
        unfold setV
        have tR := (unhide HA1).t wa.heap.size (.int .i64 0) (.slice none 0 0) (by simp)
        have hRl := tR.lt
        have hw1 := (unhide HA1).bel.size
        have hal : Below wb2.heap.size wb2 (wb2.alloc (.cells #[.int .i64 sz, .slice (some ⟨b, 0, none⟩) (nW sz) cb] 24)) := (Below.refl _ _).alloc (Nat.le_refl _) _
        have HT := hide (show RgLp w (wb2.alloc (.cells #[.int .i64 sz, .slice (some ⟨b, 0, none⟩) (nW sz) cb] 24)) wa.heap.size wb2.heap.size b cb (nW sz) sz (fun x' => decide (x' < 64 * 0) && pZ x ((x' : Int) - ((sz : Int)))) from
          ⟨(tR.keep hbel).keep hal, Two.made _ _ _ _, ⟨_, hfn.below hal, (RepB.zero (nW sz)).congr (fun _ _ => rfl) (fun x _ => by simp)⟩, ((unhide HA1).bel.trans (hbel.mono hw1)).trans (hal.mono (by have := hbel.size; omega))⟩)
        have HA2 := hide (((unhide HA1).step hbel).step hal)
        have hcb : cb ≤ 9223372036854775807 := by unfold maxLen at hc2; omega
        have HC := hide (And.intro hc1 hc2)
        have hbZ : wb2.heap.size ≠ b := by omega
        have hbR : wa.heap.size ≠ b := by omega
        have hbw : w.heap.size ≤ b := by omega
        have hbw2 : w.heap.size ≠ b := by omega
        have hRZ : wa.heap.size < wb2.heap.size := by have := hbel.size; omega
        have hxb : ∀ z, a = some z → z.block < w.heap.size ∨ n = 0 := fun z hz => by
          by_cases hn0 : n = 0
          · exact .inr hn0
          · obtain ⟨b9, o9, e9, k9⟩ := (unhide HSl).at (by omega)
            rw [e9] at hz
            cases hz
            exact .inl (World.block_lt_of_cell? _ _ (k9 0 (by omega)))
        have HXb := hide hxb
        clear hal hfn hbel hc1 hc2 tR e0 e1 hxb hb1 hb2 hRl
        go_wp2_with fail
        generalize wb2.alloc (.cells #[.int .i64 sz, .slice (some ⟨b, 0, none⟩) (nW sz) cb] 24) = wc at *
        generalize wb2.heap.size = Z at *
        obtain ⟨N, hN⟩ : ∃ N, nW sz = N := ⟨_, rfl⟩
        have HNN := hide hN
        rw [hN] at HT hle64 HC ⊢
        clear hN
        go_loopw [26, 7] (fun i _ wr => ∃ k : Nat, k ≤ N ∧ i = .int .i64 k ∧ RgLp w wr wa.heap.size Z b cb N sz (fun x' => decide (x' < 64 * k) && pZ x ((x' : Int) - ((sz : Int)))) ∧ Below wc.heap.size wc wc ∧ Facts w wr [fT w.heap.size (.int .i64 sz) (.slice a n c), fW a n c x]) (fun i _ _ => N - (intOf i).toNat)
        case atStart => exact ⟨0, Nat.zero_le _, rfl, unhide HT, Below.refl _ _, ⟨(unhide HA2).bel, fun f hf => (unhide HA2).all f (by simp at hf ⊢; rcases hf with h | h <;> simp [h])⟩⟩
        case round =>
          obtain ⟨k, hk, rfl, hst, _, hFa⟩ := hrel
          have t0 := hst.two.c0
          have t1 := hst.two.c1
          have HS := hide hst
          have HFa := hide hFa
          by_cases hlt : k < N
          · have hlt' : (k : Int) < (N : Int) := by omega
            obtain ⟨f, hfn, hrep⟩ := hst.rep
            have g1 := (hfn k hlt).1
            have g2 := (hfn k hlt).2
            rw [Nat.zero_add] at g1 g2
            unfold vU at g1
            have tA := hFa.t w.heap.size (.int .i64 sz) (.slice a n c) (by simp)
            have e1 := tA.c1
            have hSx := hFa.w a n c x (by simp)
            obtain ⟨p, hp⟩ : ∃ p : Int, (k : Int) * 64 - ((sz : Int)) = p := ⟨_, rfl⟩
            have hp1 : -100000 ≤ p := by omega
            have hp2 : p ≤ 100000 := by omega
            have hv1 : IntKind.i64.wrap ((k : Int) * 64) = (k : Int) * 64 := by rw [wrap_i64]; omega
            have hv2 : IntKind.i64.wrap p = p := by rw [wrap_i64]; omega
            have HKW := hide (fun (w' : World) (hb : Below wr.heap.size wr w') => window_any a n c x p w' (hSx.below hb) (unhide HO) hp1 hp2)
            have HStep := hide (fun (X : World) (hX : Below wr.heap.size wr X) (y : Nat) (hy1 : y < 18446744073709551616) (hy2 : ∀ j, j < 64 → y.testBit j = pZ x (p + j)) => show RgLp w (X.setCell ⟨b, k, none⟩ (.int .u64 (y : Nat))) wa.heap.size Z b cb N sz (fun x' => decide (x' < 64 * (k + 1)) && pZ x ((x' : Int) - ((sz : Int)))) ∧ Facts w (X.setCell ⟨b, k, none⟩ (.int .u64 (y : Nat))) [fT w.heap.size (.int .i64 sz) (.slice a n c), fW a n c x] from by
              have hs := (hfn.below hX).set k y hlt
              rw [Nat.zero_add] at hs
              refine ⟨(hst.keep hX).chg hbR hbZ hbw (hrep.word hy1 (fun j hj => ?_)) hs (Chg.of_set (S := fun j => j = b) _ _ _ _ rfl), ?_⟩
              · rw [hy2 j hj]
                congr 1
                omega
              · have hc : Chg (fun j => j = b) X (X.setCell ⟨b, k, none⟩ (.int .u64 (y : Nat))) := Chg.of_set (S := fun j => j = b) _ _ _ _ rfl
                have hF2 := hFa.step hX
                have hbX : Below w.heap.size w (X.setCell ⟨b, k, none⟩ (.int .u64 (y : Nat))) := hF2.bel.trans (hc.below hF2.bel.size (fun j hj => by omega))
                refine ⟨hbX, fun f' hf' => ?_⟩
                simp at hf'
                rcases hf' with rfl | rfl
                · exact (hF2.t w.heap.size (.int .i64 sz) (.slice a n c) (by simp)).chg hc (by omega)
                · exact (unhide HSl).below hbX)
            generalize f k = old at g1
            clear hst hfn hrep hFa tA hSx
            go_wp2_with fail
            go_region_with (
              go_at_call 55
              refine (unhide HKW _ (by first | exact Below.refl _ _ | exact (Below.refl _ _).drew)).mono ?_
              rintro _ w1 ⟨y, rfl, hy1, hy2, d, rfl⟩)
            all_goals
              go_wp2_with fail
              obtain ⟨q1, q2⟩ := unhide HStep (wr.drewN (1 + d)) (bel_drewN (Below.refl _ _) _) y hy1 hy2
              exact ⟨⟨k + 1, by omega, by go_num, q1, Below.refl _ _, q2⟩, by simp [intOf]; omega⟩
          · have hlt' : ¬ (k : Int) < (N : Int) := by omega
            have hkn : k = N := by omega
            subst hkn
            obtain ⟨f, hfn, hrep⟩ := hst.rep
            have K := trim_any sz b k cb f wr hsz hfn (fun i hi => (hrep i hi).1) hle64
            unfold setV at K
            have HK := hide K
            have HRp := hide hrep
            clear K hst hfn hrep hFa
            go_wp2_with fail
            refine (unhide HK).mono ?_
            rintro _ w3 ⟨rfl, hf3, hc3⟩
            have hst3 : RgLp w w3 wa.heap.size Z b cb k sz (fun e => decide (e < sz) && shP (gW x) sz sh e) := by
              have e := unhide HNN
              subst e
              refine ((unhide HS).chg hbR hbZ hbw (unhide HRp).trim hf3 hc3).congr (fun x' hx' => ?_)
              show ((decide (x' < 64 * nW sz) && pZ x ((x' : Int) - ((sz : Int)))) && decide (x' < sz)) = (decide (x' < sz) && shP (gW x) sz sh x')
              rw [decide_eq_true hx', Bool.true_and, Bool.and_comm]
              by_cases c : x' < sz
              · rw [unhide HPZ x' c]
              · rw [decide_eq_false c]; rfl
            have z0 := hst3.two.c0
            have z1 := hst3.two.c1
            have r0 := hst3.res.c0
            have r1 := hst3.res.c1
            have f0 := hst3.res.f0
            have f1' := hst3.res.f1
            have T3 := hst3.res.set (.int .i64 sz) (.slice (some ⟨b, 0, none⟩) k cb)
            have p0 := T3.c0
            have p1 := T3.c1
            have HS3 := hide hst3
            clear hst3 T3 hf3 hc3 HK HS HRp t0 t1
            go_wp2_with fail
            refine bodyPost_ret (by simp [results, Tryd.results30, go_sem, p0, p1]; try rfl) rfl ?_
            obtain ⟨f, hfn, hrep⟩ := (unhide HS3).rep
            have e := unhide HNN
            subst e
            exact resS_set (hfn.two _ _ _ hbR) hrep (unhide HC).1 (unhide HC).2 (two_below (unhide HS3).bel _ (by omega) _ _)
      · by_cases hh0 : (sz : Int) < sh
        · have f2 : ¬ -(sz : Int) < (sz : Int) := by omega
          clear hhi hmid
          have HPZ := hide (show ∀ e, e < sz → pZ x ((e : Int) - (-(sz : Int))) = shP (gW x) sz sh e from fun e he => by
            unfold pZ shP
            by_cases c : 0 ≤ (e : Int) - sh ∧ (e : Int) - sh < (sz : Int)
            · first | exact absurd c (by omega) | (rw [decide_eq_true c.1, decide_eq_true c.2]; simp)
            · rw [show (decide (0 ≤ (e : Int) - sh) && decide ((e : Int) - sh < (sz : Int))) = false from by simp; omega]
              simp only [Bool.false_and]
              by_cases c2 : 0 ≤ (e : Int) - (-(sz : Int))
              · rw [unhide HZ _ (by omega)]; simp
              · rw [decide_eq_false c2]; rfl)
          have hle64 : nW sz ≤ 64 := by unfold nW; omega
          have HnN := hide hnN
          clear K m hE hnN
          go_enter Tryd.func30, Tryd.ntmps30
          go_wp2_with fail
          refine (unhide HK).mono ?_
          rintro _ w1 ⟨rfl, hb1⟩
          have HA1 := hide ((unhide HA).step hb1)
          have tA := (unhide HA1).t w.heap.size (.int .i64 sz) (.slice a n c) (by simp)
          have e0 := tA.c0
          have e1 := tA.c1
          clear hb1 HK HA a0 a1' tA hwa hwb
          go_wp2_with fail
          refine (blank_any sz w1 hsz).mono ?_
          rintro _ wb2 ⟨v, rfl, b, cb, rfl, hc1, hc2, hb1, hb2, hfn, hbel⟩
          unfold setV
          have tR := (unhide HA1).t wa.heap.size (.int .i64 0) (.slice none 0 0) (by simp)
          have hRl := tR.lt
          have hw1 := (unhide HA1).bel.size
          have hal : Below wb2.heap.size wb2 (wb2.alloc (.cells #[.int .i64 sz, .slice (some ⟨b, 0, none⟩) (nW sz) cb] 24)) := (Below.refl _ _).alloc (Nat.le_refl _) _
          have HT := hide (show RgLp w (wb2.alloc (.cells #[.int .i64 sz, .slice (some ⟨b, 0, none⟩) (nW sz) cb] 24)) wa.heap.size wb2.heap.size b cb (nW sz) sz (fun x' => decide (x' < 64 * 0) && pZ x ((x' : Int) - (-(sz : Int)))) from
            ⟨(tR.keep hbel).keep hal, Two.made _ _ _ _, ⟨_, hfn.below hal, (RepB.zero (nW sz)).congr (fun _ _ => rfl) (fun x _ => by simp)⟩, ((unhide HA1).bel.trans (hbel.mono hw1)).trans (hal.mono (by have := hbel.size; omega))⟩)
          have HA2 := hide (((unhide HA1).step hbel).step hal)
          have hcb : cb ≤ 9223372036854775807 := by unfold maxLen at hc2; omega
          have HC := hide (And.intro hc1 hc2)
          have hbZ : wb2.heap.size ≠ b := by omega
          have hbR : wa.heap.size ≠ b := by omega
          have hbw : w.heap.size ≤ b := by omega
          have hbw2 : w.heap.size ≠ b := by omega
          have hRZ : wa.heap.size < wb2.heap.size := by have := hbel.size; omega
          have hxb : ∀ z, a = some z → z.block < w.heap.size ∨ n = 0 := fun z hz => by
            by_cases hn0 : n = 0
            · exact .inr hn0
            · obtain ⟨b9, o9, e9, k9⟩ := (unhide HSl).at (by omega)
              rw [e9] at hz
              cases hz
              exact .inl (World.block_lt_of_cell? _ _ (k9 0 (by omega)))
          have HXb := hide hxb
          clear hal hfn hbel hc1 hc2 tR e0 e1 hxb hb1 hb2 hRl
          go_wp2_with fail
          generalize wb2.alloc (.cells #[.int .i64 sz, .slice (some ⟨b, 0, none⟩) (nW sz) cb] 24) = wc at *
          generalize wb2.heap.size = Z at *
          obtain ⟨N, hN⟩ : ∃ N, nW sz = N := ⟨_, rfl⟩
          have HNN := hide hN
          rw [hN] at HT hle64 HC ⊢
          clear hN
          go_loopw [26, 7] (fun i _ wr => ∃ k : Nat, k ≤ N ∧ i = .int .i64 k ∧ RgLp w wr wa.heap.size Z b cb N sz (fun x' => decide (x' < 64 * k) && pZ x ((x' : Int) - (-(sz : Int)))) ∧ Below wc.heap.size wc wc ∧ Facts w wr [fT w.heap.size (.int .i64 sz) (.slice a n c), fW a n c x]) (fun i _ _ => N - (intOf i).toNat)
          case atStart => exact ⟨0, Nat.zero_le _, rfl, unhide HT, Below.refl _ _, ⟨(unhide HA2).bel, fun f hf => (unhide HA2).all f (by simp at hf ⊢; rcases hf with h | h <;> simp [h])⟩⟩
          case round =>
            obtain ⟨k, hk, rfl, hst, _, hFa⟩ := hrel
            have t0 := hst.two.c0
            have t1 := hst.two.c1
            have HS := hide hst
            have HFa := hide hFa
            by_cases hlt : k < N
            · have hlt' : (k : Int) < (N : Int) := by omega
              obtain ⟨f, hfn, hrep⟩ := hst.rep
              have g1 := (hfn k hlt).1
              have g2 := (hfn k hlt).2
              rw [Nat.zero_add] at g1 g2
              unfold vU at g1
              have tA := hFa.t w.heap.size (.int .i64 sz) (.slice a n c) (by simp)
              have e1 := tA.c1
              have hSx := hFa.w a n c x (by simp)
              obtain ⟨p, hp⟩ : ∃ p : Int, (k : Int) * 64 - (-(sz : Int)) = p := ⟨_, rfl⟩
              have hp1 : -100000 ≤ p := by omega
              have hp2 : p ≤ 100000 := by omega
              have hv1 : IntKind.i64.wrap ((k : Int) * 64) = (k : Int) * 64 := by rw [wrap_i64]; omega
              have hv2 : IntKind.i64.wrap p = p := by rw [wrap_i64]; omega
              have hp3 : (k : Int) * 64 + (sz : Int) = p := by omega
              have HKW := hide (fun (w' : World) (hb : Below wr.heap.size wr w') => window_any a n c x p w' (hSx.below hb) (unhide HO) hp1 hp2)
              have HStep := hide (fun (X : World) (hX : Below wr.heap.size wr X) (y : Nat) (hy1 : y < 18446744073709551616) (hy2 : ∀ j, j < 64 → y.testBit j = pZ x (p + j)) => show RgLp w (X.setCell ⟨b, k, none⟩ (.int .u64 (y : Nat))) wa.heap.size Z b cb N sz (fun x' => decide (x' < 64 * (k + 1)) && pZ x ((x' : Int) - (-(sz : Int)))) ∧ Facts w (X.setCell ⟨b, k, none⟩ (.int .u64 (y : Nat))) [fT w.heap.size (.int .i64 sz) (.slice a n c), fW a n c x] from by
                have hs := (hfn.below hX).set k y hlt
                rw [Nat.zero_add] at hs
                refine ⟨(hst.keep hX).chg hbR hbZ hbw (hrep.word hy1 (fun j hj => ?_)) hs (Chg.of_set (S := fun j => j = b) _ _ _ _ rfl), ?_⟩
                · rw [hy2 j hj]
                  congr 1
                  omega
                · have hc : Chg (fun j => j = b) X (X.setCell ⟨b, k, none⟩ (.int .u64 (y : Nat))) := Chg.of_set (S := fun j => j = b) _ _ _ _ rfl
                  have hF2 := hFa.step hX
                  have hbX : Below w.heap.size w (X.setCell ⟨b, k, none⟩ (.int .u64 (y : Nat))) := hF2.bel.trans (hc.below hF2.bel.size (fun j hj => by omega))
                  refine ⟨hbX, fun f' hf' => ?_⟩
                  simp at hf'
                  rcases hf' with rfl | rfl
                  · exact (hF2.t w.heap.size (.int .i64 sz) (.slice a n c) (by simp)).chg hc (by omega)
                  · exact (unhide HSl).below hbX)
              generalize f k = old at g1
              clear hst hfn hrep hFa tA hSx
              go_wp2_with fail
              go_region_with (
                go_at_call 55
                refine (unhide HKW _ (by first | exact Below.refl _ _ | exact (Below.refl _ _).drew)).mono ?_
                rintro _ w1 ⟨y, rfl, hy1, hy2, d, rfl⟩)
              all_goals
                go_wp2_with fail
                obtain ⟨q1, q2⟩ := unhide HStep (wr.drewN (1 + d)) (bel_drewN (Below.refl _ _) _) y hy1 hy2
                exact ⟨⟨k + 1, by omega, by go_num, q1, Below.refl _ _, q2⟩, by simp [intOf]; omega⟩
            · have hlt' : ¬ (k : Int) < (N : Int) := by omega
              have hkn : k = N := by omega
              subst hkn
              obtain ⟨f, hfn, hrep⟩ := hst.rep
              have K := trim_any sz b k cb f wr hsz hfn (fun i hi => (hrep i hi).1) hle64
              unfold setV at K
              have HK := hide K
              have HRp := hide hrep
              clear K hst hfn hrep hFa
              go_wp2_with fail
              refine (unhide HK).mono ?_
              rintro _ w3 ⟨rfl, hf3, hc3⟩
              have hst3 : RgLp w w3 wa.heap.size Z b cb k sz (fun e => decide (e < sz) && shP (gW x) sz sh e) := by
                have e := unhide HNN
                subst e
                refine ((unhide HS).chg hbR hbZ hbw (unhide HRp).trim hf3 hc3).congr (fun x' hx' => ?_)
                show ((decide (x' < 64 * nW sz) && pZ x ((x' : Int) - (-(sz : Int)))) && decide (x' < sz)) = (decide (x' < sz) && shP (gW x) sz sh x')
                rw [decide_eq_true hx', Bool.true_and, Bool.and_comm]
                by_cases c : x' < sz
                · rw [unhide HPZ x' c]
                · rw [decide_eq_false c]; rfl
              have z0 := hst3.two.c0
              have z1 := hst3.two.c1
              have r0 := hst3.res.c0
              have r1 := hst3.res.c1
              have f0 := hst3.res.f0
              have f1' := hst3.res.f1
              have T3 := hst3.res.set (.int .i64 sz) (.slice (some ⟨b, 0, none⟩) k cb)
              have p0 := T3.c0
              have p1 := T3.c1
              have HS3 := hide hst3
              clear hst3 T3 hf3 hc3 HK HS HRp t0 t1
              go_wp2_with fail
              refine bodyPost_ret (by simp [results, Tryd.results30, go_sem, p0, p1]; try rfl) rfl ?_
              obtain ⟨f, hfn, hrep⟩ := (unhide HS3).rep
              have e := unhide HNN
              subst e
              exact resS_set (hfn.two _ _ _ hbR) hrep (unhide HC).1 (unhide HC).2 (two_below (unhide HS3).bel _ (by omega) _ _)
        · have f1 : ¬ (sz : Int) < sh := by omega
          have f2 : ¬ -(sz : Int) < sh := by omega
          clear hhi hmid
          have HPZ := hide (show ∀ e, e < sz → pZ x ((e : Int) - (-(sz : Int))) = shP (gW x) sz sh e from fun e he => by
            unfold pZ shP
            by_cases c : 0 ≤ (e : Int) - sh ∧ (e : Int) - sh < (sz : Int)
            · first | exact absurd c (by omega) | (rw [decide_eq_true c.1, decide_eq_true c.2]; simp)
            · rw [show (decide (0 ≤ (e : Int) - sh) && decide ((e : Int) - sh < (sz : Int))) = false from by simp; omega]
              simp only [Bool.false_and]
              by_cases c2 : 0 ≤ (e : Int) - (-(sz : Int))
              · rw [unhide HZ _ (by omega)]; simp
              · rw [decide_eq_false c2]; rfl)
          have hle64 : nW sz ≤ 64 := by unfold nW; omega
          have HnN := hide hnN
          clear K m hE hnN
          go_enter Tryd.func30, Tryd.ntmps30
          go_wp2_with fail
          refine (unhide HK).mono ?_
          rintro _ w1 ⟨rfl, hb1⟩
          have HA1 := hide ((unhide HA).step hb1)
          have tA := (unhide HA1).t w.heap.size (.int .i64 sz) (.slice a n c) (by simp)
          have e0 := tA.c0
          have e1 := tA.c1
          clear hb1 HK HA a0 a1' tA hwa hwb
          go_wp2_with fail
          refine (blank_any sz w1 hsz).mono ?_
          rintro _ wb2 ⟨v, rfl, b, cb, rfl, hc1, hc2, hb1, hb2, hfn, hbel⟩
          unfold setV
          have tR := (unhide HA1).t wa.heap.size (.int .i64 0) (.slice none 0 0) (by simp)
          have hRl := tR.lt
          have hw1 := (unhide HA1).bel.size
          have hal : Below wb2.heap.size wb2 (wb2.alloc (.cells #[.int .i64 sz, .slice (some ⟨b, 0, none⟩) (nW sz) cb] 24)) := (Below.refl _ _).alloc (Nat.le_refl _) _
          have HT := hide (show RgLp w (wb2.alloc (.cells #[.int .i64 sz, .slice (some ⟨b, 0, none⟩) (nW sz) cb] 24)) wa.heap.size wb2.heap.size b cb (nW sz) sz (fun x' => decide (x' < 64 * 0) && pZ x ((x' : Int) - (-(sz : Int)))) from
            ⟨(tR.keep hbel).keep hal, Two.made _ _ _ _, ⟨_, hfn.below hal, (RepB.zero (nW sz)).congr (fun _ _ => rfl) (fun x _ => by simp)⟩, ((unhide HA1).bel.trans (hbel.mono hw1)).trans (hal.mono (by have := hbel.size; omega))⟩)
          have HA2 := hide (((unhide HA1).step hbel).step hal)
          have hcb : cb ≤ 9223372036854775807 := by unfold maxLen at hc2; omega
          have HC := hide (And.intro hc1 hc2)
          have hbZ : wb2.heap.size ≠ b := by omega
          have hbR : wa.heap.size ≠ b := by omega
          have hbw : w.heap.size ≤ b := by omega
          have hbw2 : w.heap.size ≠ b := by omega
          have hRZ : wa.heap.size < wb2.heap.size := by have := hbel.size; omega
          have hxb : ∀ z, a = some z → z.block < w.heap.size ∨ n = 0 := fun z hz => by
            by_cases hn0 : n = 0
            · exact .inr hn0
            · obtain ⟨b9, o9, e9, k9⟩ := (unhide HSl).at (by omega)
              rw [e9] at hz
              cases hz
              exact .inl (World.block_lt_of_cell? _ _ (k9 0 (by omega)))
          have HXb := hide hxb
          clear hal hfn hbel hc1 hc2 tR e0 e1 hxb hb1 hb2 hRl
          go_wp2_with fail
          generalize wb2.alloc (.cells #[.int .i64 sz, .slice (some ⟨b, 0, none⟩) (nW sz) cb] 24) = wc at *
          generalize wb2.heap.size = Z at *
          obtain ⟨N, hN⟩ : ∃ N, nW sz = N := ⟨_, rfl⟩
          have HNN := hide hN
          rw [hN] at HT hle64 HC ⊢
          clear hN
          go_loopw [26, 7] (fun i _ wr => ∃ k : Nat, k ≤ N ∧ i = .int .i64 k ∧ RgLp w wr wa.heap.size Z b cb N sz (fun x' => decide (x' < 64 * k) && pZ x ((x' : Int) - (-(sz : Int)))) ∧ Below wc.heap.size wc wc ∧ Facts w wr [fT w.heap.size (.int .i64 sz) (.slice a n c), fW a n c x]) (fun i _ _ => N - (intOf i).toNat)
          case atStart => exact ⟨0, Nat.zero_le _, rfl, unhide HT, Below.refl _ _, ⟨(unhide HA2).bel, fun f hf => (unhide HA2).all f (by simp at hf ⊢; rcases hf with h | h <;> simp [h])⟩⟩
          case round =>
            obtain ⟨k, hk, rfl, hst, _, hFa⟩ := hrel
            have t0 := hst.two.c0
            have t1 := hst.two.c1
            have HS := hide hst
            have HFa := hide hFa
            by_cases hlt : k < N
            · have hlt' : (k : Int) < (N : Int) := by omega
              obtain ⟨f, hfn, hrep⟩ := hst.rep
              have g1 := (hfn k hlt).1
              have g2 := (hfn k hlt).2
              rw [Nat.zero_add] at g1 g2
              unfold vU at g1
              have tA := hFa.t w.heap.size (.int .i64 sz) (.slice a n c) (by simp)
              have e1 := tA.c1
              have hSx := hFa.w a n c x (by simp)
              obtain ⟨p, hp⟩ : ∃ p : Int, (k : Int) * 64 - (-(sz : Int)) = p := ⟨_, rfl⟩
              have hp1 : -100000 ≤ p := by omega
              have hp2 : p ≤ 100000 := by omega
              have hv1 : IntKind.i64.wrap ((k : Int) * 64) = (k : Int) * 64 := by rw [wrap_i64]; omega
              have hv2 : IntKind.i64.wrap p = p := by rw [wrap_i64]; omega
              have hp3 : (k : Int) * 64 + (sz : Int) = p := by omega
              have HKW := hide (fun (w' : World) (hb : Below wr.heap.size wr w') => window_any a n c x p w' (hSx.below hb) (unhide HO) hp1 hp2)
              have HStep := hide (fun (X : World) (hX : Below wr.heap.size wr X) (y : Nat) (hy1 : y < 18446744073709551616) (hy2 : ∀ j, j < 64 → y.testBit j = pZ x (p + j)) => show RgLp w (X.setCell ⟨b, k, none⟩ (.int .u64 (y : Nat))) wa.heap.size Z b cb N sz (fun x' => decide (x' < 64 * (k + 1)) && pZ x ((x' : Int) - (-(sz : Int)))) ∧ Facts w (X.setCell ⟨b, k, none⟩ (.int .u64 (y : Nat))) [fT w.heap.size (.int .i64 sz) (.slice a n c), fW a n c x] from by
                have hs := (hfn.below hX).set k y hlt
                rw [Nat.zero_add] at hs
                refine ⟨(hst.keep hX).chg hbR hbZ hbw (hrep.word hy1 (fun j hj => ?_)) hs (Chg.of_set (S := fun j => j = b) _ _ _ _ rfl), ?_⟩
                · rw [hy2 j hj]
                  congr 1
                  omega
                · have hc : Chg (fun j => j = b) X (X.setCell ⟨b, k, none⟩ (.int .u64 (y : Nat))) := Chg.of_set (S := fun j => j = b) _ _ _ _ rfl
                  have hF2 := hFa.step hX
                  have hbX : Below w.heap.size w (X.setCell ⟨b, k, none⟩ (.int .u64 (y : Nat))) := hF2.bel.trans (hc.below hF2.bel.size (fun j hj => by omega))
                  refine ⟨hbX, fun f' hf' => ?_⟩
                  simp at hf'
                  rcases hf' with rfl | rfl
                  · exact (hF2.t w.heap.size (.int .i64 sz) (.slice a n c) (by simp)).chg hc (by omega)
                  · exact (unhide HSl).below hbX)
              generalize f k = old at g1
              clear hst hfn hrep hFa tA hSx
              go_wp2_with fail
              go_region_with (
                go_at_call 55
                refine (unhide HKW _ (by first | exact Below.refl _ _ | exact (Below.refl _ _).drew)).mono ?_
                rintro _ w1 ⟨y, rfl, hy1, hy2, d, rfl⟩)
              all_goals
                go_wp2_with fail
                obtain ⟨q1, q2⟩ := unhide HStep (wr.drewN (1 + d)) (bel_drewN (Below.refl _ _) _) y hy1 hy2
                exact ⟨⟨k + 1, by omega, by go_num, q1, Below.refl _ _, q2⟩, by simp [intOf]; omega⟩
            · have hlt' : ¬ (k : Int) < (N : Int) := by omega
              have hkn : k = N := by omega
              subst hkn
              obtain ⟨f, hfn, hrep⟩ := hst.rep
              have K := trim_any sz b k cb f wr hsz hfn (fun i hi => (hrep i hi).1) hle64
              unfold setV at K
              have HK := hide K
              have HRp := hide hrep
              clear K hst hfn hrep hFa
              go_wp2_with fail
              refine (unhide HK).mono ?_
              rintro _ w3 ⟨rfl, hf3, hc3⟩
              have hst3 : RgLp w w3 wa.heap.size Z b cb k sz (fun e => decide (e < sz) && shP (gW x) sz sh e) := by
                have e := unhide HNN
                subst e
                refine ((unhide HS).chg hbR hbZ hbw (unhide HRp).trim hf3 hc3).congr (fun x' hx' => ?_)
                show ((decide (x' < 64 * nW sz) && pZ x ((x' : Int) - (-(sz : Int)))) && decide (x' < sz)) = (decide (x' < sz) && shP (gW x) sz sh x')
                rw [decide_eq_true hx', Bool.true_and, Bool.and_comm]
                by_cases c : x' < sz
                · rw [unhide HPZ x' c]
                · rw [decide_eq_false c]; rfl
              have z0 := hst3.two.c0
              have z1 := hst3.two.c1
              have r0 := hst3.res.c0
              have r1 := hst3.res.c1
              have f0 := hst3.res.f0
              have f1' := hst3.res.f1
              have T3 := hst3.res.set (.int .i64 sz) (.slice (some ⟨b, 0, none⟩) k cb)
              have p0 := T3.c0
              have p1 := T3.c1
              have HS3 := hide hst3
              clear hst3 T3 hf3 hc3 HK HS HRp t0 t1
              go_wp2_with fail
              refine bodyPost_ret (by simp [results, Tryd.results30, go_sem, p0, p1]; try rfl) rfl ?_
              obtain ⟨f, hfn, hrep⟩ := (unhide HS3).rep
              have e := unhide HNN
              subst e
              exact resS_set (hfn.two _ _ _ hbR) hrep (unhide HC).1 (unhide HC).2 (two_below (unhide HS3).bel _ (by omega) _ _)
end Go.Proofs.YtbendkndnojihaaDoor
