/-
  bitset.Range: its contract.
-/
import Derived.Test.YtbendkndnojihaaBt3
namespace Go.Proofs.Ytbendkndnojihaa
open Go.RowKit Go.Deep
set_option linter.unusedVariables false

def rangeR (size low high : Int) : Int × List Nat × Int :=
  if fitsI size then (size, wordsL size.toNat (fun x => decide (low.toNat ≤ x) && decide ((x : Int) < high) && decide (x < size.toNat)), 0) else (0, [], 60)

/-- In the loop. -/
structure RgLp (w wr : World) (R Z b cb N : Nat) (sz : Nat) (P : Nat → Bool) : Prop where
  res : Two wr R (.int .i64 0) (.slice none 0 0)
  two : Two wr Z (.int .i64 sz) (.slice (some ⟨b, 0, none⟩) N cb)
  rep : ∃ f, FnW wr b 0 N f ∧ RepB N f P
  bel : Below w.heap.size w wr
theorem RgLp.step {w wr w' : World} {R Z b cb N sz : Nat} {P : Nat → Bool} {e : Nat} {f : Nat → Nat} (h : RgLp w wr R Z b cb N sz P) (heN : e / 64 < N) (hR : R ≠ b) (hZ : Z ≠ b) (hb : w.heap.size ≤ b)
    (hrep : RepB N f P)
    (hf : FnW w' b 0 N (fun i => if i = e / 64 then f (e / 64) ||| 2 ^ (e % 64) else f i)) (hc : Chg (fun j => j = b) wr w') : RgLp w w' R Z b cb N sz (fun x => x == e || P x) :=
  ⟨h.res.chg hc hR, h.two.chg hc hZ, ⟨_, hf, hrep.put e heN⟩, h.bel.trans (hc.below h.bel.size (fun j hj => by omega))⟩
theorem RgLp.congr {w wr : World} {R Z b cb N sz : Nat} {P Q : Nat → Bool} (h : RgLp w wr R Z b cb N sz P) (e : ∀ x, x < 64 * N → P x = Q x) : RgLp w wr R Z b cb N sz Q :=
  ⟨h.res, h.two, by obtain ⟨f, h1, h2⟩ := h.rep; exact ⟨f, h1, h2.congr (fun _ _ => rfl) e⟩, h.bel⟩

set_option maxHeartbeats 2000000 in
/-- bitset.Range. -/
theorem range_any (size low high : Int) (w : World) (hl : low ≤ 9223372036854775807) :
    Calls Try.prog 25 #[.int .i64 size, .int .i64 low, .int .i64 high] w fun e w' => ResS w w' (rangeR size low high) e := by
  cases hf : fitsI size
  · have e0 : rangeR size low high = (0, [], 60) := by simp [rangeR, hf]
    rw [e0]
    have K := fits_any size
    rw [hf] at K
    have HK := hide K
    clear K hf
    go_enter Try.func25, Try.ntmps25
    go_wp2_with fail
    refine (unhide HK _).mono ?_
    rintro _ w1 ⟨rfl, rfl⟩
    go_wp2_with fail
    refine bodyPost_ret (by simp [results, Try.results25, go_sem]; try rfl) rfl ?_
    exact resS_zero ((Below.refl _ _).alloc (Nat.le_refl _) _)
  · have K := fits_any size
    rw [hf] at K
    obtain ⟨sz, rfl, hsz⟩ := fitsI_nat hf
    have HK := hide K
    have HF := hide hf
    have hle64 : nW sz ≤ 64 := by unfold nW; omega
    have HN := hide (show ∀ e, e < sz → e / 64 < nW sz from fun e he => by unfold nW; omega)
    clear K hf
    go_enter Try.func25, Try.ntmps25
    go_wp2_with fail
    refine (unhide HK _).mono ?_
    rintro _ w1 ⟨rfl, rfl⟩
    clear HK
    go_wp2_with fail
    obtain ⟨wa, hwa⟩ : ∃ wa, w.alloc (.cells #[.int .i64 0, .slice none 0 0] 24) = wa := ⟨_, rfl⟩
    rw [hwa]
    have HR := hide (show Two wa w.heap.size (.int .i64 0) (.slice none 0 0) by rw [← hwa]; exact Two.made _ _ _ _)
    have HB := hide (show Below w.heap.size w wa by rw [← hwa]; exact (Below.refl _ _).alloc (Nat.le_refl _) _)
    clear hwa
    refine (blank_any sz wa hsz).mono ?_
    rintro _ wb ⟨v, rfl, b, cb, rfl, hc1, hc2, hb1, hb2, hfn, hbel⟩
    unfold setV
    have HW := hide (And.intro hc1 (And.intro hc2 (And.intro hb1 (And.intro hb2 (And.intro hfn hbel)))))
    have hcb : cb ≤ 9223372036854775807 := by unfold maxLen at hc2; omega
    clear hc1 hc2 hb1 hb2 hfn hbel
    go_wp2_with fail
    all_goals
      have hzR := (unhide HR).lt
      have hbR : w.heap.size ≠ b := by have := (unhide HW).2.2.1; omega
      have HT := hide (show RgLp w (wb.alloc (.cells #[.int .i64 sz, .slice (some ⟨b, 0, none⟩) (nW sz) cb] 24)) w.heap.size wb.heap.size b cb (nW sz) sz (fun x => decide (low.toNat ≤ x) && decide (x < low.toNat)) by
        obtain ⟨hc1, hc2, hb1, hb2, hfn, hbel⟩ := unhide HW
        have hal : Below wb.heap.size wb (wb.alloc (.cells #[.int .i64 sz, .slice (some ⟨b, 0, none⟩) (nW sz) cb] 24)) := (Below.refl _ _).alloc (Nat.le_refl _) _
        refine ⟨((unhide HR).keep hbel).keep hal, Two.made _ _ _ _, ⟨_, hfn.below hal, (RepB.zero (nW sz)).congr (fun _ _ => rfl) (fun x _ => ?_)⟩, ?_⟩
        · symm
          simp
        · exact ((unhide HB).trans (hbel.mono (unhide HB).size)).trans (hal.mono (by have := (unhide HB).size; have := hbel.size; omega)))
      have hbb : b < wb.heap.size := (unhide HW).2.2.2.1
      have hbw : w.heap.size ≤ b := by have := (unhide HW).2.2.1; omega
      generalize hZ : wb.heap.size = Z at *
      generalize wb.alloc (.cells #[.int .i64 sz, .slice (some ⟨b, 0, none⟩) (nW sz) cb] 24) = wc at *
      obtain ⟨N, hN⟩ : ∃ N, nW sz = N := ⟨_, rfl⟩
      rw [hN] at HN hle64 HT ⊢
      have HCB := hide (show nW sz = N ∧ nW sz ≤ cb ∧ cb ≤ maxLen from ⟨hN, (unhide HW).1, (unhide HW).2.1⟩)
      clear HW HR HB hZ hN
      go_loopw [9] (fun i wr => ∃ e : Nat, i = .int .i64 e ∧ low.toNat ≤ e ∧ (e = low.toNat ∨ (e ≤ sz ∧ (e : Int) ≤ high)) ∧ RgLp w wr w.heap.size Z b cb N sz (fun x => decide (low.toNat ≤ x) && decide (x < e))) (fun i _ => sz - (intOf i).toNat)
      case atStart =>
        refine ⟨low.toNat, ?_, Nat.le_refl _, .inl rfl, unhide HT⟩
        congr 1
        omega
      case round =>
        obtain ⟨e, rfl, he1, he2, hst⟩ := hrel
        have t0 := hst.two.c0
        have t1 := hst.two.c1
        have r0 := hst.res.c0
        have r1 := hst.res.c1
        have q0 := hst.res.f0
        have q1 := hst.res.f1
        have HS := hide hst
        clear hst
        by_cases hin : (e : Int) < high ∧ e < sz
        · obtain ⟨hi1, hi2⟩ := hin
          have hi2' : (e : Int) < (sz : Int) := by omega
          obtain ⟨f, hfn, hrep⟩ := (unhide HS).rep
          have heN := unhide HN e hi2
          have HP := hide (put_any sz b N cb f e wr hfn (fun i hi => (hrep i hi).1) heN hle64)
          unfold setV at HP
          have HE := hide (And.intro heN hrep)
          clear hfn hrep
          go_wp2_with fail
          all_goals
            refine (unhide HP).mono ?_
            rintro _ w2 ⟨rfl, hf2, hc2⟩
            have HS2 := hide (((unhide HS).step (unhide HE).1 hbR (by omega) hbw (unhide HE).2 hf2 hc2).congr (Q := fun x => decide (low.toNat ≤ x) && decide (x < e + 1)) (fun x _ => by
              rw [Bool.eq_iff_iff]
              simp
              omega))
            clear hf2 hc2 HP HE HS t0 t1 r0 r1 q0 q1
            go_wp2_with fail
            exact ⟨⟨e + 1, by go_num, by omega, .inr (by omega), unhide HS2⟩, by simp [intOf]; omega⟩
        · have HT3 := hide (two_below (unhide HS).bel w.heap.size (Nat.le_refl _) (.int .i64 sz) (.slice (some ⟨b, 0, none⟩) N cb))
          have T3 := (unhide HS).res.set (.int .i64 sz) (.slice (some ⟨b, 0, none⟩) N cb)
          have p0 := T3.c0
          have p1 := T3.c1
          clear T3
          have hin' : high ≤ (e : Int) ∨ (sz : Int) ≤ (e : Int) := by omega
          clear hin
          rcases hin' with hin | hin
          all_goals
            go_wp2_with fail
            all_goals
              refine bodyPost_ret (by simp [results, Try.results25, go_sem, p0, p1]; try rfl) rfl ?_
              obtain ⟨f, hfn, hrep⟩ := (unhide HS).rep
              have hE : rangeR sz low high = ((sz : Int), wordsL sz (fun x => decide (low.toNat ≤ x) && decide ((x : Int) < high) && decide (x < sz)), 0) := by simp [rangeR, unhide HF]
              rw [hE]
              obtain ⟨hcN, hcb1, hcb2⟩ := unhide HCB
              subst hcN
              refine resS_set (hfn.two _ _ _ hbR) (hrep.congr (fun _ _ => rfl) (fun x _ => ?_)) hcb1 hcb2 (unhide HT3)
              rw [Bool.eq_iff_iff]
              simp
              omega
end Go.Proofs.Ytbendkndnojihaa
