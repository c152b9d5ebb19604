/-
  bitset.Make, Range: contracts.
-/
import Derived.Test.YtbendkndnojihaaBt2
namespace Go.Proofs.Ytbendkndnojihaa
open Go.RowKit Go.Deep
set_option linter.unusedVariables false

/-- A set and an error. -/
def ResS (w w' : World) (r : Int × List Nat × Int) (e : Ending) : Prop :=
  ∃ a n c, e = .returned (.tuple #[setV r.1 a n c, .int .i64 r.2.2]) ∧ SlW w' a n c r.2.1 ∧ Below w.heap.size w w'

theorem resS_zero {w w' : World} {er : Int} (h : Below w.heap.size w w') : ResS w w' (0, [], er) (.returned (.tuple #[.agg #[.int .i64 0, .slice none 0 0], .int .i64 er])) :=
  ⟨none, 0, 0, rfl, SlG.nil _, h⟩
theorem resS_set {w w' : World} {s : Int} {sz b cb : Nat} {f : Nat → Nat} {P : Nat → Bool} (hf : FnW w' b 0 (nW sz) f) (hr : RepB (nW sz) f P) (hc : nW sz ≤ cb) (hm : cb ≤ maxLen) (h : Below w.heap.size w w') :
    ResS w w' (s, wordsL sz P, 0) (.returned (.tuple #[.agg #[.int .i64 s, .slice (some ⟨b, 0, none⟩) (nW sz) cb], .int .i64 0])) := by
  refine ⟨_, _, _, rfl, ?_, h⟩
  have := hf.sl (d := 0) hc hm
  rwa [show lstG f (nW sz) = wordsL sz P from wordsL_of hr] at this

def badE (size : Int) (e : Int) : Bool := decide (e < 0) || decide (size ≤ e)
def mkR (size : Int) (l : List Int) : Int × List Nat × Int :=
  if fitsI size then (if l.any (badE size) then (0, [], 62) else (size, wordsL size.toNat (fun x => l.any (fun e => e == (x : Int))), 0)) else (0, [], 60)

theorem any_take {l : List Int} {k : Nat} (hk : k < l.length) (p : Int → Bool) : (l.take (k + 1)).any p = (p (l.getD k 0) || (l.take k).any p) := by
  rw [List.take_add_one, List.getElem?_eq_getElem hk, List.any_append, Bool.or_comm]
  simp [List.getD, hk]
theorem any_bad {l : List Int} {p : Int → Bool} {k : Nat} (hk : k < l.length) (h : p (l.getD k 0) = true) : l.any p = true := by
  rw [List.any_eq_true]
  refine ⟨l[k], List.getElem_mem hk, ?_⟩
  simpa [List.getD, hk] using h

/-- In the loop: the answer's place, the variable, the words. -/
structure MkLp (w wr : World) (R Z b cb N : Nat) (sz : Nat) (l : List Int) (k : Nat) : Prop where
  res : Two wr R (.int .i64 0) (.slice none 0 0)
  two : Two wr Z (.int .i64 sz) (.slice (some ⟨b, 0, none⟩) N cb)
  ok : (l.take k).any (badE sz) = false
  rep : ∃ f, FnW wr b 0 N f ∧ RepB N f (fun x => (l.take k).any (fun e => e == (x : Int)))
  bel : Below w.heap.size w wr
theorem MkLp.step {w wr w' : World} {R Z b cb N sz : Nat} {l : List Int} {k e : Nat} {f : Nat → Nat} (h : MkLp w wr R Z b cb N sz l k) (hk : k < l.length) (he : l.getD k 0 = (e : Int)) (hes : e < sz) (heN : e / 64 < N) (hR : R ≠ b) (hZ : Z ≠ b) (hb : w.heap.size ≤ b)
    (hrep : RepB N f (fun x => (l.take k).any (fun e => e == (x : Int))))
    (hf : FnW w' b 0 N (fun i => if i = e / 64 then f (e / 64) ||| 2 ^ (e % 64) else f i)) (hc : Chg (fun j => j = b) wr w') : MkLp w w' R Z b cb N sz l (k + 1) := by
  refine ⟨h.res.chg hc hR, h.two.chg hc hZ, ?_, ⟨_, hf, ?_⟩, h.bel.trans (hc.below h.bel.size (fun j hj => by omega))⟩
  · rw [any_take hk, h.ok, he]
    simp [badE]
    omega
  · refine (hrep.put e heN).congr (fun _ _ => rfl) (fun x _ => ?_)
    rw [any_take hk, he]
    congr 1
    rw [Bool.eq_iff_iff]
    simp
    omega

set_option maxHeartbeats 2000000 in
/-- bitset.Make. -/
theorem make_any (size : Int) (a : Option Addr) (n c : Nat) (l : List Int) (w : World) (h : SlI w a n c l) :
    Calls Try.prog 23 #[.int .i64 size, .slice a n c] w fun e w' => ResS w w' (mkR size l) e := by
  cases hf : fitsI size
  · have e0 : mkR size l = (0, [], 60) := by simp [mkR, hf]
    rw [e0]
    have K := fits_any size
    rw [hf] at K
    have HK := hide K
    clear K hf
    go_enter Try.func23, Try.ntmps23
    go_wp2_with fail
    refine (unhide HK _).mono ?_
    rintro _ w1 ⟨rfl, rfl⟩
    go_wp2_with fail
    refine bodyPost_ret (by simp [results, Try.results23, go_sem]; try rfl) rfl ?_
    exact ⟨none, 0, 0, rfl, SlG.nil _, (Below.refl _ _).alloc (Nat.le_refl _) _⟩
  · have K := fits_any size
    rw [hf] at K
    obtain ⟨sz, rfl, hsz⟩ := fitsI_nat hf
    have HK := hide K
    have HF := hide hf
    have hn := h.cap
    have hle := h.le
    unfold maxLen at hn
    have hle64 : nW sz ≤ 64 := by unfold nW; omega
    have HN := hide (show ∀ e, e < sz → e / 64 < nW sz from fun e he => by unfold nW; omega)
    have HSl := hide h
    have HLn := hide h.len
    clear K hf h
    go_enter Try.func23, Try.ntmps23
    go_wp2_with fail
    refine (unhide HK _).mono ?_
    rintro _ w1 ⟨rfl, rfl⟩
    clear HK
    go_wp2_with fail
    obtain ⟨wa, hwa⟩ : ∃ wa, w.alloc (.cells #[.int .i64 0, .slice none 0 0] 24) = wa := ⟨_, rfl⟩
    rw [hwa]
    have HR := hide (show Two wa w.heap.size (.int .i64 0) (.slice none 0 0) by rw [← hwa]; exact Two.made _ _ _ _)
    have HB := hide (show Below w.heap.size w wa by rw [← hwa]; exact (Below.refl _ _).alloc (Nat.le_refl _) _)
    clear hwa
    refine (blank_any sz wa hsz).mono ?_
    rintro _ wb ⟨v, rfl, b, cb, rfl, hc1, hc2, hb1, hb2, hfn, hbel⟩
    unfold setV
    have HW := hide (And.intro hc1 (And.intro hc2 (And.intro hb1 (And.intro hb2 (And.intro hfn hbel)))))
    have hcb : cb ≤ 9223372036854775807 := by unfold maxLen at hc2; omega
    clear hc1 hc2 hb1 hb2 hfn hbel
    go_wp2_with fail
    have hzR := (unhide HR).lt
    have hbR : w.heap.size ≠ b := by have := (unhide HW).2.2.1; omega
    have HT := hide (show MkLp w (wb.alloc (.cells #[.int .i64 sz, .slice (some ⟨b, 0, none⟩) (nW sz) cb] 24)) w.heap.size wb.heap.size b cb (nW sz) sz l 0 by
      obtain ⟨hc1, hc2, hb1, hb2, hfn, hbel⟩ := unhide HW
      have hal : Below wb.heap.size wb (wb.alloc (.cells #[.int .i64 sz, .slice (some ⟨b, 0, none⟩) (nW sz) cb] 24)) := (Below.refl _ _).alloc (Nat.le_refl _) _
      refine ⟨((unhide HR).keep hbel).keep hal, Two.made _ _ _ _, rfl, ⟨_, hfn.below hal, by simpa using RepB.zero (nW sz)⟩, ?_⟩
      exact ((unhide HB).trans (hbel.mono (unhide HB).size)).trans (hal.mono (by have := (unhide HB).size; have := hbel.size; omega)))
    have hbb : b < wb.heap.size := (unhide HW).2.2.2.1
    have hbw : w.heap.size ≤ b := by have := (unhide HW).2.2.1; omega
    generalize hZ : wb.heap.size = Z at *
    generalize wb.alloc (.cells #[.int .i64 sz, .slice (some ⟨b, 0, none⟩) (nW sz) cb] 24) = wc at *
    obtain ⟨N, hN⟩ : ∃ N, nW sz = N := ⟨_, rfl⟩
    rw [hN] at HN hle64 HT ⊢
    have HCB := hide (show nW sz = N ∧ nW sz ≤ cb ∧ cb ≤ maxLen from ⟨hN, (unhide HW).1, (unhide HW).2.1⟩)
    clear HW HR HB hZ hN
    go_loopw [17, 8] (fun i _ wr => ∃ k : Nat, k ≤ n ∧ i = .int .i64 k ∧ MkLp w wr w.heap.size Z b cb N sz l k) (fun i _ _ => n - (intOf i).toNat)
    case atStart => exact ⟨0, Nat.zero_le _, rfl, unhide HT⟩
    case round =>
      obtain ⟨k, hk, rfl, hst⟩ := hrel
      have t0 := hst.two.c0
      have t1 := hst.two.c1
      have r0 := hst.res.c0
      have r1 := hst.res.c1
      have q0 := hst.res.f0
      have q1 := hst.res.f1
      have HS := hide hst
      by_cases hlt : k < n
      · have hlt' : (k : Int) < (n : Int) := by omega
        obtain ⟨ba, off, rfl, hcells⟩ := ((unhide HSl).below hst.bel).at (by omega)
        have hcell := hcells k hlt
        have hkl : k < l.length := by rw [unhide HLn]; exact hlt
        have HL := hide hkl
        obtain ⟨e, hge⟩ : ∃ e, l.getD k 0 = e := ⟨_, rfl⟩
        have HG := hide hge
        rw [hge] at hcell
        unfold vI at hcell
        clear hcells hkl hst hge
        by_cases h0 : e < 0
        · have HE := hide (show mkR sz l = (0, [], 62) by
            have : l.any (badE sz) = true := any_bad (unhide HL) (by rw [unhide HG]; simp [badE, h0])
            simp [mkR, unhide HF, this])
          have HT3 := hide (two_below (unhide HS).bel w.heap.size (Nat.le_refl _) (.int .i64 0) (.slice none 0 0))
          have T3 := (unhide HS).res.set (.int .i64 0) (.slice none 0 0)
          have p0 := T3.c0
          have p1 := T3.c1
          clear T3
          go_wp2_with fail
          refine bodyPost_ret (by simp [results, Try.results23, go_sem, p0, p1]; try rfl) rfl ?_
          rw [unhide HE]
          exact resS_zero (unhide HT3)
        · by_cases h1 : (sz : Int) ≤ e
          · have HE := hide (show mkR sz l = (0, [], 62) by
              have : l.any (badE sz) = true := any_bad (unhide HL) (by rw [unhide HG]; simp [badE, h1])
              simp [mkR, unhide HF, this])
            have HT3 := hide (two_below (unhide HS).bel w.heap.size (Nat.le_refl _) (.int .i64 0) (.slice none 0 0))
            have T3 := (unhide HS).res.set (.int .i64 0) (.slice none 0 0)
            have p0 := T3.c0
            have p1 := T3.c1
            clear T3
            go_wp2_with fail
            refine bodyPost_ret (by simp [results, Try.results23, go_sem, p0, p1]; try rfl) rfl ?_
            rw [unhide HE]
            exact resS_zero (unhide HT3)
          · obtain ⟨e, rfl⟩ := Int.eq_ofNat_of_zero_le (by omega : 0 ≤ e)
            obtain ⟨f, hfn, hrep⟩ := (unhide HS).rep
            have hes : e < sz := by omega
            have heN := unhide HN e hes
            have HP := hide (put_any sz b N cb f e wr hfn (fun i hi => (hrep i hi).1) heN hle64)
            unfold setV at HP
            have h0' : ¬ ((e : Int) < 0) := by omega
            have HE := hide (And.intro hes (And.intro heN hrep))
            clear hfn hrep
            go_wp2_with fail
            refine (unhide HP).mono ?_
            rintro _ w2 ⟨rfl, hf2, hc2⟩
            have HS2 := hide ((unhide HS).step (unhide HL) (unhide HG) (unhide HE).1 (unhide HE).2.1 hbR (by omega) hbw (unhide HE).2.2 hf2 hc2)
            clear hf2 hc2 HP HE HS t0 t1 r0 r1 q0 q1 hcell
            go_wp2_with fail
            exact ⟨⟨k + 1, by omega, by go_num, unhide HS2⟩, by simp [intOf]; omega⟩
      · have hlt' : ¬ (k : Int) < (n : Int) := by omega
        have hkn : k = n := by omega
        subst hkn
        have HT3 := hide (two_below (unhide HS).bel w.heap.size (Nat.le_refl _) (.int .i64 sz) (.slice (some ⟨b, 0, none⟩) N cb))
        have T3 := (unhide HS).res.set (.int .i64 sz) (.slice (some ⟨b, 0, none⟩) N cb)
        have p0 := T3.c0
        have p1 := T3.c1
        clear T3 hst
        go_wp2_with fail
        refine bodyPost_ret (by simp [results, Try.results23, go_sem, p0, p1]; try rfl) rfl ?_
        obtain ⟨f, hfn, hrep⟩ := (unhide HS).rep
        have hall : l.take k = l := by rw [List.take_of_length_le]; rw [unhide HLn]; exact Nat.le_refl _
        have hok := (unhide HS).ok
        rw [hall] at hok hrep
        have hE : mkR sz l = ((sz : Int), wordsL sz (fun x => l.any (fun e => e == (x : Int))), 0) := by simp [mkR, unhide HF, hok]
        rw [hE]
        obtain ⟨hcN, hcb1, hcb2⟩ := unhide HCB
        subst hcN
        exact resS_set (hfn.two _ _ _ hbR) hrep hcb1 hcb2 (unhide HT3)
end Go.Proofs.Ytbendkndnojihaa
