/-
  sloperef3.none, Make, Range: contracts.
-/
import Derived.Test.YtbendkndnojihaaBt5
namespace Go.Proofs.Ytbendkndnojihaa
open Go.RowKit Go.Deep
set_option linter.unusedVariables false

theorem Try.info_bool : (Try.prog.info? 4).map (fun i => (i.zero, i.size, i.bytes)) = some (some (.bool false), 1, 1) := by kernel_rfl
theorem make_bools (n : Nat) (hn : n ≤ 35184372088000) (w : World) : (Instr.makeSlice 85 (.int .i64 (n : Int)) (.int .i64 (n : Int))).run Try.prog w = .ok (.slice (some ⟨w.heap.size, 0, none⟩) n n) (w.alloc (.cells (madeCells #[.bool false] n) 4)) :=
  run_make_row' (P := Try.prog) 85 4 (.bool false) 1 Try.underlying85 Try.info_bool rfl .i64 .i64 n (by omega) (by omega) w

theorem bits_fn (g : Nat → Bool) (sz : Nat) : bitsL (lstG g sz) = wordsL sz (fun x => decide (x < sz) && g x) := by
  unfold bitsL
  rw [lstG_len]
  apply wordsL_congr
  intro x _
  by_cases h : x < sz
  · rw [lstG_getD g sz x false h]; simp [h]
  · simp [h, List.getD, List.getElem?_eq_none (show (lstG g sz).length ≤ x by rw [lstG_len]; omega)]

set_option maxHeartbeats 400000 in
/-- sloperef3.none. -/
theorem none_any (w : World) : Calls Try.prog 49 #[] w fun e w' => e = .returned (.agg #[.int .i64 0, .slice none 0 0]) ∧ Below w.heap.size w w' := by
  go_enter Try.func49, Try.ntmps49
  go_wp2_with fail
  refine bodyPost_ret (by simp [results, Try.results49, go_sem]; try rfl) rfl ?_
  exact ⟨rfl, (Below.refl _ _).alloc (Nat.le_refl _) _⟩

/-- The answer's place, and a row of yes and no. -/
structure InLp (w wr : World) (R b sz : Nat) (g : Nat → Bool) : Prop where
  res : Two wr R (.int .i64 0) (.slice none 0 0)
  row : FnB wr b 0 sz g
  bel : Below w.heap.size w wr
theorem InLp.made {w wa : World} (h : Two wa w.heap.size (.int .i64 0) (.slice none 0 0)) (hb : Below w.heap.size w wa) (sz : Nat) : InLp w (wa.alloc (.cells (madeCells #[.bool false] sz) 4)) w.heap.size wa.heap.size sz (fun _ => false) :=
  have hal : Below wa.heap.size wa (wa.alloc (.cells (madeCells #[.bool false] sz) 4)) := (Below.refl _ _).alloc (Nat.le_refl _) _
  ⟨h.keep hal, FnG.made wa sz 4 false rfl, hb.trans (hal.mono hb.size)⟩
theorem InLp.set {w wr : World} {R b sz : Nat} {g : Nat → Bool} (h : InLp w wr R b sz g) (k : Nat) (v : Bool) (hk : k < sz) (hR : R ≠ b) (hb : w.heap.size ≤ b) : InLp w (wr.setCell ⟨b, k, none⟩ (.bool v)) R b sz (fun x => if x = k then v else g x) := by
  refine ⟨h.res.other b k _ (fun e => hR e.symm), ?_, h.bel.setCell (p := ⟨b, k, none⟩) hb _⟩
  have := h.row.set k v hk
  rw [Nat.zero_add] at this
  exact this
theorem InLp.congr {w wr : World} {R b sz : Nat} {g g' : Nat → Bool} (h : InLp w wr R b sz g) (e : ∀ x, x < sz → g x = g' x) : InLp w wr R b sz g' := ⟨h.res, h.row.congr e, h.bel⟩
theorem InLp.sl {w wr : World} {R b sz : Nat} {g : Nat → Bool} (h : InLp w wr R b sz g) (hs : sz ≤ 4096) : SlB wr (some ⟨b, 0, none⟩) sz sz (lstG g sz) := h.row.sl (Nat.le_refl _) (by unfold maxLen; omega)
/-- The set that Of has made is answered. -/
theorem InLp.done {w wr w2 : World} {R b sz : Nat} {g P : Nat → Bool} {a : Option Addr} {n c : Nat} (h : InLp w wr R b sz g) (hR : R = w.heap.size) (hs : SlW w2 a n c (bitsL (lstG g sz))) (hb : Below wr.heap.size wr w2) (hne : ∀ x, a = some x → wr.heap.size ≤ x.block) (hP : ∀ x, (decide (x < sz) && g x) = P x) :
    ResS w ((w2.setCell ⟨R, 0, none⟩ (.int .i64 sz)).setCell ⟨R, 1, none⟩ (.slice a n c)) (sz, wordsL sz P, 0) (.returned (.tuple #[.agg #[.int .i64 sz, .slice a n c], .int .i64 0])) := by
  refine ⟨a, n, c, rfl, ?_, two_below (h.bel.trans (hb.mono h.bel.size)) R (by omega) _ _⟩
  have e : bitsL (lstG g sz) = wordsL sz P := by
    rw [bits_fn]
    exact wordsL_congr (fun x _ => hP x)
  rw [e] at hs
  have hlt := h.res.lt
  exact hs.chg (two_chg w2 R _ _) (fun x hx hl => by have := hne x hx; omega)

theorem InLp.doneR {w wr w2 : World} {R b sz : Nat} {g P : Nat → Bool} {a : Option Addr} {n c : Nat} (h : InLp w wr R b sz g) (hR : w.heap.size ≤ R) (hs : SlW w2 a n c (bitsL (lstG g sz))) (hb : Below wr.heap.size wr w2) (hne : ∀ x, a = some x → wr.heap.size ≤ x.block) (hP : ∀ x, x < 64 * nW sz → (decide (x < sz) && g x) = P x) :
    ResS w ((w2.setCell ⟨R, 0, none⟩ (.int .i64 sz)).setCell ⟨R, 1, none⟩ (.slice a n c)) (sz, wordsL sz P, 0) (.returned (.tuple #[.agg #[.int .i64 sz, .slice a n c], .int .i64 0])) := by
  refine ⟨a, n, c, rfl, ?_, two_below (h.bel.trans (hb.mono h.bel.size)) R hR _ _⟩
  have e : bitsL (lstG g sz) = wordsL sz P := by
    rw [bits_fn]
    exact wordsL_congr hP
  rw [e] at hs
  have hlt := h.res.lt
  exact hs.chg (two_chg w2 R _ _) (fun x hx hl => by have := hne x hx; omega)

set_option maxHeartbeats 2000000 in
/-- sloperef3.Make. -/
theorem rmake_any (size : Int) (a : Option Addr) (n c : Nat) (l : List Int) (w : World) (h : SlI w a n c l) :
    Calls Try.prog 24 #[.int .i64 size, .slice a n c] w fun e w' => ResS w w' (mkR size l) e := by
  have K := sized_any size
  obtain ⟨wa, hwa⟩ : ∃ wa, w.alloc (.cells #[.int .i64 0, .slice none 0 0] 24) = wa := ⟨_, rfl⟩
  have HR := hide (show Two wa w.heap.size (.int .i64 0) (.slice none 0 0) by rw [← hwa]; exact Two.made _ _ _ _)
  have HB := hide (show Below w.heap.size w wa by rw [← hwa]; exact (Below.refl _ _).alloc (Nat.le_refl _) _)
  cases hf : fitsI size
  · have e0 : mkR size l = (0, [], 60) := by simp [mkR, hf]
    rw [e0]
    rw [hf] at K
    have HK := hide K
    clear K hf
    go_enter Try.func24, Try.ntmps24
    go_wp2_with fail
    refine (unhide HK _).mono ?_
    rintro _ w1 ⟨rfl, hw⟩
    obtain rfl := hw.symm
    go_wp2_with fail
    refine (none_any _).mono ?_
    rintro _ w2 ⟨rfl, hb2⟩
    have T2 := (unhide HR).keep hb2
    have t0 := T2.c0
    have t1 := T2.c1
    have f0 := T2.f0
    have f1 := T2.f1
    have T3 := T2.set (.int .i64 0) (.slice none 0 0)
    have p0 := T3.c0
    have p1 := T3.c1
    have HT3 := hide (two_below ((unhide HB).trans (hb2.mono (unhide HB).size)) w.heap.size (Nat.le_refl _) (.int .i64 0) (.slice none 0 0))
    clear T2 T3 hb2
    go_wp2_with fail
    refine bodyPost_ret (by simp [results, Try.results24, go_sem, p0, p1]; try rfl) rfl ?_
    exact resS_zero (unhide HT3)
  · rw [hf] at K
    obtain ⟨sz, rfl, hsz⟩ := fitsI_nat hf
    have HK := hide K
    have HF := hide hf
    have hcap := h.cap
    have hle := h.le
    unfold maxLen at hcap
    have HSl := hide h
    have HLn := hide h.len
    have hm := make_bools sz (by omega)
    clear K hf h
    go_enter Try.func24, Try.ntmps24
    go_wp2_with fail
    refine (unhide HK _).mono ?_
    rintro _ w1 ⟨rfl, hw⟩
    obtain rfl := hw.symm
    clear HK
    go_wp2_with fail
    have hzR := (unhide HR).lt
    have HT := hide (InLp.made (unhide HR) (unhide HB) sz)
    have hbR : w.heap.size ≠ wa.heap.size := by omega
    have hbw : w.heap.size ≤ wa.heap.size := by omega
    clear HR HB hwa
    generalize wa.alloc (.cells (madeCells #[.bool false] sz) 4) = wc at *
    generalize wa.heap.size = b at *
    go_loopw [7] (fun i wr => ∃ k : Nat, k ≤ n ∧ i = .int .i64 k ∧ (l.take k).any (badE sz) = false ∧ InLp w wr w.heap.size b sz (fun x => (l.take k).any (fun e => e == (x : Int)))) (fun i _ => n - (intOf i).toNat)
    case atStart => exact ⟨0, Nat.zero_le _, rfl, rfl, by simpa using unhide HT⟩
    case round =>
      obtain ⟨k, hk, rfl, hok, hst⟩ := hrel
      have HOk := hide hok
      have r0 := hst.res.c0
      have r1 := hst.res.c1
      have q0 := hst.res.f0
      have q1 := hst.res.f1
      have HS := hide hst
      by_cases hlt : k < n
      · have hlt' : (k : Int) < (n : Int) := by omega
        obtain ⟨ba, off, rfl, hcells⟩ := ((unhide HSl).below hst.bel).at (by omega)
        have hcell := hcells k hlt
        have hkl : k < l.length := by rw [unhide HLn]; exact hlt
        have HL := hide hkl
        obtain ⟨e, hge⟩ : ∃ e, l.getD k 0 = e := ⟨_, rfl⟩
        have HG := hide hge
        rw [hge] at hcell
        unfold vI at hcell
        clear hcells hkl hst hge hok
        by_cases hbad : e < 0 ∨ (sz : Int) ≤ e
        · have HE := hide (show mkR sz l = (0, [], 62) by
            have : l.any (badE sz) = true := any_bad (unhide HL) (by rw [unhide HG]; simpa [badE] using hbad)
            simp [mkR, unhide HF, this])
          rcases hbad with h0 | h0
          all_goals
            go_wp2_with fail
            all_goals
              refine (none_any _).mono ?_
              rintro _ w2 ⟨rfl, hb2⟩
              have T2 := (unhide HS).res.keep hb2
              have t0 := T2.c0
              have t1 := T2.c1
              have f0 := T2.f0
              have f1 := T2.f1
              have T3 := T2.set (.int .i64 0) (.slice none 0 0)
              have p0 := T3.c0
              have p1 := T3.c1
              have HT3 := hide (two_below ((unhide HS).bel.trans (hb2.mono (unhide HS).bel.size)) w.heap.size (Nat.le_refl _) (.int .i64 0) (.slice none 0 0))
              clear T2 T3 hb2
              go_wp2_with fail
              refine bodyPost_ret (by simp [results, Try.results24, go_sem, p0, p1]; try rfl) rfl ?_
              rw [unhide HE]
              exact resS_zero (unhide HT3)
        · obtain ⟨e, rfl⟩ := Int.eq_ofNat_of_zero_le (by omega : 0 ≤ e)
          have hes : e < sz := by omega
          have hes' : (e : Int) < (sz : Int) := by omega
          have h0' : ¬ ((e : Int) < 0) := by omega
          have hc1 := ((unhide HS).row e hes).1
          have hc2 := ((unhide HS).row e hes).2
          rw [Nat.zero_add] at hc1 hc2
          unfold vB at hc1
          generalize (l.take k).any (fun e' => e' == ((e : Nat) : Int)) = old at hc1
          have HS2 := hide (((unhide HS).set e true hes hbR hbw).congr (g' := fun x => (l.take (k + 1)).any (fun e => e == (x : Int))) (fun x _ => by
            rw [any_take (unhide HL), unhide HG]
            by_cases hx : x = e
            · simp [hx]
            · rw [if_neg hx, show ((e : Int) == (x : Int)) = false from by simp; omega]; simp))
          have HO2 := hide (show (l.take (k + 1)).any (badE sz) = false by
            rw [any_take (unhide HL), unhide HOk, unhide HG]
            simp [badE]
            omega)
          clear hbad
          go_wp2_with fail
          exact ⟨⟨k + 1, by omega, by go_num, unhide HO2, unhide HS2⟩, by simp [intOf]; omega⟩
      · have hlt' : ¬ (k : Int) < (n : Int) := by omega
        have hkn : k = n := by omega
        subst hkn
        have HO := hide (of_any (some ⟨b, 0, none⟩) sz sz _ wr (hst.sl hsz) hsz)
        clear hst hok
        go_wp2_with fail
        refine (unhide HO).mono ?_
        rintro _ w2 ⟨_, rfl, a2, n2, c2, rfl, hs2, hn2, hb2⟩
        have T2 := (unhide HS).res.keep hb2
        have t0 := T2.c0
        have t1 := T2.c1
        have f0 := T2.f0
        have f1 := T2.f1
        have T3 := T2.set (.int .i64 sz) (.slice a2 n2 c2)
        have p0 := T3.c0
        have p1 := T3.c1
        have HS2 := hide hs2
        have HB2 := hide hb2
        have HN2 := hide hn2
        clear T2 T3 hb2 hs2 HO hn2
        unfold setV
        go_wp2_with fail
        refine bodyPost_ret (by simp [results, Try.results24, go_sem, p0, p1]; try rfl) rfl ?_
        have hall : l.take k = l := by rw [List.take_of_length_le]; rw [unhide HLn]; exact Nat.le_refl _
        have hok := unhide HOk
        rw [hall] at hok
        have hE : mkR sz l = ((sz : Int), wordsL sz (fun x => l.any (fun e => e == (x : Int))), 0) := by simp [mkR, unhide HF, hok]
        rw [hE]
        refine (unhide HS).done rfl (unhide HS2) (unhide HB2) (unhide HN2) (fun x => ?_)
        rw [hall]
        by_cases hx : x < sz
        · simp [hx]
        · rw [show decide (x < sz) = false from by simp [hx], Bool.false_and]
          symm
          rw [List.any_eq_false]
          intro y hy hyx
          rw [List.any_eq_false] at hok
          have := hok y hy
          simp [badE] at this hyx
          omega

set_option maxHeartbeats 2000000 in
/-- sloperef3.Range. -/
theorem rrange_any (size low high : Int) (w : World) :
    Calls Try.prog 26 #[.int .i64 size, .int .i64 low, .int .i64 high] w fun e w' => ResS w w' (rangeR size low high) e := by
  have K := sized_any size
  obtain ⟨wa, hwa⟩ : ∃ wa, w.alloc (.cells #[.int .i64 0, .slice none 0 0] 24) = wa := ⟨_, rfl⟩
  have HR := hide (show Two wa w.heap.size (.int .i64 0) (.slice none 0 0) by rw [← hwa]; exact Two.made _ _ _ _)
  have HB := hide (show Below w.heap.size w wa by rw [← hwa]; exact (Below.refl _ _).alloc (Nat.le_refl _) _)
  cases hf : fitsI size
  · have e0 : rangeR size low high = (0, [], 60) := by simp [rangeR, hf]
    rw [e0]
    rw [hf] at K
    have HK := hide K
    clear K hf
    go_enter Try.func26, Try.ntmps26
    go_wp2_with fail
    refine (unhide HK _).mono ?_
    rintro _ w1 ⟨rfl, hw⟩
    obtain rfl := hw.symm
    go_wp2_with fail
    refine (none_any _).mono ?_
    rintro _ w2 ⟨rfl, hb2⟩
    have T2 := (unhide HR).keep hb2
    have t0 := T2.c0
    have t1 := T2.c1
    have f0 := T2.f0
    have f1 := T2.f1
    have T3 := T2.set (.int .i64 0) (.slice none 0 0)
    have p0 := T3.c0
    have p1 := T3.c1
    have HT3 := hide (two_below ((unhide HB).trans (hb2.mono (unhide HB).size)) w.heap.size (Nat.le_refl _) (.int .i64 0) (.slice none 0 0))
    clear T2 T3 hb2
    go_wp2_with fail
    refine bodyPost_ret (by simp [results, Try.results26, go_sem, p0, p1]; try rfl) rfl ?_
    exact resS_zero (unhide HT3)
  · rw [hf] at K
    obtain ⟨sz, rfl, hsz⟩ := fitsI_nat hf
    have HK := hide K
    have HF := hide hf
    have hm := make_bools sz (by omega)
    clear K hf
    go_enter Try.func26, Try.ntmps26
    go_wp2_with fail
    refine (unhide HK _).mono ?_
    rintro _ w1 ⟨rfl, hw⟩
    obtain rfl := hw.symm
    clear HK
    go_wp2_with fail
    have hzR := (unhide HR).lt
    have HT := hide (InLp.made (unhide HR) (unhide HB) sz)
    have hbR : w.heap.size ≠ wa.heap.size := by omega
    have hbw : w.heap.size ≤ wa.heap.size := by omega
    clear HR HB hwa
    generalize wa.alloc (.cells (madeCells #[.bool false] sz) 4) = wc at *
    generalize wa.heap.size = b at *
    go_loopw [9] (fun i wr => ∃ k : Nat, k ≤ sz ∧ i = .int .i64 k ∧ InLp w wr w.heap.size b sz (fun x => decide (x < k) && decide (low.toNat ≤ x) && decide ((x : Int) < high))) (fun i _ => sz - (intOf i).toNat)
    case atStart => exact ⟨0, Nat.zero_le _, rfl, by simpa using unhide HT⟩
    case round =>
      obtain ⟨k, hk, rfl, hst⟩ := hrel
      have r0 := hst.res.c0
      have r1 := hst.res.c1
      have q0 := hst.res.f0
      have q1 := hst.res.f1
      have HS := hide hst
      by_cases hlt : k < sz
      · have hlt' : (k : Int) < (sz : Int) := by omega
        have hc1 := ((unhide HS).row k hlt).1
        have hc2 := ((unhide HS).row k hlt).2
        rw [Nat.zero_add] at hc1 hc2
        unfold vB at hc1
        generalize (decide (k < k) && decide (low.toNat ≤ k) && decide ((k : Int) < high)) = old at hc1
        have HS2 := hide (fun v (hv : v = (decide (low ≤ (k : Int)) && decide ((k : Int) < high))) => ((unhide HS).set k v hlt hbR hbw).congr (g' := fun x => decide (x < k + 1) && decide (low.toNat ≤ x) && decide ((x : Int) < high)) (fun x _ => by
          by_cases hx : x = k
          · subst hx
            rw [if_pos rfl, hv, Bool.eq_iff_iff]
            simp
          · rw [if_neg hx, Bool.eq_iff_iff]
            simp
            omega))
        clear hst
        by_cases h1 : low ≤ (k : Int)
        · by_cases h2 : (k : Int) < high
          · go_wp2_with fail
            exact ⟨⟨k + 1, by omega, by go_num, unhide HS2 true (by simp [h1, h2])⟩, by simp [intOf]; omega⟩
          · go_wp2_with fail
            exact ⟨⟨k + 1, by omega, by go_num, unhide HS2 false (by simp [h2])⟩, by simp [intOf]; omega⟩
        · go_wp2_with fail
          exact ⟨⟨k + 1, by omega, by go_num, unhide HS2 false (by simp [h1])⟩, by simp [intOf]; omega⟩
      · have hlt' : ¬ (k : Int) < (sz : Int) := by omega
        have hkn : k = sz := by omega
        subst hkn
        have HO := hide (of_any (some ⟨b, 0, none⟩) k k _ wr (hst.sl hsz) hsz)
        clear hst
        go_wp2_with fail
        refine (unhide HO).mono ?_
        rintro _ w2 ⟨_, rfl, a2, n2, c2, rfl, hs2, hn2, hb2⟩
        have T2 := (unhide HS).res.keep hb2
        have t0 := T2.c0
        have t1 := T2.c1
        have f0 := T2.f0
        have f1 := T2.f1
        have T3 := T2.set (.int .i64 k) (.slice a2 n2 c2)
        have p0 := T3.c0
        have p1 := T3.c1
        have HS2 := hide hs2
        have HB2 := hide hb2
        have HN2 := hide hn2
        clear T2 T3 hb2 hs2 HO hn2
        unfold setV
        go_wp2_with fail
        refine bodyPost_ret (by simp [results, Try.results26, go_sem, p0, p1]; try rfl) rfl ?_
        have hE : rangeR k low high = ((k : Int), wordsL k (fun x => decide (low.toNat ≤ x) && decide ((x : Int) < high) && decide (x < k)), 0) := by simp [rangeR, unhide HF]
        rw [hE]
        refine (unhide HS).done rfl (unhide HS2) (unhide HB2) (unhide HN2) (fun x => ?_)
        rw [Bool.eq_iff_iff]
        simp
        omega
end Go.Proofs.Ytbendkndnojihaa
