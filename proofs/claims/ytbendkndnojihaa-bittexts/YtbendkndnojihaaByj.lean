/-
  bitset.gather: its contract.
-/
import Derived.Test.YtbendkndnojihaaByh
import Derived.Test.YtbendkndnojihaaBt4
namespace Go.Proofs.Ytbendkndnojihaa
open Go.RowKit Go.Deep
set_option linter.unusedVariables false

/-- What a list of numbers comes to: the set, or the place and the error. -/
def gaR (sz : Nat) : List Nu → Int → (Nat → Bool) → Sum (Nat → Bool) (Nat × Int)
  | [], b, P => .inl P
  | e :: l, b, P =>
    if sz ≤ e.1 then .inr (e.2.1, 62)
    else if (if e.2.2 then (e.1 : Int) < b + 1 else (e.1 : Int) ≤ b + 1) then .inr (e.2.1, 1)
    else gaR sz l e.1 (fun x => P x || (decide ((if e.2.2 then b + 1 else (e.1 : Int)) ≤ (x : Int)) && decide (x ≤ e.1)))
/-- A slice of numbers. -/
structure SlN (w : World) (a : Option Addr) (n c : Nat) (l : List Nu) : Prop where
  len : l.length = n
  le : n ≤ c
  cap : c ≤ maxLen
  cells : l = [] ∨ ∃ b off, a = some ⟨b, off, none⟩ ∧ ∀ i, i < n → w.cell? ⟨b, off + i * 3, none⟩ = some (.int .i64 ((l.getD i (0, 0, false)).1 : Int)) ∧ w.cell? ⟨b, off + i * 3 + 1, none⟩ = some (.int .i64 ((l.getD i (0, 0, false)).2.1 : Int)) ∧ w.cell? ⟨b, off + i * 3 + 2, none⟩ = some (.bool (l.getD i (0, 0, false)).2.2)
  small : ∀ e ∈ l, e.1 ≤ 4097 ∧ e.2.1 ≤ 65536
theorem SlN.below {w w' : World} {a : Option Addr} {n c : Nat} {l : List Nu} (h : SlN w a n c l) (hb : Below w.heap.size w w') : SlN w' a n c l :=
  ⟨h.len, h.le, h.cap, h.cells.imp id (fun ⟨b, off, e, k⟩ => ⟨b, off, e, fun i hi => ⟨below_cell hb (k i hi).1, below_cell hb (k i hi).2.1, below_cell hb (k i hi).2.2⟩⟩), h.small⟩
theorem SlN.at {w : World} {a : Option Addr} {n c : Nat} {l : List Nu} (h : SlN w a n c l) (hn : 0 < n) : ∃ b off, a = some ⟨b, off, none⟩ ∧ ∀ i, i < n → w.cell? ⟨b, off + i * 3, none⟩ = some (.int .i64 ((l.getD i (0, 0, false)).1 : Int)) ∧ w.cell? ⟨b, off + i * 3 + 1, none⟩ = some (.int .i64 ((l.getD i (0, 0, false)).2.1 : Int)) ∧ w.cell? ⟨b, off + i * 3 + 2, none⟩ = some (.bool (l.getD i (0, 0, false)).2.2) := by
  rcases h.cells with e | x
  · have := h.len; rw [e] at this; simp at this; omega
  · exact x
/-- What gather answers. -/
def ResG (w w' : World) (sz : Nat) (x : Sum (Nat → Bool) (Nat × Int)) (r : Ending) : Prop :=
  (∃ P, x = .inl P ∧ ∃ a n c, r = .returned (.tuple #[.agg #[.int .i64 (sz : Int), .slice a n c], .int .i64 0, .int .i64 0]) ∧ SlW w' a n c (wordsL sz P) ∧ Below w.heap.size w w' ∧ ∀ ad, a = some ad → w.heap.size ≤ ad.block) ∨
  (∃ at_ er, x = .inr (at_, er) ∧ r = .returned (.tuple #[.agg #[.int .i64 0, .slice none 0 0], .int .i64 (at_ : Int), .int .i64 er]) ∧ Below w.heap.size w w')

theorem RgLp.keep {w wr w' : World} {R Z b cb N sz : Nat} {P : Nat → Bool} (h : RgLp w wr R Z b cb N sz P) (k : Below wr.heap.size wr w') : RgLp w w' R Z b cb N sz P :=
  ⟨h.res.keep k, h.two.keep k, by obtain ⟨f, h1, h2⟩ := h.rep; exact ⟨f, h1.below k, h2⟩, h.bel.trans (k.mono h.bel.size)⟩
theorem put_step (P : Nat → Bool) (x s e : Nat) (h : s ≤ e) : (x == e || (P x || (decide (s ≤ x) && decide (x < e)))) = (P x || (decide (s ≤ x) && decide (x < e + 1))) := by
  cases P x
  · rw [Bool.eq_iff_iff]
    simp
    omega
  · simp
theorem put_end (P : Nat → Bool) (x s e v : Nat) (h : e = v + 1) : (P x || (decide (s ≤ x) && decide (x < e))) = (P x || (decide (s ≤ x) && decide (x ≤ v))) := by
  cases P x
  · rw [Bool.eq_iff_iff]
    simp
    omega
  · simp
theorem drop_cons {l : List Nu} {n i : Nat} (hl : l.length = n) (hi : i < n) : l.drop i = l.getD i (0, 0, false) :: l.drop (i + 1) := by
  subst hl
  rw [List.drop_eq_getElem_cons hi]
  congr 1
  simp [List.getD, hi]
set_option maxHeartbeats 8000000 in
set_option maxRecDepth 100000 in
theorem gather_any (sz : Nat) (a : Option Addr) (n c : Nat) (l : List Nu) (w : World) (h : SlN w a n c l) (hsz : sz ≤ 4096) (hfst : ∀ e l', l = e :: l' → e.2.2 = false) :
    Calls Try.prog 48 #[.int .i64 (sz : Int), .slice a n c] w fun r w' => ResG w w' sz (gaR sz l (-2) (fun _ => false)) r := by
  have hle := h.le
  have hcap := h.cap
  unfold maxLen at hcap
  have HSl := hide h
  obtain ⟨X, hX⟩ : ∃ X, gaR sz l (-2) (fun _ => false) = X := ⟨_, rfl⟩
  have HX := hide hX
  rw [hX]
  have hle64 : nW sz ≤ 64 := by unfold nW; omega
  have HN := hide (show ∀ e, e < sz → e / 64 < nW sz from fun e he => by unfold nW; omega)
  have HF := hide hfst
  clear h hX hfst
  go_enter Try.func48, Try.ntmps48
  go_wp2_with fail
  obtain ⟨wa, hwa⟩ : ∃ wa, w.alloc (.cells #[.int .i64 0, .slice none 0 0] 24) = wa := ⟨_, rfl⟩
  rw [hwa]
  have HR := hide (show Two wa w.heap.size (.int .i64 0) (.slice none 0 0) by rw [← hwa]; exact Two.made _ _ _ _)
  have HB := hide (show Below w.heap.size w wa by rw [← hwa]; exact (Below.refl _ _).alloc (Nat.le_refl _) _)
  clear hwa
  refine (blank_any sz wa hsz).mono ?_
  rintro _ wb ⟨v, rfl, b, cb, rfl, hc1, hc2, hb1, hb2, hfn, hbel⟩
  unfold setV
  have hcb : cb ≤ 9223372036854775807 := by unfold maxLen at hc2; omega
  have hzR := (unhide HR).lt
  have hbR : w.heap.size ≠ b := by omega
  have hbw : w.heap.size ≤ b := by omega
  have hZb : wb.heap.size ≠ b := by omega
  have hwZ : w.heap.size ≤ wb.heap.size := by omega
  have HCB := hide (And.intro hc1 hc2)
  have HT := hide (show RgLp w (wb.alloc (.cells #[.int .i64 sz, .slice (some ⟨b, 0, none⟩) (nW sz) cb] 24)) w.heap.size wb.heap.size b cb (nW sz) sz (fun _ => false) by
    have hal : Below wb.heap.size wb (wb.alloc (.cells #[.int .i64 sz, .slice (some ⟨b, 0, none⟩) (nW sz) cb] 24)) := (Below.refl _ _).alloc (Nat.le_refl _) _
    refine ⟨((unhide HR).keep hbel).keep hal, Two.made _ _ _ _, ⟨_, hfn.below hal, RepB.zero (nW sz)⟩, ?_⟩
    exact ((unhide HB).trans (hbel.mono (unhide HB).size)).trans (hal.mono (by have := (unhide HB).size; have := hbel.size; omega)))
  have hbb : b < wb.heap.size := hb2
  clear hc1 hc2 hb1 hb2 hfn hbel HR HB
  go_wp2_with fail
  generalize wb.alloc (.cells #[.int .i64 sz, .slice (some ⟨b, 0, none⟩) (nW sz) cb] 24) = wc at *
  generalize wb.heap.size = Z at *
  obtain ⟨N, hN⟩ : ∃ N, nW sz = N := ⟨_, rfl⟩
  rw [hN] at HN hle64 HT ⊢
  have HCB2 := hide (show nW sz = N ∧ nW sz ≤ cb ∧ cb ≤ maxLen from ⟨hN, (unhide HCB).1, (unhide HCB).2⟩)
  clear HCB hN
  go_loopw [17, 8, 10, 11, 12] (fun v17 v8 _ _ _ wr => ∃ (i : Nat) (bf : Int) (P : Nat → Bool), v17 = .int .i64 i ∧ v8 = .int .i64 bf ∧ i ≤ n ∧ (i = 0 ∧ bf = -2 ∨ 0 < i ∧ 0 ≤ bf) ∧ bf < 4097 ∧ X = gaR sz (l.drop i) bf P ∧ RgLp w wr w.heap.size Z b cb N sz P) (fun v17 _ _ _ _ _ => n - (intOf v17).toNat)
  case atStart => exact ⟨0, -2, fun _ => false, rfl, rfl, by omega, .inl ⟨rfl, rfl⟩, by omega, by rw [← unhide HX]; simp, unhide HT⟩
  case round =>
    obtain ⟨i, bf, P, rfl, rfl, hin, hbf, hbs, hXq, hst⟩ := hrel
    have t0 := hst.two.c0
    have t1 := hst.two.c1
    have r0 := hst.res.c0
    have r1 := hst.res.c1
    have q0 := hst.res.f0
    have q1 := hst.res.f1
    have HS := hide hst
    have HXq := hide hXq
    have HT0 := HT
    clear hst hXq HX HT
    by_cases hi : i < n
    · obtain ⟨la, lo, ha, hcells⟩ := ((unhide HSl).below (unhide HS).bel).at (show 0 < n by omega)
      subst ha
      have hc := hcells i hi
      have hd := drop_cons (unhide HSl).len hi
      have hm := (unhide HSl).small (l.getD i (0, 0, false)) (by
        have hl := (unhide HSl).len
        rw [List.getD_eq_getElem?_getD, List.getElem?_eq_getElem (by omega)]
        exact List.getElem_mem _)
      have hlast : i = 0 → (l.getD i (0, 0, false)).2.2 = false := fun e => unhide HF _ _ (by subst e; exact hd)
      have HXd := hide (show X = gaR sz (l.getD i (0, 0, false) :: l.drop (i + 1)) bf P by rw [← hd]; exact unhide HXq)
      generalize l.getD i (0, 0, false) = E at *
      obtain ⟨v, at_, lst⟩ := E
      simp only at hc hm hlast
      obtain ⟨m1, m2⟩ := hm
      obtain ⟨e0, e1, e2⟩ := hc
      have HL := hide hlast
      clear hd hlast hcells HXq
      have hsw := (unhide HS).bel.size
      have hRne : wr.heap.size ≠ w.heap.size := by have := (unhide HS).res.lt; omega
      have hZne : wr.heap.size ≠ Z := by have := (unhide HS).two.lt; omega
      have hbne : wr.heap.size ≠ b := by have := (unhide HS).two.lt; omega
      have hb1 : Below wr.heap.size wr (wr.alloc (.cells #[.int .i64 (v : Int), .int .i64 (at_ : Int), .bool lst] 77)) := (Below.refl _ _).alloc (Nat.le_refl _) _
      have HA := hide ((unhide HS).keep hb1)
      have HB := hide (Thr.made wr (.int .i64 (v : Int)) (.int .i64 (at_ : Int)) (.bool lst) 77)
      have T3 := (unhide HA).res.set (.int .i64 0) (.slice none 0 0)
      have p0 := T3.c0
      have p1 := T3.c1
      have HT3 := hide (two_below (unhide HA).bel w.heap.size (Nat.le_refl _) (.int .i64 0) (.slice none 0 0))
      clear hb1 T3
      by_cases hA : sz ≤ v
      · have HE := hide (show X = .inr (at_, 62) by rw [unhide HXd]; unfold gaR; rw [if_pos hA])
        clear HXd
        go_wp2_with fail
        generalize wr.alloc (.cells #[.int .i64 (v : Int), .int .i64 (at_ : Int), .bool lst] 77) = w1 at *
        generalize wr.heap.size = B at *
        have k1 := (unhide HB).c1
        have g0 := (unhide HA).res.c0
        have g1 := (unhide HA).res.c1
        have y0 := (unhide HA).res.f0
        have y1 := (unhide HA).res.f1
        clear t0 t1 r0 r1 q0 q1 e0 e1 e2
        try go_region
        all_goals
          try go_wp2_with fail
          refine bodyPost_ret (by simp [results, Try.results48, go_sem, p0, p1]; try rfl) rfl ?_
          exact .inr ⟨at_, 62, unhide HE, rfl, (unhide HT3).drew⟩
      · have HXe := hide (show X = if (if lst then (v : Int) < bf + 1 else (v : Int) ≤ bf + 1) then .inr (at_, 1) else gaR sz (l.drop (i + 1)) v (fun x => P x || (decide ((if lst then bf + 1 else (v : Int)) ≤ (x : Int)) && decide (x ≤ v))) by rw [unhide HXd]; conv => lhs; unfold gaR; rw [if_neg hA])
        clear HXd
        cases lst
        · by_cases hB : (v : Int) ≤ bf + 1
          · have HE := hide (show X = .inr (at_, 1) by rw [unhide HXe]; simp [hB])
            clear HXe
            go_wp2_with fail
            generalize wr.alloc (.cells #[.int .i64 (v : Int), .int .i64 (at_ : Int), .bool false] 77) = w1 at *
            generalize wr.heap.size = B at *
            have k1 := (unhide HB).c1
            have g0 := (unhide HA).res.c0
            have g1 := (unhide HA).res.c1
            have y0 := (unhide HA).res.f0
            have y1 := (unhide HA).res.f1
            clear t0 t1 r0 r1 q0 q1 e0 e1 e2
            try go_region
            all_goals
              try go_wp2_with fail
              refine bodyPost_ret (by simp [results, Try.results48, go_sem, p0, p1]; try rfl) rfl ?_
              exact .inr ⟨at_, 1, unhide HE, rfl, (unhide HT3).drew⟩
          · have HE := hide (show X = gaR sz (l.drop (i + 1)) v (fun x => P x || (decide (v ≤ x) && decide (x ≤ v))) by rw [unhide HXe]; simp [hB])
            clear HXe p0 p1 HT3
            go_wp2_with fail
            generalize wr.alloc (.cells #[.int .i64 (v : Int), .int .i64 (at_ : Int), .bool false] 77) = w1 at *
            generalize wr.heap.size = B at *
            clear t0 t1 r0 r1 q0 q1 e0 e1 e2 HS
            go_loopw [12] (fun v12 wz => ∃ e : Nat, v12 = .int .i64 e ∧ v ≤ e ∧ e ≤ v + 1 ∧ RgLp w wz w.heap.size Z b cb N sz (fun x => P x || (decide (v ≤ x) && decide (x < e))) ∧ Thr wz B (.int .i64 (v : Int)) (.int .i64 (at_ : Int)) (.bool false)) (fun v12 _ => v + 1 - (intOf v12).toNat)
            case atStart =>
              refine ⟨v, rfl, Nat.le_refl _, by omega, (unhide HA).congr (fun x _ => ?_), unhide HB⟩
              rw [Bool.eq_iff_iff]
              simp
              omega
            case round =>
              obtain ⟨e, rfl, he1, he2, hst, hbx⟩ := hrel
              have t0 := hst.two.c0
              have t1 := hst.two.c1
              have k0 := hbx.c0
              have HS := hide hst
              have HBx := hide hbx
              clear hst hbx HB HA
              by_cases hin : e ≤ v
              · have hin' : (e : Int) ≤ (v : Int) := by omega
                obtain ⟨f, hfn, hrep⟩ := (unhide HS).rep
                have heN := unhide HN e (by omega)
                have HP := hide (put_any sz b N cb f e wr hfn (fun i hi => (hrep i hi).1) heN hle64)
                unfold setV at HP
                have HEE := hide (And.intro heN hrep)
                clear hfn hrep
                go_wp2_with fail
                refine (unhide HP).mono ?_
                rintro _ w2 ⟨rfl, hf2, hc2⟩
                have HS2 := hide (((unhide HS).step (unhide HEE).1 hbR (by omega) hbw (unhide HEE).2 hf2 hc2).congr (Q := fun x => P x || (decide (v ≤ x) && decide (x < e + 1))) (fun x _ => put_step P x v e he1))
                have HB2 := hide ((unhide HBx).chg hc2 (by omega))
                clear hf2 hc2 HP HEE HS HBx t0 t1 k0
                go_wp2_with fail
                exact ⟨⟨e + 1, by go_num, by omega, by omega, unhide HS2, unhide HB2⟩, by simp [intOf]; omega⟩
              · go_wp2_with fail
                refine ⟨⟨i + 1, v, fun x => P x || (decide (v ≤ x) && decide (x ≤ v)), by go_num, rfl, by omega, .inr (by omega), by omega, unhide HE, (unhide HS).congr (fun x _ => put_end P x v e v (by omega))⟩, by simp [intOf]; omega⟩
        · by_cases hB : (v : Int) < bf + 1
          · have HE := hide (show X = .inr (at_, 1) by rw [unhide HXe]; simp [hB])
            clear HXe
            go_wp2_with fail
            generalize wr.alloc (.cells #[.int .i64 (v : Int), .int .i64 (at_ : Int), .bool true] 77) = w1 at *
            generalize wr.heap.size = B at *
            have k1 := (unhide HB).c1
            have g0 := (unhide HA).res.c0
            have g1 := (unhide HA).res.c1
            have y0 := (unhide HA).res.f0
            have y1 := (unhide HA).res.f1
            clear t0 t1 r0 r1 q0 q1 e0 e1 e2
            try go_region
            all_goals
              try go_wp2_with fail
              refine bodyPost_ret (by simp [results, Try.results48, go_sem, p0, p1]; try rfl) rfl ?_
              exact .inr ⟨at_, 1, unhide HE, rfl, (unhide HT3).drew⟩
          · obtain ⟨s0, hs0⟩ : ∃ s0 : Nat, bf + 1 = (s0 : Int) := by
              rcases hbf with ⟨h1, _⟩ | ⟨_, h2⟩
              · exact absurd (unhide HL h1) (by simp)
              · exact ⟨(bf + 1).toNat, by omega⟩
            have HE := hide (show X = gaR sz (l.drop (i + 1)) v (fun x => P x || (decide (s0 ≤ x) && decide (x ≤ v))) by rw [unhide HXe, hs0]; simp only [if_true]; rw [if_neg (by omega)]; simp)
            have HS0 := hide hs0
            have hsv : s0 ≤ v := by omega
            clear HXe p0 p1 HT3 hs0
            go_wp2_with fail
            generalize wr.alloc (.cells #[.int .i64 (v : Int), .int .i64 (at_ : Int), .bool true] 77) = w1 at *
            generalize wr.heap.size = B at *
            clear t0 t1 r0 r1 q0 q1 e0 e1 e2 HS
            go_loopw [12] (fun v12 wz => ∃ e : Nat, v12 = .int .i64 e ∧ s0 ≤ e ∧ e ≤ v + 1 ∧ RgLp w wz w.heap.size Z b cb N sz (fun x => P x || (decide (s0 ≤ x) && decide (x < e))) ∧ Thr wz B (.int .i64 (v : Int)) (.int .i64 (at_ : Int)) (.bool true)) (fun v12 _ => v + 1 - (intOf v12).toNat)
            case atStart =>
              refine ⟨s0, (by rw [← unhide HS0]), Nat.le_refl _, by omega, (unhide HA).congr (fun x _ => ?_), unhide HB⟩
              rw [Bool.eq_iff_iff]
              simp
              omega
            case round =>
              obtain ⟨e, rfl, he1, he2, hst, hbx⟩ := hrel
              have t0 := hst.two.c0
              have t1 := hst.two.c1
              have k0 := hbx.c0
              have HS := hide hst
              have HBx := hide hbx
              clear hst hbx HB HA
              by_cases hin : e ≤ v
              · have hin' : (e : Int) ≤ (v : Int) := by omega
                obtain ⟨f, hfn, hrep⟩ := (unhide HS).rep
                have heN := unhide HN e (by omega)
                have HP := hide (put_any sz b N cb f e wr hfn (fun i hi => (hrep i hi).1) heN hle64)
                unfold setV at HP
                have HEE := hide (And.intro heN hrep)
                clear hfn hrep
                go_wp2_with fail
                refine (unhide HP).mono ?_
                rintro _ w2 ⟨rfl, hf2, hc2⟩
                have HS2 := hide (((unhide HS).step (unhide HEE).1 hbR (by omega) hbw (unhide HEE).2 hf2 hc2).congr (Q := fun x => P x || (decide (s0 ≤ x) && decide (x < e + 1))) (fun x _ => put_step P x s0 e he1))
                have HB2 := hide ((unhide HBx).chg hc2 (by omega))
                clear hf2 hc2 HP HEE HS HBx t0 t1 k0
                go_wp2_with fail
                exact ⟨⟨e + 1, by go_num, by omega, by omega, unhide HS2, unhide HB2⟩, by simp [intOf]; omega⟩
              · go_wp2_with fail
                refine ⟨⟨i + 1, v, fun x => P x || (decide (s0 ≤ x) && decide (x ≤ v)), by go_num, rfl, by omega, .inr (by omega), by omega, unhide HE, (unhide HS).congr (fun x _ => put_end P x s0 e v (by omega))⟩, by simp [intOf]; omega⟩
    · have HT3 := hide (two_below (unhide HS).bel w.heap.size (Nat.le_refl _) (.int .i64 sz) (.slice (some ⟨b, 0, none⟩) N cb))
      have T3 := (unhide HS).res.set (.int .i64 sz) (.slice (some ⟨b, 0, none⟩) N cb)
      have p0 := T3.c0
      have p1 := T3.c1
      clear T3
      go_wp2_with fail
      refine bodyPost_ret (by simp [results, Try.results48, go_sem, p0, p1]; try rfl) rfl ?_
      obtain ⟨f, hfn, hrep⟩ := (unhide HS).rep
      obtain ⟨hcN, hcb1, hcb2⟩ := unhide HCB2
      have hE : X = .inl P := by
        rw [unhide HXq, List.drop_of_length_le (by rw [(unhide HSl).len]; omega)]
        rfl
      subst hcN
      refine .inl ⟨P, hE, _, _, _, rfl, ?_, unhide HT3, fun ad had => by cases had; exact hbw⟩
      have hk : FnW ((wr.setCell ⟨w.heap.size, 0, none⟩ (.int .i64 sz)).setCell ⟨w.heap.size, 1, none⟩ (.slice (some ⟨b, 0, none⟩) (nW sz) cb)) b 0 (nW sz) f := hfn.two _ _ _ hbR
      have := hk.sl (d := 0) hcb1 hcb2
      rwa [show lstG f (nW sz) = wordsL sz P from wordsL_of hrep] at this
end Go.Proofs.Ytbendkndnojihaa
