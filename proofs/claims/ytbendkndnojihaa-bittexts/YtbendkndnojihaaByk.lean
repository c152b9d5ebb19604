/-
  bitset.Parse: its contract.
-/
import Derived.Test.YtbendkndnojihaaByi
import Derived.Test.YtbendkndnojihaaByj
namespace Go.Proofs.Ytbendkndnojihaa
open Go.RowKit Go.Deep
set_option linter.unusedVariables false

theorem rdV_small (s : ByteArray) : ∀ f p v, v ≤ 4097 → (rdV s f p v).1 ≤ 4097
  | 0, p, v, h => h
  | f + 1, p, v, h => by
    unfold rdV
    split
    · exact rdV_small s f _ _ (Nat.min_le_right _ _)
    · exact h
theorem numR_small (s : ByteArray) (p : Nat) : (numR s p).1.1 ≤ 4097 := by
  unfold numR
  split
  · exact Nat.zero_le _
  · exact rdV_small s _ _ _ (Nat.zero_le _)
/-- A list of numbers as numerals makes it. -/
structure NuG (l : List Nu) : Prop where
  small : ∀ e ∈ l, e.1 ≤ 4097 ∧ e.2.1 ≤ 65536
  fst : ∀ h e t, l = h :: e :: t → e.2.2 = false
  ne : l ≠ []
theorem NuG.app1 {l : List Nu} (h : NuG l) {v q : Nat} (hv : v ≤ 4097) (hq : q ≤ 65536) : NuG (l ++ [(v, q, false)]) :=
  ⟨fun e he => by
    rcases List.mem_append.1 he with c | c
    · exact h.small e c
    · rw [List.mem_singleton.1 c]; exact ⟨hv, hq⟩,
   fun a e t he => by
    rcases l with _ | ⟨x, _ | ⟨y, l⟩⟩
    · exact absurd rfl h.ne
    · simp at he; rw [← he.2.1]
    · simp at he; rw [← he.2.1]; exact h.fst x y l rfl,
   by simp⟩
theorem NuG.app2 {l : List Nu} (h : NuG l) {v q v2 q2 : Nat} (hv : v ≤ 4097) (hq : q ≤ 65536) (hv2 : v2 ≤ 4097) (hq2 : q2 ≤ 65536) : NuG (l ++ [(v, q, false), (v2, q2, true)]) :=
  ⟨fun e he => by
    rcases List.mem_append.1 he with c | c
    · exact h.small e c
    · rcases List.mem_cons.1 c with c | c
      · rw [c]; exact ⟨hv, hq⟩
      · rw [List.mem_singleton.1 c]; exact ⟨hv2, hq2⟩,
   fun a e t he => by
    rcases l with _ | ⟨x, _ | ⟨y, l⟩⟩
    · exact absurd rfl h.ne
    · simp at he; rw [← he.2.1]
    · simp at he; rw [← he.2.1]; exact h.fst x y l rfl,
   by simp⟩
theorem skB_lt {s : ByteArray} {p c : Nat} (h : skB s p c = true) : p < s.size := by unfold skB at h; simp at h; exact h.1
theorem nmR_good (s : ByteArray) (hN : s.size ≤ 65536) : ∀ f q l, q ≤ s.size → NuG l → (nmR s f q l).2.1 ≤ 65536 ∧ ((nmR s f q l).2.2 = true → NuG (nmR s f q l).1)
  | 0, q, l, hq, h => ⟨by simp [nmR]; omega, by simp [nmR]⟩
  | f + 1, q, l, hq, h => by
    have a1 := numR_le (s := s) (p := q) hq
    have b1 := numR_small s q
    unfold nmR
    split
    · split
      · rename_i h1 h2
        have l1 := skB_lt h2
        have a2 := numR_le (s := s) (p := (numR s q).1.2 + 1) (by omega)
        have b2 := numR_small s ((numR s q).1.2 + 1)
        split
        · split
          · rename_i h3 h4
            exact nmR_good s hN f _ _ (skB_lt h4) (h.app2 b1 (by omega) b2 (by omega))
          · exact ⟨by show (numR s ((numR s q).1.2 + 1)).1.2 ≤ 65536; omega, fun _ => h.app2 b1 (by omega) b2 (by omega)⟩
        · exact ⟨by show (numR s ((numR s q).1.2 + 1)).1.2 ≤ 65536; omega, by simp⟩
      · split
        · rename_i h1 h2 h3
          exact nmR_good s hN f _ _ (skB_lt h3) (h.app1 b1 (by omega))
        · exact ⟨by show (numR s q).1.2 ≤ 65536; omega, fun _ => h.app1 b1 (by omega)⟩
    · exact ⟨by show (numR s q).1.2 ≤ 65536; omega, by simp⟩
theorem nmsR_good (s : ByteArray) (hN : s.size ≤ 65536) : (nmsR s).2.1 ≤ 65536 ∧ ((nmsR s).2.2 = true → NuG (nmsR s).1) := by
  have a1 := numR_le (s := s) (p := 0) (Nat.zero_le _)
  have b1 := numR_small s 0
  have g : NuG [((numR s 0).1.1, 0, false)] := ⟨fun e he => by rw [List.mem_singleton.1 he]; exact ⟨b1, Nat.zero_le _⟩, fun a e t he => by simp at he, by simp⟩
  unfold nmsR
  split
  · split
    · rename_i h1 h2
      split
      · exact ⟨hN, fun _ => g⟩
      · exact nmR_good s hN _ _ _ (skB_lt h2) g
    · exact ⟨by show (numR s 0).1.2 ≤ 65536; omega, by simp⟩
  · exact ⟨by show (numR s 0).1.2 ≤ 65536; omega, by simp⟩
theorem flatN_get : ∀ (l : List Nu) (i : Nat), i < l.length → (flatN l)[i * 3]? = some (.int .i64 ((l.getD i (0, 0, false)).1 : Int)) ∧ (flatN l)[i * 3 + 1]? = some (.int .i64 ((l.getD i (0, 0, false)).2.1 : Int)) ∧ (flatN l)[i * 3 + 2]? = some (.bool (l.getD i (0, 0, false)).2.2)
  | [], i, h => by simp at h
  | e :: l, 0, h => by simp [flatN]
  | e :: l, i + 1, h => by
    have := flatN_get l i (by simpa using h)
    rw [show (i + 1) * 3 = i * 3 + 1 + 1 + 1 from by omega]
    simpa [flatN] using this
/-- What numerals answers, as a slice. -/
theorem nu_slice {w : World} {B : Nat} {v : Value} {h : Nu} {l : List Nu} (ho : w.ownsRow B 77 3 v (h :: l).length (flatN (h :: l))) (hg : NuG (h :: l)) : ∃ g cap, v = .slice (some ⟨g, 0, none⟩) (l.length + 1) (cap + 1) ∧ cap + 1 ≤ maxLen ∧ l.length ≤ cap ∧ w.cell? ⟨g, 0, none⟩ = some (.int .i64 (h.1 : Int)) ∧ w.cell? ⟨g, 1, none⟩ = some (.int .i64 (h.2.1 : Int)) ∧ w.cell? ⟨g, 2, none⟩ = some (.bool h.2.2) ∧ SlN w (some ⟨g, 3, none⟩) l.length cap l := by
  rcases ho.2 with ⟨e, hk⟩ | ⟨g, cap, cur, e, q1, q2, q3, q4, q5, q6⟩
  · simp at hk
  · have hcell : ∀ j, j < (h :: l).length * 3 → w.cell? ⟨g, j, none⟩ = (flatN (h :: l))[j]? := by
      intro j hj
      rw [cell_of_block q2, ← q6, List.getElem?_take_of_lt hj]
      simp
    simp only [List.length_cons] at q3 hcell e
    obtain ⟨c, rfl⟩ : ∃ c, cap = c + 1 := ⟨cap - 1, by omega⟩
    have f := flatN_get (h :: l) 0 (by simp)
    refine ⟨g, c, e, q4, by omega, ?_, ?_, ?_, ⟨rfl, by omega, by omega, .inr ⟨g, 3, rfl, fun i hi => ?_⟩, fun x hx => hg.small x (List.mem_cons_of_mem _ hx)⟩⟩
    · rw [hcell _ (by omega)]; exact f.1
    · rw [hcell _ (by omega)]; exact f.2.1
    · rw [hcell _ (by omega)]; exact f.2.2
    · have f := flatN_get (h :: l) (i + 1) (by simpa using hi)
      rw [show 3 + i * 3 = (i + 1) * 3 from by omega, hcell _ (by omega), hcell _ (by omega), hcell _ (by omega)]
      simpa using f
/-- What a text comes to. -/
def paR (s : ByteArray) : Sum (Nat × (Nat → Bool)) (Nat × Int) :=
  if 65536 < s.size then .inr (65536, 4)
  else if (nmsR s).2.2 then
    if 4096 < ((nmsR s).1.headD (0, 0, false)).1 then .inr (0, 60)
    else match gaR ((nmsR s).1.headD (0, 0, false)).1 (nmsR s).1.tail (-2) (fun _ => false) with
      | .inl P => .inl (((nmsR s).1.headD (0, 0, false)).1, P)
      | .inr x => .inr x
  else .inr ((nmsR s).2.1, 5)
/-- What Parse answers. -/
def ResP (w w' : World) (x : Sum (Nat × (Nat → Bool)) (Nat × Int)) (r : Ending) : Prop :=
  (∃ sz P, x = .inl (sz, P) ∧ sz ≤ 4096 ∧ ∃ a n c, r = .returned (.tuple #[.agg #[.int .i64 (sz : Int), .slice a n c], .int .i64 0, .int .i64 0]) ∧ SlW w' a n c (wordsL sz P) ∧ Below w.heap.size w w') ∨
  (∃ at_ er, x = .inr (at_, er) ∧ r = .returned (.tuple #[.agg #[.int .i64 0, .slice none 0 0], .int .i64 (at_ : Int), .int .i64 er]) ∧ Below w.heap.size w w')
/-- gather, in one form. -/
theorem gather_one (sz : Nat) (a : Option Addr) (n c : Nat) (l : List Nu) (w : World) (h : SlN w a n c l) (hsz : sz ≤ 4096) (hfst : ∀ e l', l = e :: l' → e.2.2 = false) :
    Calls Try.prog 48 #[.int .i64 (sz : Int), .slice a n c] w fun r w' => ∃ (z : Int) (A : Option Addr) (m k : Nat) (at_ : Int) (er : Int), r = .returned (.tuple #[.agg #[.int .i64 z, .slice A m k], .int .i64 at_, .int .i64 er]) ∧ Below w.heap.size w w' ∧
      ((∃ P, gaR sz l (-2) (fun _ => false) = .inl P ∧ z = sz ∧ at_ = 0 ∧ er = 0 ∧ SlW w' A m k (wordsL sz P) ∧ ∀ ad, A = some ad → w.heap.size ≤ ad.block) ∨ (∃ p : Nat, gaR sz l (-2) (fun _ => false) = .inr (p, er) ∧ z = 0 ∧ A = none ∧ m = 0 ∧ k = 0 ∧ at_ = p)) := by
  refine (gather_any sz a n c l w h hsz hfst).mono ?_
  rintro r w' (⟨P, e, A, m, k, rfl, hs, hb, hn⟩ | ⟨p, er, e, rfl, hb⟩)
  · exact ⟨_, _, _, _, _, _, rfl, hb, .inl ⟨P, e, rfl, rfl, rfl, hs, hn⟩⟩
  · exact ⟨_, _, _, _, _, _, rfl, hb, .inr ⟨p, e, rfl, rfl, rfl, rfl, rfl⟩⟩
theorem res_parse {w w4 w5 : World} {X : Sum (Nat × (Nat → Bool)) (Nat × Int)} {v0 : Nat} {L : List Nu} {z at_ er : Int} {A : Option Addr} {m c : Nat} (hb : Below w.heap.size w w4) (hs : w.heap.size < w4.heap.size)
    (h : Below w4.drew.heap.size w4.drew w5 ∧ ((∃ P, gaR v0 L (-2) (fun _ => false) = .inl P ∧ z = v0 ∧ at_ = 0 ∧ er = 0 ∧ SlW w5 A m c (wordsL v0 P) ∧ ∀ ad, A = some ad → w4.drew.heap.size ≤ ad.block) ∨ (∃ p : Nat, gaR v0 L (-2) (fun _ => false) = .inr (p, er) ∧ z = 0 ∧ A = none ∧ m = 0 ∧ c = 0 ∧ at_ = p)))
    (hX : X = match gaR v0 L (-2) (fun _ => false) with
      | .inl P => .inl (v0, P)
      | .inr x => .inr x) (hv : v0 ≤ 4096) :
    ResP w (((w5.setCell ⟨w.heap.size, 0, none⟩ (.int .i64 z)).setCell ⟨w.heap.size, 1, none⟩ (.slice A m c))) X (.returned (.tuple #[.agg #[.int .i64 z, .slice A m c], .int .i64 at_, .int .i64 er])) := by
  obtain ⟨h5, h⟩ := h
  have hb4 : Below w.heap.size w w5 := hb.drew.trans (h5.mono (Nat.le_of_lt hs))
  have hB := two_below hb4 w.heap.size (Nat.le_refl _) (.int .i64 z) (.slice A m c)
  have hC : Chg (fun j => j = w.heap.size) w5 ((w5.setCell ⟨w.heap.size, 0, none⟩ (.int .i64 z)).setCell ⟨w.heap.size, 1, none⟩ (.slice A m c)) := (Chg.of_set (S := fun j => j = w.heap.size) _ _ _ _ rfl).trans (Chg.of_set (S := fun j => j = w.heap.size) _ _ _ _ rfl)
  rcases h with ⟨P, e, e1, e2, e3, hsl, hn⟩ | ⟨p, e, e1, e2, e3, e4, e5⟩
  · rw [e] at hX
    subst e1 e2 e3
    refine .inl ⟨v0, P, hX, hv, A, m, c, rfl, hsl.chg hC (fun x hx _ hh => ?_), hB⟩
    have h1 : w4.heap.size ≤ x.block := hn x hx
    have h2 : x.block = w.heap.size := hh
    omega
  · rw [e] at hX
    subst e1 e2 e3 e4 e5
    exact .inr ⟨p, er, hX, rfl, hB⟩
theorem two_boxes (w : World) (s : ByteArray) : Two ((w.alloc (.cells #[.int .i64 0, .slice none 0 0] 24)).alloc (.cells #[.string s, .int .i64 0] 72)) (w.heap.size + 1) (.string s) (.int .i64 0) ∧ Two ((w.alloc (.cells #[.int .i64 0, .slice none 0 0] 24)).alloc (.cells #[.string s, .int .i64 0] 72)) w.heap.size (.int .i64 0) (.slice none 0 0) ∧ Below w.heap.size w ((w.alloc (.cells #[.int .i64 0, .slice none 0 0] 24)).alloc (.cells #[.string s, .int .i64 0] 72)) := by
  refine ⟨?_, (Two.made w _ _ _).keep ((Below.refl _ _).alloc (Nat.le_refl _) _), ((Below.refl _ _).alloc (Nat.le_refl _) _).alloc (by simp) _⟩
  have := Two.made (w.alloc (.cells #[.int .i64 0, .slice none 0 0] 24)) (.string s) (.int .i64 0) 72
  rwa [show (w.alloc (.cells #[.int .i64 0, .slice none 0 0] 24)).heap.size = w.heap.size + 1 from by simp] at this
theorem bel_boxes {w w3 : World} {s : ByteArray} (hc : Chg (fun j => j = w.heap.size + 1) ((w.alloc (.cells #[.int .i64 0, .slice none 0 0] 24)).alloc (.cells #[.string s, .int .i64 0] 72)) w3) : Below w.heap.size w w3 :=
  (two_boxes w s).2.2.trans (hc.below (two_boxes w s).2.2.size (fun j hj => by omega))

set_option maxHeartbeats 8000000 in
set_option maxRecDepth 100000 in
theorem parse_any (s : ByteArray) (w : World) (hmax : s.size ≤ 9223372036854775807) :
    Calls Try.prog 18 #[.string s] w fun r w' => ResP w w' (paR s) r := by
  obtain ⟨X, hX⟩ : ∃ X, paR s = X := ⟨_, rfl⟩
  have HX := hide hX
  rw [hX]
  clear hX
  by_cases hN : 65536 < s.size
  · have hE : X = .inr (65536, 4) := by rw [← unhide HX]; unfold paR; rw [if_pos hN]
    subst hE
    clear HX
    go_enter Try.func18, Try.ntmps18
    go_wp2_with fail
    refine bodyPost_ret (by simp [results, Try.results18, go_sem]; try rfl) rfl ?_
    exact .inr ⟨65536, 4, rfl, rfl, (Below.refl _ _).alloc (Nat.le_refl _) _⟩
  · have hN' : s.size ≤ 65536 := by omega
    have HG := hide (nmsR_good s hN')
    have HK := hide (fun (R : Nat) (w : World) (h : Two w R (.string s) (.int .i64 0)) => numerals_any R s w h hN')
    have HX2 := hide (show X = if (nmsR s).2.2 then
      if 4096 < ((nmsR s).1.headD (0, 0, false)).1 then .inr (0, 60)
      else match gaR ((nmsR s).1.headD (0, 0, false)).1 (nmsR s).1.tail (-2) (fun _ => false) with
        | .inl P => .inl (((nmsR s).1.headD (0, 0, false)).1, P)
        | .inr x => .inr x
      else .inr ((nmsR s).2.1, 5) by rw [← unhide HX]; unfold paR; rw [if_neg hN])
    clear HX
    generalize nmsR s = nm at *
    obtain ⟨L, q, ok⟩ := nm
    simp only at HG HX2
    cases ok
    · have hE : X = .inr (q, 5) := by rw [unhide HX2]; rfl
      subst hE
      have hq := (unhide HG).1
      clear HX2 HG
      go_enter Try.func18, Try.ntmps18
      go_wp2_with fail
      refine (unhide HK _ _ (two_boxes w s).1).mono ?_
      rintro _ w3 ⟨v, rfl, ht3, hc3, hown⟩
      have hs3 := hc3.size
      have hR3 := (two_boxes w s).2.1.chg hc3 (by omega)
      have HB3 := hide (bel_boxes hc3)
      have k0 := ht3.c0
      have k1 := ht3.c1
      have g0 := hR3.c0
      have g1 := hR3.c1
      have y0 := hR3.f0
      have y1 := hR3.f1
      have T3 := hR3.set (.int .i64 0) (.slice none 0 0)
      have p0 := T3.c0
      have p1 := T3.c1
      have HT3 := hide (two_below (unhide HB3) w.heap.size (Nat.le_refl _) (.int .i64 0) (.slice none 0 0))
      clear ht3 hc3 hown hR3 T3 HK
      go_wp2_with fail
      try go_region
      all_goals
        try go_wp2_with fail
        refine bodyPost_ret (by simp [results, Try.results18, go_sem, p0, p1]; try rfl) rfl ?_
        exact .inr ⟨q, 5, rfl, rfl, (unhide HT3).drew⟩
    · have hg := (unhide HG).2 rfl
      rcases L with _ | ⟨h, L⟩
      · exact absurd rfl hg.ne
      obtain ⟨v0, a0, b0⟩ := h
      have hm := (hg.small _ (List.mem_cons_self ..)).1
      have HF := hide (fun e l' (h : L = e :: l') => hg.fst (v0, a0, b0) e l' (by rw [h]))
      have HGd := hide hg
      have HX3 := hide (show X = if 4096 < v0 then .inr (0, 60) else match gaR v0 L (-2) (fun _ => false) with
        | .inl P => .inl (v0, P)
        | .inr x => .inr x from unhide HX2)
      clear HX2
      simp only at hm
      clear hg HG
      go_enter Try.func18, Try.ntmps18
      go_wp2_with fail
      refine (unhide HK _ _ (two_boxes w s).1).mono ?_
      rintro _ w3 ⟨v, rfl, ht3, hc3, hown⟩
      obtain ⟨g, cap, rfl, hcap, hlc, e0, e1, e2, hsl⟩ := nu_slice hown (unhide HGd)
      have hs3 := hc3.size
      have hR3 := (two_boxes w s).2.1.chg hc3 (by omega)
      have HB3 := hide (bel_boxes hc3)
      have HR3 := hide hR3
      have HSl := hide hsl
      have hcap' : cap + 1 ≤ 9223372036854775807 := by unfold maxLen at hcap; omega
      have KF := fits_any (v0 : Int)
      clear ht3 hc3 hown hR3 HK hcap hsl
      by_cases hv : 4096 < v0
      · have HE := hide (show X = .inr (0, 60) by rw [unhide HX3, if_pos hv])
        rw [show fitsI (v0 : Int) = false from by simp [fitsI]; omega] at KF
        have HKF := hide KF
        clear KF
        go_wp2_with fail
        refine (unhide HKF _).mono ?_
        rintro _ w4 ⟨rfl, rfl⟩
        have g0 := (unhide HR3).c0
        have g1 := (unhide HR3).c1
        have y0 := (unhide HR3).f0
        have y1 := (unhide HR3).f1
        have T3 := (unhide HR3).set (.int .i64 0) (.slice none 0 0)
        have p0 := T3.c0
        have p1 := T3.c1
        have HT3 := hide (two_below (unhide HB3) w.heap.size (Nat.le_refl _) (.int .i64 0) (.slice none 0 0))
        clear T3
        go_wp2_with fail
        try go_region
        all_goals
          try go_wp2_with fail
          refine bodyPost_ret (by simp [results, Try.results18, go_sem, p0, p1]; try rfl) rfl ?_
          exact .inr ⟨0, 60, unhide HE, rfl, by first | exact unhide HT3 | exact (unhide HT3).drew⟩
      · have hv' : v0 ≤ 4096 := by omega
        have HX4 := hide (show X = match gaR v0 L (-2) (fun _ => false) with
          | .inl P => .inl (v0, P)
          | .inr x => .inr x by rw [unhide HX3, if_neg hv])
        rw [show fitsI (v0 : Int) = true from by simp [fitsI]; omega] at KF
        have HKF := hide KF
        clear KF HX3
        go_wp2_with fail
        refine (unhide HKF _).mono ?_
        rintro _ w4 ⟨rfl, rfl⟩
        clear HKF
        have hs4 : w.heap.size < w4.heap.size := (unhide HR3).lt
        have hdr : Below w4.heap.size w4 w4.drew := (Below.refl _ _).drew
        by_cases hc0 : cap = 0
        · subst hc0
          obtain rfl : L = [] := List.length_eq_zero_iff.1 (by omega)
          have HKG := hide (gather_one v0 (some ⟨g, 0, none⟩) 0 0 [] w4.drew ⟨rfl, Nat.le_refl _, Nat.zero_le _, .inl rfl, fun e he => by cases he⟩ hv' (unhide HF))
          go_wp2_with fail
          go_region_with (
            go_at_call 48
            refine (unhide HKG).mono ?_
            rintro _ w5 ⟨z, A, m, c, at_, er, rfl, hbe, hres⟩
            have hR5 := (unhide HR3).keep (hdr.trans (show Below w4.heap.size w4.drew w5 from hbe))
            have g0 := hR5.c0
            have g1 := hR5.c1
            have y0 := hR5.f0
            have y1 := hR5.f1
            have HR5 := hide hR5
            have HE5 := hide (And.intro hbe hres)
            clear hR5 hbe hres)
          all_goals
            try go_wp2_with fail
            have T3 := (unhide HR5).set (.int .i64 z) (.slice A m c)
            have p0 := T3.c0
            have p1 := T3.c1
            refine bodyPost_ret (by simp [results, Try.results18, go_sem, p0, p1]; try rfl) rfl ?_
            exact res_parse (unhide HB3) hs4 (unhide HE5) (unhide HX4) hv'
        · have HKG := hide (gather_one v0 (some ⟨g, 3, none⟩) L.length cap L w4.drew ((unhide HSl).below hdr) hv' (unhide HF))
          go_wp2_with fail
          go_region_with (
            go_at_call 48
            refine (unhide HKG).mono ?_
            rintro _ w5 ⟨z, A, m, c, at_, er, rfl, hbe, hres⟩
            have hR5 := (unhide HR3).keep (hdr.trans (show Below w4.heap.size w4.drew w5 from hbe))
            have g0 := hR5.c0
            have g1 := hR5.c1
            have y0 := hR5.f0
            have y1 := hR5.f1
            have HR5 := hide hR5
            have HE5 := hide (And.intro hbe hres)
            clear hR5 hbe hres)
          all_goals
            try go_wp2_with fail
            have T3 := (unhide HR5).set (.int .i64 z) (.slice A m c)
            have p0 := T3.c0
            have p1 := T3.c1
            refine bodyPost_ret (by simp [results, Try.results18, go_sem, p0, p1]; try rfl) rfl ?_
            exact res_parse (unhide HB3) hs4 (unhide HE5) (unhide HX4) hv'
end Go.Proofs.Ytbendkndnojihaa
