/-
  sloperef3.Parse: its contract.
-/
import Derived.Test.YtbendkndnojihaaByv
import Derived.Test.YtbendkndnojihaaBt6
import Derived.Test.YtbendkndnojihaaBv1
namespace Go.Proofs.Ytbendkndnojihaa
open Go.RowKit Go.Deep
set_option linter.unusedVariables false

theorem flatR_get : ∀ (l : List Nr) (i : Nat), i < l.length → (flatR l)[i * 3]? = some (.int .i64 ((l.getD i (0, 0, 0)).1 : Int)) ∧ (flatR l)[i * 3 + 1]? = some (.int .i64 ((l.getD i (0, 0, 0)).2.1 : Int)) ∧ (flatR l)[i * 3 + 2]? = some (.int .u8 ((l.getD i (0, 0, 0)).2.2 : Int))
  | [], i, h => by simp at h
  | e :: l, 0, h => by simp [flatR]
  | e :: l, i + 1, h => by
    have := flatR_get l i (by simpa using h)
    rw [show (i + 1) * 3 = i * 3 + 1 + 1 + 1 from by omega]
    simpa [flatR] using this
/-- The cells of a row of numbers. -/
def NrC (w : World) (g : Nat) (l : List Nr) : Prop := ∀ i, i < l.length → w.cell? ⟨g, i * 3, none⟩ = some (.int .i64 ((l.getD i (0, 0, 0)).1 : Int)) ∧ w.cell? ⟨g, i * 3 + 1, none⟩ = some (.int .i64 ((l.getD i (0, 0, 0)).2.1 : Int)) ∧ w.cell? ⟨g, i * 3 + 2, none⟩ = some (.int .u8 ((l.getD i (0, 0, 0)).2.2 : Int))
theorem NrC.below {w w' : World} {g : Nat} {l : List Nr} (h : NrC w g l) (hb : Below w.heap.size w w') : NrC w' g l := fun i hi => ⟨below_cell hb (h i hi).1, below_cell hb (h i hi).2.1, below_cell hb (h i hi).2.2⟩
theorem nr_cells {w : World} {B : Nat} {v : Value} {l : List Nr} (ho : w.ownsRow B 84 3 v l.length (flatR l)) (hne : 0 < l.length) : ∃ g cap, v = .slice (some ⟨g, 0, none⟩) l.length cap ∧ l.length ≤ cap ∧ cap ≤ maxLen ∧ NrC w g l := by
  rcases ho.2 with ⟨e, hk⟩ | ⟨g, cap, cur, e, q1, q2, q3, q4, q5, q6⟩
  · omega
  · have hcell : ∀ j, j < l.length * 3 → w.cell? ⟨g, j, none⟩ = (flatR l)[j]? := by
      intro j hj
      rw [cell_of_block q2, ← q6, List.getElem?_take_of_lt hj]
      simp
    refine ⟨g, cap, e, q3, q4, fun i hi => ?_⟩
    have f := flatR_get l i hi
    rw [hcell _ (by omega), hcell _ (by omega), hcell _ (by omega)]
    exact f
theorem dropR_cons {l : List Nr} {i : Nat} (hi : i < l.length) : l.drop i = l.getD i (0, 0, 0) :: l.drop (i + 1) := by
  rw [List.drop_eq_getElem_cons hi]
  congr 1
  simp [List.getD, hi]
theorem nxV_le {g v d : Nat} (hv : v ≤ 999999) (hd : d ≤ 9) : nxV g v d ≤ 999999 := by
  unfold nxV
  split <;> split <;> omega
def smR (s : ByteArray) (e : Nr) : Prop := e.1 ≤ 999999 ∧ e.2.1 ≤ s.size ∧ e.2.2 < 256
theorem fmR_small (s : ByteArray) : ∀ f i l v a t g, (∀ e ∈ l, smR s e) → v ≤ 999999 → a ≤ s.size → i + f ≤ s.size → ∀ e ∈ (fmR s f i l v a t g).1, smR s e
  | 0, i, l, v, a, t, g, hl, hv, ha, hi => by
    unfold fmR
    split
    · exact hl
    · split
      · intro e he
        rcases List.mem_append.1 he with h | h
        · exact hl e h
        · rw [List.mem_singleton.1 h]; exact ⟨hv, ha, by show 0 < 256; omega⟩
      · exact hl
  | f + 1, i, l, v, a, t, g, hl, hv, ha, hi => by
    unfold fmR
    by_cases hd : dgB s i a g = true
    · rw [if_pos hd]
      have h1 : isDg (bySt s i) = true := by unfold dgB at hd; simp at hd; exact hd.1
      have h2 : 48 ≤ bySt s i ∧ bySt s i ≤ 57 := by simpa [isDg] using h1
      exact fmR_small s f _ _ _ _ _ _ hl (nxV_le hv (by omega)) (by split <;> omega) (by omega)
    · rw [if_neg hd]
      split
      · exact hl
      · refine fmR_small s f _ _ _ _ _ _ (fun e he => ?_) hv ha (by omega)
        rcases List.mem_append.1 he with h | h
        · exact hl e h
        · rw [List.mem_singleton.1 h]; exact ⟨hv, ha, bySt_lt s i⟩
def rpS (sz : Nat) (x : Sum (Nat → Bool) (Nat × Int)) : Sum (Nat × (Nat → Bool)) (Nat × Int) := match x with | .inl P => .inl (sz, P) | .inr y => .inr y
theorem ga_big {sz v a c : Nat} {fl : Bool} {l : List Nr} {b : Int} {P : Nat → Bool} (hs : sz ≤ 4096) (h : sz ≤ v) : gaR sz (toNu fl ((v, a, c) :: l)) b P = .inr (a, 62) := by
  show (if sz ≤ min v 4097 then _ else _) = _
  rw [if_pos (by omega)]
theorem ga_back {sz v a c y : Nat} {l : List Nr} {P : Nat → Bool} (hs : sz ≤ 4096) (h : v < sz) (hy : v ≤ y) : gaR sz (toNu true ((v, a, c) :: l)) (y : Int) P = .inr (a, 1) := by
  show (if sz ≤ min v 4097 then _ else if (if true = true then ((min v 4097 : Nat) : Int) < (y : Int) + 1 else _) then _ else _) = _
  rw [if_neg (by omega), if_pos (by show ((min v 4097 : Nat) : Int) < (y : Int) + 1; omega)]
theorem ga_run {sz v a c y : Nat} {l : List Nr} {P : Nat → Bool} (hs : sz ≤ 4096) (h : v < sz) (hy : y < v) (hP : P y = true) : gaR sz (toNu true ((v, a, c) :: l)) (y : Int) P = gaR sz (toNu (c == 45) l) (v : Int) (fun x => P x || (decide (y ≤ x) && decide (x ≤ v))) := by
  show (if sz ≤ min v 4097 then _ else if (if true = true then ((min v 4097 : Nat) : Int) < (y : Int) + 1 else _) then _ else gaR sz (toNu (c == 45) l) ((min v 4097 : Nat) : Int) (fun x => P x || (decide ((if true = true then (y : Int) + 1 else ((min v 4097 : Nat) : Int)) ≤ (x : Int)) && decide (x ≤ min v 4097)))) = _
  rw [if_neg (by omega), if_neg (by show ¬ ((min v 4097 : Nat) : Int) < (y : Int) + 1; omega), show min v 4097 = v from by omega]
  congr 1
  funext x
  by_cases hx : x = y
  · subst hx; simp [hP]
  · rw [if_pos rfl, show decide ((y : Int) + 1 ≤ (x : Int)) = decide (y ≤ x) from by rw [Bool.eq_iff_iff]; simp; omega]
theorem ga_near {sz v a c : Nat} {b : Int} {l : List Nr} {P : Nat → Bool} (hs : sz ≤ 4096) (h : v < sz) (hy : (v : Int) ≤ b + 1) : gaR sz (toNu false ((v, a, c) :: l)) b P = .inr (a, 1) := by
  show (if sz ≤ min v 4097 then _ else if (if false = true then _ else ((min v 4097 : Nat) : Int) ≤ b + 1) then _ else _) = _
  rw [if_neg (by omega), if_pos (by show ((min v 4097 : Nat) : Int) ≤ b + 1; omega)]
theorem ga_one {sz v a c : Nat} {b : Int} {l : List Nr} {P : Nat → Bool} (hs : sz ≤ 4096) (h : v < sz) (hy : b + 1 < (v : Int)) : gaR sz (toNu false ((v, a, c) :: l)) b P = gaR sz (toNu (c == 45) l) (v : Int) (fun x => P x || (x == v)) := by
  show (if sz ≤ min v 4097 then _ else if (if false = true then _ else ((min v 4097 : Nat) : Int) ≤ b + 1) then _ else gaR sz (toNu (c == 45) l) ((min v 4097 : Nat) : Int) (fun x => P x || (decide ((if false = true then _ else ((min v 4097 : Nat) : Int)) ≤ (x : Int)) && decide (x ≤ min v 4097)))) = _
  rw [if_neg (by omega), if_neg (by show ¬ ((min v 4097 : Nat) : Int) ≤ b + 1; omega), show min v 4097 = v from by omega]
  congr 1
  funext x
  rw [if_neg (by decide), show (x == v) = (decide ((v : Int) ≤ (x : Int)) && decide (x ≤ v)) from by rw [Bool.eq_iff_iff]; simp; omega]
/-- What Of makes of a row of yes and no. -/
theorem of_yn {n b : Nat} {g : Nat → Bool} {W w' : World} (h : FnB W b 0 n g) (hb : Below W.heap.size W w') (hn : n ≤ 4096) (hg : ∀ x, n ≤ x → g x = false) :
    Calls Try.prog 52 #[.slice (some ⟨b, 0, none⟩) n n] w' fun e w5 => ∃ a n' c, e = .returned (.agg #[.int .i64 (n : Int), .slice a n' c]) ∧ SlW w5 a n' c (wordsL n g) ∧ (∀ x, a = some x → W.heap.size ≤ x.block) ∧ Below w'.heap.size w' w5 := by
  refine (of_any (some ⟨b, 0, none⟩) n n (lstG g n) w' ((h.below hb).sl (Nat.le_refl _) (by unfold maxLen; omega)) hn).mono ?_
  rintro _ w5 ⟨v, rfl, a, n', c, rfl, hs, hf, hb5⟩
  have e : bitsL (lstG g n) = wordsL n g := by
    rw [bits_fn]
    refine wordsL_congr (fun x _ => ?_)
    by_cases c : x < n
    · simp [c]
    · rw [hg x (by omega)]; simp
  rw [e] at hs
  exact ⟨a, n', c, rfl, hs, fun x hx => Nat.le_trans hb.size (hf x hx), hb5⟩
theorem pk_step (P : Nat → Bool) {y k : Nat} (h : y ≤ k) (x : Nat) : (P x || (decide (y ≤ x) && decide (x < k + 1))) = if x = k then true else (P x || (decide (y ≤ x) && decide (x < k))) := by
  by_cases hx : x = k
  · subst hx; simp [h]
  · rw [if_neg hx, show decide (x < k + 1) = decide (x < k) from by rw [Bool.eq_iff_iff]; simp; omega]
theorem pk_end (P : Nat → Bool) {y k : Nat} (h : y ≤ k) (x : Nat) : (P x || (decide (y ≤ x) && decide (x ≤ k))) = if x = k then true else (P x || (decide (y ≤ x) && decide (x < k))) := by
  rw [← pk_step P h x, show decide (x ≤ k) = decide (x < k + 1) from by rw [Bool.eq_iff_iff]; simp; omega]
/-- What Parse's loop carries along. -/
structure PaI (w wr : World) (b sz : Nat) (P : Nat → Bool) : Prop where
  row : FnB wr b 0 sz P
  zero : ∀ x, sz ≤ x → P x = false
  bel : Below w.heap.size w wr
  ge : w.heap.size ≤ b
  lt : b < wr.heap.size
theorem PaI.below {w wr w2 : World} {b sz : Nat} {P : Nat → Bool} (h : PaI w wr b sz P) (hb : Below wr.heap.size wr w2) : PaI w w2 b sz P :=
  ⟨h.row.below hb, h.zero, h.bel.trans (hb.mono h.bel.size), h.ge, Nat.lt_of_lt_of_le h.lt hb.size⟩
theorem PaI.put {w wr : World} {b sz : Nat} {P : Nat → Bool} (h : PaI w wr b sz P) (k : Nat) (hk : k < sz) {Q : Nat → Bool} (hQ : ∀ x, Q x = if x = k then true else P x) : PaI w (wr.setCell ⟨b, k, none⟩ (.bool true)) b sz Q := by
  have hr := h.row.set k true hk
  rw [Nat.zero_add] at hr
  exact ⟨hr.congr (fun x _ => (hQ x).symm), fun x hx => by rw [hQ, if_neg (by omega)]; exact h.zero x hx, h.bel.setCell (p := ⟨b, k, none⟩) h.ge _, h.ge, by simpa using h.lt⟩

set_option maxHeartbeats 8000000 in
set_option maxRecDepth 1000000 in
theorem rparse_any (s : ByteArray) (w : World) (hmax : s.size ≤ 9223372036854775807) :
    Calls Try.prog 19 #[.string s] w fun r w' => ResP w w' (paR s) r := by
  obtain ⟨X, hX⟩ : ∃ X, paR s = X := ⟨_, rfl⟩
  have HX := hide hX
  rw [hX]
  clear hX
  obtain ⟨wa, hwa⟩ : ∃ x, w.alloc (.cells #[.int .i64 0, .slice none 0 0] 24) = x := ⟨_, rfl⟩
  have ba : Below w.heap.size w wa := by rw [← hwa]; exact (Below.refl _ _).alloc (Nat.le_refl _) _
  have la : w.heap.size < wa.heap.size := by rw [← hwa]; simp
  have R0 : Two wa w.heap.size (.int .i64 0) (.slice none 0 0) := by rw [← hwa]; exact Two.made _ _ _ _
  have HA := hide (And.intro R0 ba)
  clear R0 ba
  by_cases hN : 65536 < s.size
  · have hE : X = .inr (65536, 4) := by rw [← unhide HX]; unfold paR; rw [if_pos hN]
    subst hE
    have hN' : (65536 : Int) < (s.size : Int) := by omega
    clear HX
    go_enter Try.func19, Try.ntmps19
    go_wp2_with fail
    refine (none_any _).mono ?_
    rintro _ wN ⟨rfl, hbN⟩
    have RN := (unhide HA).1.keep hbN
    have BN := (unhide HA).2.trans (hbN.mono (unhide HA).2.size)
    have r0 := RN.c0
    have r1 := RN.c1
    have f0 := RN.f0
    have f1 := RN.f1
    have TN := RN.set (.int .i64 0) (.slice none 0 0)
    have p0 := TN.c0
    have p1 := TN.c1
    have HBN := hide (two_below BN w.heap.size (Nat.le_refl _) (.int .i64 0) (.slice none 0 0))
    clear RN BN TN hbN
    go_wp2_with fail
    refine bodyPost_ret (by simp [results, Try.results19, go_sem, p0, p1]; try rfl) rfl ?_
    exact .inr ⟨_, _, rfl, rfl, unhide HBN⟩
  · have hN' : ¬ (65536 : Int) < (s.size : Int) := by omega
    have hN2 : s.size ≤ 65536 := by omega
    have K := form_any s wa hN2
    have SF := fm_same s
    have FS := fmR_small s s.size 0 [] 0 0 0 0 (fun e he => by cases he) (by omega) (by omega) (by omega)
    obtain ⟨fm, hfm⟩ : ∃ x, fmR s s.size 0 [] 0 0 0 0 = x := ⟨_, rfl⟩
    rw [hfm] at K SF FS
    obtain ⟨L, bad⟩ := fm
    have NG := nmsR_good s hN2
    have HX2 := hide (show X = if (nmsR s).2.2 then (if 4096 < ((nmsR s).1.headD (0, 0, false)).1 then .inr (0, 60) else rpS ((nmsR s).1.headD (0, 0, false)).1 (gaR ((nmsR s).1.headD (0, 0, false)).1 (nmsR s).1.tail (-2) (fun _ => false))) else .inr ((nmsR s).2.1, 5) by
      rw [← unhide HX]
      unfold paR
      rw [if_neg hN]
      split
      · split
        · rfl
        · unfold rpS
          split <;> simp_all
      · rfl)
    obtain ⟨nm, hnm⟩ : ∃ x, nmsR s = x := ⟨_, rfl⟩
    rw [hnm] at SF NG HX2
    obtain ⟨l0, q0, ok⟩ := nm
    simp only at K FS SF NG HX2
    have HFS := hide FS
    have HK := hide K
    clear K FS hfm hnm HX
    cases ok
    · have hb : bad = (q0 : Int) := SF.2 rfl
      subst hb
      have hE : X = .inr (q0, 5) := by rw [unhide HX2]; rfl
      subst hE
      have hq9 : (q0 : Int) ≤ 65536 := by have := NG.1; omega
      have hq8 : (0 : Int) ≤ (q0 : Int) := by omega
      clear SF NG HX2 HFS
      go_enter Try.func19, Try.ntmps19
      go_wp2_with fail
      refine (unhide HK).mono ?_
      rintro _ wb ⟨v, rfl, hown, hbb⟩
      have HA2 := hide (And.intro ((unhide HA).1.keep hbb) ((unhide HA).2.trans (hbb.mono (unhide HA).2.size)))
      clear hown hbb HK
      go_wp2_with fail
      refine (none_any _).mono ?_
      rintro _ wN ⟨rfl, hbN⟩
      have RN := (unhide HA2).1.keep hbN
      have BN := (unhide HA2).2.trans (hbN.mono (unhide HA2).2.size)
      have r0 := RN.c0
      have r1 := RN.c1
      have f0 := RN.f0
      have f1 := RN.f1
      have TN := RN.set (.int .i64 0) (.slice none 0 0)
      have p0 := TN.c0
      have p1 := TN.c1
      have HBN := hide (two_below BN w.heap.size (Nat.le_refl _) (.int .i64 0) (.slice none 0 0))
      clear RN BN TN hbN
      go_wp2_with fail
      refine bodyPost_ret (by simp [results, Try.results19, go_sem, p0, p1]; try rfl) rfl ?_
      exact .inr ⟨_, _, rfl, rfl, unhide HBN⟩
    · obtain ⟨hb, hto⟩ := SF.1 rfl
      have hb2 : bad = -1 := hb
      subst hb2
      have NG2 := NG.2 rfl
      have hto2 : toNu false L = l0 := hto
      subst hto2
      have hLn : 0 < L.length := by
        rcases L with _ | ⟨e, L'⟩
        · exact absurd rfl NG2.ne
        · simp
      obtain ⟨n, hn⟩ : ∃ n, L.length = n := ⟨_, rfl⟩
      obtain ⟨E0, hE0⟩ : ∃ E, L.getD 0 (0, 0, 0) = E := ⟨_, rfl⟩
      obtain ⟨V0, A0, B0⟩ := E0
      have hd0 : L = (V0, A0, B0) :: L.drop 1 := by
        have := dropR_cons hLn
        rw [hE0] at this
        simpa using this
      have hfst : L.drop 1 ≠ [] → (B0 == 45) = false := by
        intro hne
        obtain ⟨⟨v1, a1, c1⟩, L1, hL1⟩ : ∃ e l, L.drop 1 = e :: l := by
          cases h : L.drop 1 with
          | nil => exact absurd h hne
          | cons e l => exact ⟨e, l, rfl⟩
        exact NG2.fst (min V0 4097, A0, false) (min v1 4097, a1, B0 == 45) (toNu (c1 == 45) L1) (by rw [hd0, hL1]; rfl)
      have HX3 := hide (show X = if 4096 < V0 then .inr (0, 60) else rpS V0 (gaR V0 (toNu (B0 == 45) (L.drop 1)) (-2) (fun _ => false)) by
        rw [unhide HX2, if_pos rfl]
        have e1 : toNu false L = (min V0 4097, A0, false) :: toNu (B0 == 45) (L.drop 1) := by rw [hd0]; rfl
        rw [e1]
        show (if 4096 < min V0 4097 then _ else rpS (min V0 4097) (gaR (min V0 4097) (toNu (B0 == 45) (L.drop 1)) (-2) (fun _ => false))) = _
        by_cases hV : 4096 < V0
        · rw [if_pos hV, if_pos (by omega)]
        · rw [if_neg hV, if_neg (by omega), show min V0 4097 = V0 from by omega])
      have hS0 := unhide HFS (L.getD 0 (0, 0, 0)) (by
        rw [List.getD_eq_getElem?_getD, List.getElem?_eq_getElem hLn]
        exact List.getElem_mem _)
      rw [hE0] at hS0
      have hV9 : V0 ≤ 999999 := hS0.1
      have HFst := hide hfst
      have HD0 := hide hd0
      have HE0 := hide hE0
      have HNn := hide hn
      clear SF NG NG2 hb hto HX2 hfst hd0 hS0
      go_enter Try.func19, Try.ntmps19
      go_wp2_with fail
      refine (unhide HK).mono ?_
      rintro _ wb ⟨v, rfl, hown, hbb⟩
      obtain ⟨g, cap, hv, hc1, hc2, hcl⟩ := nr_cells hown hLn
      subst hv
      rw [hn] at hc1 hLn ⊢
      unfold maxLen at hc2
      have HA2 := hide (And.intro ((unhide HA).1.keep hbb) ((unhide HA).2.trans (hbb.mono (unhide HA).2.size)))
      have h0 := hcl 0 (by rw [hn]; exact hLn)
      rw [hE0, Nat.zero_mul] at h0
      obtain ⟨g0, g1, g2⟩ := h0
      simp only at g0 g1 g2
      have HCl := hide hcl
      clear hown hbb HK hE0 hn hcl
      by_cases hV : 4096 < V0
      · have hE : X = .inr (0, 60) := by rw [unhide HX3, if_pos hV]
        subst hE
        have KS := sized_any (V0 : Int) wb
        rw [show fitsI (V0 : Int) = false by simp [fitsI]; omega] at KS
        have HKS := hide KS
        clear KS HX3 hV
        go_wp2_with fail
        refine (unhide HKS).mono ?_
        rintro _ wc ⟨rfl, hwc⟩
        obtain rfl := hwc.symm
        clear g0 g1 g2
        go_wp2_with fail
        refine (none_any _).mono ?_
        rintro _ wN ⟨rfl, hbN⟩
        have RN := (unhide HA2).1.keep hbN
        have BN := (unhide HA2).2.trans (hbN.mono (unhide HA2).2.size)
        have r0 := RN.c0
        have r1 := RN.c1
        have f0 := RN.f0
        have f1 := RN.f1
        have TN := RN.set (.int .i64 0) (.slice none 0 0)
        have p0 := TN.c0
        have p1 := TN.c1
        have HBN := hide (two_below BN w.heap.size (Nat.le_refl _) (.int .i64 0) (.slice none 0 0))
        clear RN BN TN hbN
        go_wp2_with fail
        refine bodyPost_ret (by simp [results, Try.results19, go_sem, p0, p1]; try rfl) rfl ?_
        exact .inr ⟨_, _, rfl, rfl, unhide HBN⟩
      · have HX4 := hide (show X = rpS V0 (gaR V0 (toNu (B0 == 45) (L.drop 1)) (-2) (fun _ => false)) by rw [unhide HX3, if_neg hV])
        have hV4 : V0 ≤ 4096 := by omega
        have KS := sized_any (V0 : Int) wb
        rw [show fitsI (V0 : Int) = true by simp [fitsI]; omega] at KS
        have HKS := hide KS
        clear KS HX3 hV hV9
        go_wp2_with fail
        refine (unhide HKS).mono ?_
        rintro _ wc ⟨rfl, hwc⟩
        obtain rfl := hwc.symm
        clear g0 g1 g2 HKS
        have hm := make_bools V0 (by omega)
        have hal : Below wb.heap.size wb (wb.alloc (.cells (madeCells #[.bool false] V0) 4)) := (Below.refl _ _).alloc (Nat.le_refl _) _
        have HP0 := hide (show PaI wb (wb.alloc (.cells (madeCells #[.bool false] V0) 4)) wb.heap.size V0 (fun _ => false) from ⟨FnG.made wb V0 4 false rfl, fun _ _ => rfl, hal, Nat.le_refl _, by simp⟩)
        clear hal
        go_wp2_with fail
        clear hm
        generalize wb.alloc (.cells (madeCells #[.bool false] V0) 4) = wi at *
        obtain ⟨bI, hbI⟩ : ∃ b, wb.heap.size = b := ⟨_, rfl⟩
        rw [hbI] at HP0 ⊢
        have HbI := hide hbI
        clear hbI
        go_loopw [9, 10, 11] (fun i _ _ wr => ∃ (m : Nat) (P : Nat → Bool), m + 1 ≤ n ∧ i = .int .i64 ((m : Int) + 1) ∧ X = rpS V0 (gaR V0 (toNu ((L.getD m (0, 0, 0)).2.2 == 45) (L.drop (m + 1))) (if m = 0 then -2 else ((L.getD m (0, 0, 0)).1 : Int)) P) ∧ (m + 1 < n → m = 0 → ((L.getD m (0, 0, 0)).2.2 == 45) = false) ∧ (0 < m → (L.getD m (0, 0, 0)).1 < V0 ∧ P (L.getD m (0, 0, 0)).1 = true) ∧ PaI wb wr bI V0 P) (fun i _ _ _ => n - (intOf i).toNat)
        case atStart =>
          refine ⟨0, fun _ => false, hLn, rfl, ?_, fun h _ => ?_, fun h => absurd h (by omega), unhide HP0⟩
          · rw [unhide HE0]; exact unhide HX4
          · rw [unhide HE0]
            refine unhide HFst (fun h2 => ?_)
            have h3 : (L.drop 1).length = 0 := by rw [h2]; rfl
            rw [List.length_drop, unhide HNn] at h3
            omega
        case round =>
          obtain ⟨m, P, hm, rfl, hXm, hf0, hy, hst⟩ := hrel
          obtain ⟨W1, hW1⟩ : ∃ W1, W1 = wr := ⟨_, rfl⟩
          subst hW1
          have hW := hst.bel
          have HSt := hide hst
          by_cases hlt : m + 1 < n
          · have hlt' : (m : Int) + 1 < (n : Int) := by omega
            have hlL : m + 1 < L.length := by rw [unhide HNn]; exact hlt
            have hcl := (unhide HCl).below hW
            have c1 := hcl (m + 1) hlL
            have c0 := hcl m (by omega)
            have s1 := unhide HFS (L.getD (m + 1) (0, 0, 0)) (by rw [List.getD_eq_getElem?_getD, List.getElem?_eq_getElem hlL]; exact List.getElem_mem _)
            have s0 := unhide HFS (L.getD m (0, 0, 0)) (by rw [List.getD_eq_getElem?_getD, List.getElem?_eq_getElem (show m < L.length by omega)]; exact List.getElem_mem _)
            have hdr := dropR_cons hlL
            rw [hdr] at hXm
            obtain ⟨E1, hE1⟩ : ∃ E, L.getD (m + 1) (0, 0, 0) = E := ⟨_, rfl⟩
            obtain ⟨Y, hY⟩ : ∃ E, L.getD m (0, 0, 0) = E := ⟨_, rfl⟩
            rw [hE1] at c1 s1 hXm
            rw [hY] at c0 s0 hXm hf0 hy
            obtain ⟨v, a, c⟩ := E1
            obtain ⟨yv, ya, yc⟩ := Y
            simp only at c1 c0 hXm hf0 hy
            have hv9 : v ≤ 999999 := s1.1
            have ha9 : a ≤ 65536 := Nat.le_trans s1.2.1 hN2
            have hc9 : c < 256 := s1.2.2
            have hyv9 : yv ≤ 999999 := s0.1
            have hyc9 : yc < 256 := s0.2.2
            have HE1 := hide hE1
            have HXm := hide hXm
            have HHy := hide hy
            have HF0 := hide (hf0 hlt)
            obtain ⟨x0, x1, x2⟩ := c1
            obtain ⟨W2, hW2⟩ : ∃ x, W1.alloc (.cells #[.int .i64 (v : Int), .int .i64 (a : Int), .int .u8 (c : Int)] 84) = x := ⟨_, rfl⟩
            have hb1 : Below W1.heap.size W1 W2 := by rw [← hW2]; exact (Below.refl _ _).alloc (Nat.le_refl _) _
            have hT2 : Thr W2 W1.heap.size (.int .i64 (v : Int)) (.int .i64 (a : Int)) (.int .u8 (c : Int)) := by rw [← hW2]; exact Thr.made _ _ _ _ _
            have y0 := below_cell hb1 c0.1
            have y2 := below_cell hb1 c0.2.2
            have t0 := hT2.c0
            have t1 := hT2.c1
            have t2 := hT2.c2
            have HT2 := hide hT2
            have hWW := hW.trans (hb1.mono hW.size)
            have HA3 := hide (And.intro ((unhide HA2).1.keep hWW) ((unhide HA2).2.trans (hWW.mono (unhide HA2).2.size)))
            have HSt2 := hide (hst.below hb1)
            have hne1 : W1.heap.size ≠ w.heap.size := by have := (unhide HA3).1.lt; have := (unhide HA2).1.lt; have := hW.size; omega
            have hne2 : w.heap.size ≠ W1.heap.size := fun h => hne1 h.symm
            clear hst hcl c0 s1 s0 hdr hE1 hY hXm hf0 hy hT2 hb1 hWW hW
            have hdummy : True := trivial
            by_cases hA : V0 ≤ v
            · have hE : X = .inr (a, 62) := by rw [unhide HXm, ga_big hV4 hA]; rfl
              subst hE
              have hA' : (V0 : Int) ≤ (v : Int) := by omega
              have hx1 : (0 : Int) ≤ (m : Int) + 1 := by omega
              go_wp2_with fail
              have hdr : Below W2.heap.size W2 W2.drew := (Below.refl _ _).drew
              go_region_with (
                go_at_call 49
                refine (none_any _).mono ?_
                rintro _ wN ⟨rfl, hbN⟩
                have hbM := hdr.trans (show Below W2.heap.size W2.drew wN from hbN)
                have RN := (unhide HA3).1.keep hbM
                have XN := (unhide HT2).keep hbM
                have xN1 := XN.c1
                have r0 := RN.c0
                have r1 := RN.c1
                have f0 := RN.f0
                have f1 := RN.f1
                have TN := RN.set (.int .i64 0) (.slice none 0 0)
                have p0 := TN.c0
                have p1 := TN.c1
                have HBN := hide (two_below ((unhide HA3).2.trans (hbM.mono (unhide HA3).2.size)) w.heap.size (Nat.le_refl _) (.int .i64 0) (.slice none 0 0))
                clear RN XN TN hbN hbM)
              all_goals
                try go_wp2_with fail
                refine bodyPost_ret (by simp [results, Try.results19, go_sem, p0, p1]; try rfl) rfl ?_
                exact .inr ⟨_, _, rfl, rfl, unhide HBN⟩
            · have hA' : ¬ (V0 : Int) ≤ (v : Int) := by omega
              have hx1 : (0 : Int) ≤ (m : Int) + 1 := by omega
              cases h45 : (yc == 45)
              · -- no run
                rw [h45] at HXm
                have z5 : ((yc : Int) == 45) = false := by
                  have h46 : ¬ yc = 45 := by simpa using h45
                  simp; omega
                by_cases hm0 : m = 0
                · subst hm0
                  rw [if_pos rfl] at HXm
                  have HX5 := hide (show X = rpS V0 (gaR V0 (toNu (c == 45) (L.drop (0 + 1 + 1))) (v : Int) (fun x => P x || (x == v))) by rw [unhide HXm, ga_one hV4 (by omega) (by omega)])
                  clear h45
                  have F0 := fun x : Ext W2 => x.cell t0
                  have F1 := fun x : Ext W2 => x.cell y0
                  have F2 := fun x : Ext W2 => x.cell y2
                  have hNE := Ext.ne W2
                  go_wp2_with fail
                  refine wp_region_ext (by kernel_rfl) (by kernel_rfl) ?_
                  repeat (go_big_quiet_step (fail))
                  refine wpQuiet_nil ?_
                  rintro _ ⟨xE, rfl⟩
                  have HA4 := hide (And.intro ((unhide HA3).1.keep xE.bel) ((unhide HA3).2.trans (xE.bel.mono (unhide HA3).2.size)))
                  have hT4 := (unhide HT2).keep xE.bel
                  have u0 := hT4.c0
                  have u1 := hT4.c1
                  have HT4 := hide hT4
                  have v0 := below_cell xE.bel y0
                  have HSt4 := hide ((unhide HSt2).below xE.bel)
                  clear F0 F1 F2 hNE t0 t1 t2 y0 y2 hT4
                  have z0 := ((unhide HSt4).row v (by omega)).1
                  have z1 := ((unhide HSt4).row v (by omega)).2
                  rw [Nat.zero_add] at z0 z1
                  unfold vB at z0
                  have HP9 := hide ((unhide HSt4).put v (by omega) (Q := fun x => P x || (x == v)) (by intro x; by_cases hx : x = v <;> simp [hx]))
                  have hvn : (0 : Int) ≤ (v : Int) := by omega
                  have hvV : (v : Int) < (V0 : Int) := by omega
                  go_wp2_with fail
                  try go_region
                  all_goals
                    try go_wp2_with fail
                    refine ⟨⟨0 + 1, fun x => P x || (x == v), by omega, by go_num, ?_, fun _ h2 => absurd h2 (by omega), fun _ => ?_, ?_⟩, by simp [intOf]; omega⟩
                    · rw [unhide HE1, if_neg (by omega)]; exact unhide HX5
                    · rw [unhide HE1]; exact ⟨by show v < V0; omega, by simp⟩
                    · first | exact unhide HP9 | exact (unhide HP9).below (Below.refl _ _).drew
                · have hm1 : (1 : Int) < (m : Int) + 1 := by omega
                  rw [if_neg hm0] at HXm
                  obtain ⟨hyV, hPy⟩ := unhide HHy (by omega)
                  by_cases hB : v < yv + 2
                  · have hE : X = .inr (a, 1) := by rw [unhide HXm, ga_near hV4 (by omega) (by omega)]; rfl
                    subst hE
                    have hB' : (v : Int) < (yv : Int) + 2 := by omega
                    clear h45 hm0 hPy
                    have F0 := fun x : Ext W2 => x.cell t0
                    have F1 := fun x : Ext W2 => x.cell y0
                    have F2 := fun x : Ext W2 => x.cell y2
                    have hNE := Ext.ne W2
                    go_wp2_with fail
                    refine wp_region_ext (by kernel_rfl) (by kernel_rfl) ?_
                    repeat (go_big_quiet_step (fail))
                    refine wpQuiet_nil ?_
                    rintro _ ⟨xE, rfl⟩
                    have HA4 := hide (And.intro ((unhide HA3).1.keep xE.bel) ((unhide HA3).2.trans (xE.bel.mono (unhide HA3).2.size)))
                    have hT4 := (unhide HT2).keep xE.bel
                    have u0 := hT4.c0
                    have u1 := hT4.c1
                    have HT4 := hide hT4
                    have v0 := below_cell xE.bel y0
                    have HSt4 := hide ((unhide HSt2).below xE.bel)
                    clear F0 F1 F2 hNE t0 t1 t2 y0 y2 hT4
                    go_wp2_with fail
                    have hdr : Below xE.w.heap.size xE.w xE.w.drew := (Below.refl _ _).drew
                    go_region_with (
                      go_at_call 49
                      refine (none_any _).mono ?_
                      rintro _ wN ⟨rfl, hbN⟩
                      have hbM := hdr.trans (show Below xE.w.heap.size xE.w.drew wN from hbN)
                      have RN := (unhide HA4).1.keep hbM
                      have XN := (unhide HT4).keep hbM
                      have xN1 := XN.c1
                      have r0 := RN.c0
                      have r1 := RN.c1
                      have f0 := RN.f0
                      have f1 := RN.f1
                      have TN := RN.set (.int .i64 0) (.slice none 0 0)
                      have p0 := TN.c0
                      have p1 := TN.c1
                      have HBN := hide (two_below ((unhide HA4).2.trans (hbM.mono (unhide HA4).2.size)) w.heap.size (Nat.le_refl _) (.int .i64 0) (.slice none 0 0))
                      clear RN XN TN hbN hbM)
                    all_goals
                      try go_wp2_with fail
                      refine bodyPost_ret (by simp [results, Try.results19, go_sem, p0, p1]; try rfl) rfl ?_
                      exact .inr ⟨_, _, rfl, rfl, unhide HBN⟩
                  · have HX5 := hide (show X = rpS V0 (gaR V0 (toNu (c == 45) (L.drop (m + 1 + 1))) (v : Int) (fun x => P x || (x == v))) by rw [unhide HXm, ga_one hV4 (by omega) (by omega)])
                    have hB' : ¬ (v : Int) < (yv : Int) + 2 := by omega
                    clear h45 hm0 hPy
                    have F0 := fun x : Ext W2 => x.cell t0
                    have F1 := fun x : Ext W2 => x.cell y0
                    have F2 := fun x : Ext W2 => x.cell y2
                    have hNE := Ext.ne W2
                    go_wp2_with fail
                    refine wp_region_ext (by kernel_rfl) (by kernel_rfl) ?_
                    repeat (go_big_quiet_step (fail))
                    refine wpQuiet_nil ?_
                    rintro _ ⟨xE, rfl⟩
                    have HA4 := hide (And.intro ((unhide HA3).1.keep xE.bel) ((unhide HA3).2.trans (xE.bel.mono (unhide HA3).2.size)))
                    have hT4 := (unhide HT2).keep xE.bel
                    have u0 := hT4.c0
                    have u1 := hT4.c1
                    have HT4 := hide hT4
                    have v0 := below_cell xE.bel y0
                    have HSt4 := hide ((unhide HSt2).below xE.bel)
                    clear F0 F1 F2 hNE t0 t1 t2 y0 y2 hT4
                    have z0 := ((unhide HSt4).row v (by omega)).1
                    have z1 := ((unhide HSt4).row v (by omega)).2
                    rw [Nat.zero_add] at z0 z1
                    unfold vB at z0
                    have HP9 := hide ((unhide HSt4).put v (by omega) (Q := fun x => P x || (x == v)) (by intro x; by_cases hx : x = v <;> simp [hx]))
                    have hvn : (0 : Int) ≤ (v : Int) := by omega
                    have hvV : (v : Int) < (V0 : Int) := by omega
                    go_wp2_with fail
                    try go_region
                    all_goals
                      try go_wp2_with fail
                      refine ⟨⟨m + 1, fun x => P x || (x == v), by omega, by go_num, ?_, fun _ h2 => absurd h2 (by omega), fun _ => ?_, ?_⟩, by simp [intOf]; omega⟩
                      · rw [unhide HE1, if_neg (by omega)]; exact unhide HX5
                      · rw [unhide HE1]; exact ⟨by show v < V0; omega, by simp⟩
                      · first | exact unhide HP9 | exact (unhide HP9).below (Below.refl _ _).drew
              · rw [h45] at HXm
                have z5 : ((yc : Int) == 45) = true := by
                  have h46 : yc = 45 := by simpa using h45
                  simp; omega
                have hm0 : ¬ m = 0 := by
                  intro h
                  have := unhide HF0 h
                  rw [h45] at this
                  cases this
                rw [if_neg hm0] at HXm
                obtain ⟨hyV, hPy⟩ := unhide HHy (by omega)
                by_cases hB : v ≤ yv
                · have hE : X = .inr (a, 1) := by rw [unhide HXm, ga_back hV4 (by omega) hB]; rfl
                  subst hE
                  have hB' : (v : Int) ≤ (yv : Int) := by omega
                  clear h45 hm0 hPy
                  have F0 := fun x : Ext W2 => x.cell t0
                  have F1 := fun x : Ext W2 => x.cell y0
                  have F2 := fun x : Ext W2 => x.cell y2
                  have hNE := Ext.ne W2
                  go_wp2_with fail
                  refine wp_region_ext (by kernel_rfl) (by kernel_rfl) ?_
                  repeat (go_big_quiet_step (fail))
                  refine wpQuiet_nil ?_
                  rintro _ ⟨xE, rfl⟩
                  have HA4 := hide (And.intro ((unhide HA3).1.keep xE.bel) ((unhide HA3).2.trans (xE.bel.mono (unhide HA3).2.size)))
                  have hT4 := (unhide HT2).keep xE.bel
                  have u0 := hT4.c0
                  have u1 := hT4.c1
                  have HT4 := hide hT4
                  have v0 := below_cell xE.bel y0
                  have HSt4 := hide ((unhide HSt2).below xE.bel)
                  clear F0 F1 F2 hNE t0 t1 t2 y0 y2 hT4
                  go_wp2_with fail
                  have hdr : Below xE.w.heap.size xE.w xE.w.drew := (Below.refl _ _).drew
                  go_region_with (
                    go_at_call 49
                    refine (none_any _).mono ?_
                    rintro _ wN ⟨rfl, hbN⟩
                    have hbM := hdr.trans (show Below xE.w.heap.size xE.w.drew wN from hbN)
                    have RN := (unhide HA4).1.keep hbM
                    have XN := (unhide HT4).keep hbM
                    have xN1 := XN.c1
                    have r0 := RN.c0
                    have r1 := RN.c1
                    have f0 := RN.f0
                    have f1 := RN.f1
                    have TN := RN.set (.int .i64 0) (.slice none 0 0)
                    have p0 := TN.c0
                    have p1 := TN.c1
                    have HBN := hide (two_below ((unhide HA4).2.trans (hbM.mono (unhide HA4).2.size)) w.heap.size (Nat.le_refl _) (.int .i64 0) (.slice none 0 0))
                    clear RN XN TN hbN hbM)
                  all_goals
                    try go_wp2_with fail
                    refine bodyPost_ret (by simp [results, Try.results19, go_sem, p0, p1]; try rfl) rfl ?_
                    exact .inr ⟨_, _, rfl, rfl, unhide HBN⟩
                · have HX5 := hide (show X = rpS V0 (gaR V0 (toNu (c == 45) (L.drop (m + 1 + 1))) (v : Int) (fun x => P x || (decide (yv ≤ x) && decide (x ≤ v)))) by rw [unhide HXm, ga_run hV4 (by omega) (by omega) hPy])
                  have hB' : ¬ (v : Int) ≤ (yv : Int) := by omega
                  clear h45 hm0 hPy
                  have F0 := fun x : Ext W2 => x.cell t0
                  have F1 := fun x : Ext W2 => x.cell y0
                  have F2 := fun x : Ext W2 => x.cell y2
                  have hNE := Ext.ne W2
                  go_wp2_with fail
                  refine wp_region_ext (by kernel_rfl) (by kernel_rfl) ?_
                  repeat (go_big_quiet_step (fail))
                  refine wpQuiet_nil ?_
                  rintro _ ⟨xE, rfl⟩
                  have HA4 := hide (And.intro ((unhide HA3).1.keep xE.bel) ((unhide HA3).2.trans (xE.bel.mono (unhide HA3).2.size)))
                  have hT4 := (unhide HT2).keep xE.bel
                  have u0 := hT4.c0
                  have u1 := hT4.c1
                  have HT4 := hide hT4
                  have v0 := below_cell xE.bel y0
                  have HSt4 := hide ((unhide HSt2).below xE.bel)
                  clear F0 F1 F2 hNE t0 t1 t2 y0 y2 hT4
                  have hbr : bI ≠ W1.heap.size := by have := (unhide HSt).lt; omega
                  go_wp2_with fail
                  clear u0 u1 v0
                  go_loopw [11] (fun e wq => ∃ k : Nat, yv ≤ k ∧ k ≤ v ∧ e = .int .i64 (k : Int) ∧ PaI wb wq bI V0 (fun z => P z || (decide (yv ≤ z) && decide (z < k))) ∧ Thr wq W1.heap.size (.int .i64 (v : Int)) (.int .i64 (a : Int)) (.int .u8 (c : Int))) (fun e _ => v - (intOf e).toNat)
                  case atStart =>
                    refine ⟨yv, Nat.le_refl _, by omega, rfl, ?_, unhide HT4⟩
                    rw [show (fun z => P z || (decide (yv ≤ z) && decide (z < yv))) = P from by
                      funext z
                      rw [show (decide (yv ≤ z) && decide (z < yv)) = false from by simp]
                      simp]
                    exact unhide HSt4
                  case round =>
                    obtain ⟨k, hk1, hk2, rfl, hpk, htk⟩ := hrel
                    have u0 := htk.c0
                    have HPk := hide hpk
                    have HTk := hide htk
                    by_cases hkv : k < v
                    · have hkv' : (k : Int) < (v : Int) := by omega
                      have hk0 : (0 : Int) ≤ (k : Int) := by omega
                      have hkV : (k : Int) < (V0 : Int) := by omega
                      have z0 := (hpk.row k (by omega)).1
                      have z1 := (hpk.row k (by omega)).2
                      rw [Nat.zero_add] at z0 z1
                      unfold vB at z0
                      have HP9 := hide (And.intro (hpk.put k (by omega) (Q := fun z => P z || (decide (yv ≤ z) && decide (z < k + 1))) (fun x => pk_step P hk1 x)) (htk.chg (Chg.of_set (S := fun j => j = bI) wr bI k (.bool true) rfl) (fun h => hbr h.symm)))
                      clear hpk htk
                      go_wp2_with fail
                      exact ⟨⟨k + 1, by omega, by omega, by go_num, (unhide HP9).1, (unhide HP9).2⟩, by simp [intOf]; omega⟩
                    · have hkv' : ¬ (k : Int) < (v : Int) := by omega
                      obtain rfl : v = k := by omega
                      clear hpk htk
                      have z0 := ((unhide HPk).row v (by omega)).1
                      have z1 := ((unhide HPk).row v (by omega)).2
                      rw [Nat.zero_add] at z0 z1
                      unfold vB at z0
                      have HP9 := hide ((unhide HPk).put v (by omega) (Q := fun x => P x || (decide (yv ≤ x) && decide (x ≤ v))) (by exact fun x => pk_end P (show yv ≤ v by omega) x))
                      have hvn : (0 : Int) ≤ (v : Int) := by omega
                      have hvV : (v : Int) < (V0 : Int) := by omega
                      go_wp2_with fail
                      try go_region
                      all_goals
                        try go_wp2_with fail
                        refine ⟨⟨m + 1, fun x => P x || (decide (yv ≤ x) && decide (x ≤ v)), by omega, by go_num, ?_, fun _ h2 => absurd h2 (by omega), fun _ => ?_, ?_⟩, by simp [intOf]; omega⟩
                        · rw [unhide HE1, if_neg (by omega)]; exact unhide HX5
                        · rw [unhide HE1]; exact ⟨by show v < V0; omega, by simp; omega⟩
                        · first | exact unhide HP9 | exact (unhide HP9).below (Below.refl _ _).drew
          · have hlt' : ¬ (m : Int) + 1 < (n : Int) := by omega
            have hmn : m + 1 = n := by omega
            have hnil : L.drop (m + 1) = [] := List.drop_eq_nil_iff.2 (by rw [unhide HNn]; omega)
            have hE : X = .inl (V0, P) := by rw [hXm, hnil]; rfl
            subst hE
            have hWW := hW
            have HA3 := hide (And.intro ((unhide HA2).1.keep hWW) ((unhide HA2).2.trans (hWW.mono (unhide HA2).2.size)))
            have HOf := hide (of_yn hst.row (Below.refl _ _) hV4 hst.zero)
            have hlR := (unhide HA3).1.lt
            clear hXm hf0 hy hst hnil hW hWW hmn
            go_wp2_with fail
            refine (unhide HOf).mono ?_
            rintro _ w5 ⟨a5, n5, c5, rfl, hs5, hf5, hb5⟩
            have RN := (unhide HA3).1.keep hb5
            have r0 := RN.c0
            have r1 := RN.c1
            have f0 := RN.f0
            have f1 := RN.f1
            have TN := RN.set (.int .i64 (V0 : Int)) (.slice a5 n5 c5)
            have p0 := TN.c0
            have p1 := TN.c1
            have hC : Chg (fun j => j = w.heap.size) w5 ((w5.setCell ⟨w.heap.size, 0, none⟩ (.int .i64 (V0 : Int))).setCell ⟨w.heap.size, 1, none⟩ (.slice a5 n5 c5)) := (Chg.of_set (S := fun j => j = w.heap.size) _ _ _ _ rfl).trans (Chg.of_set (S := fun j => j = w.heap.size) _ _ _ _ rfl)
            have HSl := hide (hs5.chg hC (fun x hx _ hh => by
              have h1 : W1.heap.size ≤ x.block := hf5 x hx
              have h2 : x.block = w.heap.size := hh
              omega))
            have HBN := hide (two_below ((unhide HA3).2.trans (hb5.mono (unhide HA3).2.size)) w.heap.size (Nat.le_refl _) (.int .i64 (V0 : Int)) (.slice a5 n5 c5))
            clear RN TN hC hs5 hf5 hb5
            go_wp2_with fail
            refine bodyPost_ret (by simp [results, Try.results19, go_sem, p0, p1]; try rfl) rfl ?_
            exact .inl ⟨V0, P, rfl, hV4, a5, n5, c5, rfl, unhide HSl, unhide HBN⟩
end Go.Proofs.Ytbendkndnojihaa
