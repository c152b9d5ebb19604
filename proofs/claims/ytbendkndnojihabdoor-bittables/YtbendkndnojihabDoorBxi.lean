/-
  WAYS, plain: what Warshall's rounds come to; bitset.Closure by predicates: contracts.
-/
import Derived.Test.YtbendkndnojihabDoorBxe
import Derived.Test.YtbendkndnojihabDoorBxf
import Derived.Test.YtbendkndnojihabDoorBxk
namespace Go.Proofs.YtbendkndnojihabDoor
open Go.RowKit Go.Deep
set_option linter.unusedVariables false

theorem waP_up {P : Nat → Nat → Bool} {k i j : Nat} (h : waP P k i j = true) : waP P (k + 1) i j = true := by
  show (waP P k i j || (waP P k i k && waP P k k j)) = true
  rw [h]; rfl
theorem waP_le {P : Nat → Nat → Bool} {k i j : Nat} (h : waP P k i j = true) : ∀ d, waP P (k + d) i j = true
  | 0 => h
  | d + 1 => waP_up (waP_le h d)
theorem waP_or {P : Nat → Nat → Bool} {k i j : Nat} (h : waP P (k + 1) i j = true) : waP P k i j = true ∨ (waP P k i k = true ∧ waP P k k j = true) := by
  have h2 : (waP P k i j || (waP P k i k && waP P k k j)) = true := h
  simpa using h2
theorem waP_of {P : Nat → Nat → Bool} {k i j : Nat} (h : waP P k i k = true) (h2 : waP P k k j = true) : waP P (k + 1) i j = true := by
  show (waP P k i j || (waP P k i k && waP P k k j)) = true
  rw [h, h2]; simp
theorem waP_sub {P Q : Nat → Nat → Bool} (h : ∀ i j, P i j = true → Q i j = true) : ∀ k i j, waP P k i j = true → waP Q k i j = true
  | 0, i, j, hh => h i j hh
  | k + 1, i, j, hh => by
    rcases waP_or hh with a | ⟨a, b⟩
    · exact waP_up (waP_sub h k i j a)
    · exact waP_of (waP_sub h k i k a) (waP_sub h k k j b)
theorem waP_trans {P : Nat → Nat → Bool} : ∀ k i j m, m < k → waP P k i m = true → waP P k m j = true → waP P k i j = true
  | 0, i, j, m, hm, _, _ => by omega
  | k + 1, i, j, m, hm, h1, h2 => by
    by_cases e : m = k
    · subst e
      rw [waP_row] at h2
      refine waP_of ?_ h2
      rcases waP_or h1 with a | ⟨a, _⟩ <;> exact a
    · have hk : m < k := by omega
      rcases waP_or h1 with a | ⟨a, b⟩
      · rcases waP_or h2 with c | ⟨c, d⟩
        · exact waP_up (waP_trans k i j m hk a c)
        · exact waP_of (waP_trans k i k m hk a c) d
      · rcases waP_or h2 with c | ⟨c, d⟩
        · exact waP_of a (waP_trans k k j m hk b c)
        · exact waP_of a d
theorem waP_zero {P : Nat → Nat → Bool} {n : Nat} (hz : ∀ i x, n ≤ x → P i x = false) : ∀ k i x, n ≤ x → waP P k i x = false
  | 0, i, x, hx => hz i x hx
  | k + 1, i, x, hx => by
    show (waP P k i x || (waP P k i k && waP P k k x)) = false
    rw [waP_zero hz k i x hx, waP_zero hz k k x hx]; simp
theorem waP_out {P : Nat → Nat → Bool} {n : Nat} (ho : ∀ i x, n ≤ i → P i x = false) : ∀ k i x, n ≤ i → waP P k i x = false
  | 0, i, x, hx => ho i x hx
  | k + 1, i, x, hx => by
    show (waP P k i x || (waP P k i k && waP P k k x)) = false
    rw [waP_out ho k i x hx, waP_out ho k i k hx]; simp
theorem waP_congr {P Q : Nat → Nat → Bool} {n N : Nat} (hN : n ≤ N) (h : ∀ i j, i < n → j < N → P i j = Q i j) : ∀ k, k ≤ n → ∀ i j, i < n → j < N → waP P k i j = waP Q k i j
  | 0, _, i, j, hi, hj => h i j hi hj
  | k + 1, hk, i, j, hi, hj => by
    show (waP P k i j || (waP P k i k && waP P k k j)) = (waP Q k i j || (waP Q k i k && waP Q k k j))
    rw [waP_congr hN h k (by omega) i j hi hj, waP_congr hN h k (by omega) i k hi (by omega), waP_congr hN h k (by omega) k j (by omega) hj]
/-- What is closed. -/
structure Ways (n : Nat) (P C : Nat → Nat → Bool) : Prop where
  sub : ∀ i j, P i j = true → C i j = true
  trans : ∀ i e j, C i e = true → C e j = true → C i j = true
  step : ∀ i j, C i j = true → P i j = true ∨ ∃ e, e < n ∧ P i e = true ∧ C e j = true
theorem ways_of {n : Nat} {P : Nat → Nat → Bool} (hz : ∀ i x, n ≤ x → P i x = false) (ho : ∀ i x, n ≤ i → P i x = false) : Ways n P (waP P n) := by
  have tr : ∀ i e j, waP P n i e = true → waP P n e j = true → waP P n i j = true := fun i e j h1 h2 => by
    rcases Nat.lt_or_ge e n with c | c
    · exact waP_trans n i j e c h1 h2
    · rw [waP_zero hz n i e c] at h1; cases h1
  have up : ∀ k, k ≤ n → ∀ i j, waP P k i j = true → waP P n i j = true := fun k hk i j h => by
    have := waP_le h (n - k)
    rwa [show k + (n - k) = n from by omega] at this
  refine ⟨fun i j h => up 0 (by omega) i j h, tr, fun i j h => ?_⟩
  have key : ∀ k, k ≤ n → ∀ i j, waP P k i j = true → P i j = true ∨ ∃ e, e < n ∧ P i e = true ∧ waP P n e j = true := by
    intro k
    induction k with
    | zero => intro _ i j h; exact .inl h
    | succ k ih =>
      intro hk i j h
      rcases waP_or h with a | ⟨a, b⟩
      · exact ih (by omega) i j a
      · rcases ih (by omega) i k a with c | ⟨e, he, c1, c2⟩
        · exact .inr ⟨k, by omega, c, up k (by omega) k j b⟩
        · exact .inr ⟨e, he, c1, tr e k j c2 (up k (by omega) k j b)⟩
  exact key n (Nat.le_refl _) i j h
theorem Ways.one {n : Nat} {P C : Nat → Nat → Bool} (h : Ways n P C) (i j : Nat) : (P i j || prG n P C i j) = C i j := by
  rw [Bool.eq_iff_iff]
  simp only [prG, Bool.or_eq_true, List.any_eq_true, List.mem_range, Bool.and_eq_true]
  constructor
  · rintro (a | ⟨e, _, a, b⟩)
    · exact h.sub i j a
    · exact h.trans i e j (h.sub i e a) b
  · exact h.step i j
theorem Ways.two {n : Nat} {P C : Nat → Nat → Bool} (h : Ways n P C) (i j : Nat) (hh : prG n C C i j = true) : C i j = true := by
  simp only [prG, List.any_eq_true, List.mem_range, Bool.and_eq_true] at hh
  obtain ⟨e, _, a, b⟩ := hh
  exact h.trans i e j a b
theorem Ways.still {n : Nat} {P C : Nat → Nat → Bool} (h : Ways n P C) : ∀ k, waP C k = C
  | 0 => rfl
  | k + 1 => by
    funext i j
    show (waP C k i j || (waP C k i k && waP C k k j)) = C i j
    rw [h.still k]
    cases hc : C i j
    · cases ha : C i k
      · rfl
      · cases hb : C k j
        · rfl
        · rw [h.trans i k j ha hb] at hc; cases hc
    · rfl
/-- A chain of m numbers. -/
def chP (m i j : Nat) : Bool := decide (j = i + 1) && decide (j < m)
theorem chain_ways (m i j : Nat) : waP (chP m) m i j = (decide (i < j) && decide (j < m)) := by
  have hz : ∀ i x, m ≤ x → chP m i x = false := fun i x hx => by simp [chP, show ¬ x < m from by omega]
  have ho : ∀ i x, m ≤ i → chP m i x = false := fun i x hx => by
    unfold chP
    by_cases c : x = i + 1
    · simp [show ¬ x < m from by omega]
    · simp [c]
  have W := ways_of hz ho
  rw [Bool.eq_iff_iff]
  simp only [Bool.and_eq_true, decide_eq_true_eq]
  constructor
  · intro h
    have sound : ∀ k i j, waP (chP m) k i j = true → i < j ∧ j < m := by
      intro k
      induction k with
      | zero =>
        intro i j h
        have h2 : (decide (j = i + 1) && decide (j < m)) = true := h
        simp at h2
        omega
      | succ k ih =>
        intro i j h
        rcases waP_or h with a | ⟨a, b⟩
        · exact ih i j a
        · have x := ih i k a
          have y := ih k j b
          omega
    exact sound m i j h
  · rintro ⟨h1, h2⟩
    have comp : ∀ d i, i + d + 1 < m → waP (chP m) m i (i + d + 1) = true := by
      intro d
      induction d with
      | zero => intro i hi; exact W.sub i (i + 0 + 1) (by simp [chP]; omega)
      | succ d ih =>
        intro i hi
        refine W.trans i (i + 1) (i + (d + 1) + 1) (W.sub _ _ (by simp [chP]; omega)) ?_
        have := ih (i + 1) (by omega)
        rwa [show i + 1 + d + 1 = i + (d + 1) + 1 from by omega] at this
    have := comp (j - i - 1) i (by omega)
    rwa [show i + (j - i - 1) + 1 = j from by omega] at this

theorem closure_good (n : Nat) (a : Option Addr) (c : Nat) (L : List SetC) (P : Nat → Nat → Bool) (w : World) (h : SlS w a n c L) (g : GoodT n n L P) :
    Calls Tryd.prog 9 #[setV n a n c] w fun r w' => ResN w w' n n (tabK n n (waP P n)) 0 r := by
  refine (closure_yes a n c L w h g.may g.hn).mono ?_
  rintro _ w' ⟨v, rfl, F, h1, h2⟩
  have e : ∀ i, i < n → RepB (nW n) (F i) (waP P n i) := fun i hi => (h2 i hi).congr (fun _ _ => rfl) (fun y hy =>
    waP_congr (N := 64 * nW n) (by unfold nW; omega) (fun i j hi hj => g.inT i j hi hj) n (Nat.le_refl _) i y hi hy)
  exact h1.resN e g.hn
theorem GoodT.closure {n : Nat} {L M : List SetC} {P : Nat → Nat → Bool} (g : GoodT n n L P) (h : M.map SetC.key = tabK n n (waP P n)) : GoodT n n M (waP P n) := ⟨h, fun i x hx => waP_zero g.zero n i x hx, fun i x hx => waP_out g.out n i x hx, g.hn, g.hs⟩
theorem closure_bad (s : Int) (n : Nat) (a : Option Addr) (c : Nat) (L : List SetC) (w : World) (h : SlS w a n c L) (hno : sqE s L ≠ 0) :
    Calls Tryd.prog 9 #[setV s a n c] w fun r w' => ResN w w' 0 0 [] (sqE s L) r := by
  refine (closure_no s a n c L w h hno).mono ?_
  rintro _ w' ⟨rfl, hb⟩
  exact resN_zero hb
end Go.Proofs.YtbendkndnojihabDoor

namespace Go.Proofs.YtbendkndnojihabDoor
open Go.RowKit Go.Deep
set_option linter.unusedVariables false

theorem chP_zero {m i x : Nat} (h : m ≤ x) : chP m i x = false := by simp [chP, show ¬ x < m from by omega]
theorem chP_out {m i x : Nat} (h : m ≤ i) : chP m i x = false := by
  unfold chP
  by_cases c : x = i + 1
  · simp [show ¬ x < m from by omega]
  · simp [c]
theorem range_step {m k : Nat} (hm : m ≤ 4096) : rangeR (m : Int) ((k : Int) + 1) ((k : Int) + 2) = ((m : Int), wordsL m (chP m k), 0) := by
  have hf : fitsI (m : Int) = true := by simp [fitsI]; omega
  unfold rangeR
  rw [if_pos hf, Int.toNat_natCast]
  rw [wordsL_congr (Q := chP m k) (fun x _ => ?_)]
  have e : ((k : Int) + 1).toNat = k + 1 := by omega
  rw [e]
  unfold chP
  rw [Bool.eq_iff_iff]
  simp only [Bool.and_eq_true, decide_eq_true_eq]
  omega
theorem range_rest {m f : Nat} (hm : m ≤ 4096) : rangeR (m : Int) ((f : Int) + 1) (m : Int) = ((m : Int), wordsL m (waP (chP m) m f), 0) := by
  have hf : fitsI (m : Int) = true := by simp [fitsI]; omega
  unfold rangeR
  rw [if_pos hf, Int.toNat_natCast]
  rw [wordsL_congr (Q := waP (chP m) m f) (fun x _ => ?_)]
  have e : ((f : Int) + 1).toNat = f + 1 := by omega
  rw [e, chain_ways]
  rw [Bool.eq_iff_iff]
  simp only [Bool.and_eq_true, decide_eq_true_eq]
  omega
theorem tabK_snoc {m k : Nat} {P : Nat → Nat → Bool} {T : List SetC} {t : SetC} (h : T.map SetC.key = tabK m k P) (ht : t.key = ((m : Int), wordsL m (P k))) : (T ++ [t]).map SetC.key = tabK m (k + 1) P := by
  unfold tabK at h ⊢
  rw [List.map_append, h, List.range_succ, List.map_append]
  simp [ht]

set_option maxHeartbeats 4000000 in
theorem chain_no (len fr : Int) (w : World) (h : len < 1 ∨ 4096 < len ∨ fr < 0 ∨ len ≤ fr) :
    Calls Tryd.prog 17 #[.int .i64 len, .int .i64 fr] w fun e w' => e = .returned (.bool true) ∧ Below w.heap.size w w' := by
  have HB := hide (Below.refl w.heap.size w)
  by_cases h1 : len < 1
  · clear h
    go_enter Tryd.func17, Tryd.ntmps17
    go_wp2_with fail
    go_ret
    exact ⟨rfl, unhide HB⟩
  · by_cases h2 : 4096 < len
    · clear h
      go_enter Tryd.func17, Tryd.ntmps17
      go_wp2_with fail
      go_ret
      exact ⟨rfl, unhide HB⟩
    · by_cases h3 : fr < 0
      · clear h
        go_enter Tryd.func17, Tryd.ntmps17
        go_wp2_with fail
        go_ret
        exact ⟨rfl, unhide HB⟩
      · have h4 : len ≤ fr := by omega
        clear h
        go_enter Tryd.func17, Tryd.ntmps17
        go_wp2_with fail
        go_ret
        exact ⟨rfl, unhide HB⟩

set_option maxHeartbeats 8000000 in
set_option maxRecDepth 100000 in
theorem chain_yes (m f : Nat) (w : World) (h1 : 1 ≤ m) (h2 : m ≤ 4096) (h3 : f < m) :
    Calls Tryd.prog 17 #[.int .i64 (m : Int), .int .i64 (f : Int)] w fun e w' => e = .returned (.bool true) ∧ Below w.heap.size w w' := by
  obtain ⟨i24, hi, hz, hs, hb⟩ := info_parts Tryd.info_set
  have HI := hide (And.intro hi (And.intro hz (And.intro hs hb)))
  clear hi hz hs hb
  have d1 : ¬ (m : Int) < 1 := by omega
  have d2 : ¬ (4096 : Int) < (m : Int) := by omega
  have d3 : ¬ (f : Int) < 0 := by omega
  have d4 : ¬ (m : Int) ≤ (f : Int) := by omega
  have d5 : (f : Int) < (m : Int) := by omega
  go_enter Tryd.func17, Tryd.ntmps17
  go_wp2_with fail
  go_loopw [6, 5, 7, 8] (fun i v _ _ wr => ∃ (k : Nat) (T : List SetC), k ≤ m ∧ i = .int .i64 k ∧ T.length = k ∧ T.map SetC.key = tabK m k (chP m) ∧ GrT w wr v T) (fun i _ _ _ _ => m - (intOf i).toNat)
  case atStart => exact ⟨0, [], Nat.zero_le _, rfl, rfl, rfl, GrT.start w⟩
  case round =>
    obtain ⟨k, T, hk, rfl, hl, hkey, hst⟩ := hrel
    by_cases hlt : k < m
    · have hlt' : (k : Int) < (m : Int) := by omega
      have K := range_new (m : Int) ((k : Int) + 1) ((k : Int) + 2) wr (by omega)
      rw [range_step h2] at K
      have HK := hide K
      have q1 : IntKind.i64.wrap ((k : Int) + 1) = (k : Int) + 1 := by rw [wrap_i64]; omega
      have q2 : IntKind.i64.wrap ((k : Int) + 2) = (k : Int) + 2 := by rw [wrap_i64]; omega
      have HS := hide hst
      have HKey := hide (And.intro hl hkey)
      have hbase := hst.bel.size
      clear hst K hkey hl
      go_wp2_with fail
      refine (unhide HK).mono ?_
      rintro _ w1 ⟨a1, n1, c1, rfl, hs1, hb1, ho1⟩
      unfold setV
      obtain ⟨w2, hw2⟩ : ∃ x, w1.alloc (.cells #[.int .i64 (m : Int), .slice a1 n1 c1] 35) = x := ⟨_, rfl⟩
      have hb2 : Below w1.heap.size w1 w2 := by rw [← hw2]; exact (Below.refl _ _).alloc (Nat.le_refl _) _
      have tS : Two w2 w1.heap.size (.int .i64 (m : Int)) (.slice a1 n1 c1) := by rw [← hw2]; exact Two.made _ _ _ _
      have hbb := hb1.trans (hb2.mono hb1.size)
      have s0 := tS.c0
      have s1 := tS.c1
      obtain ⟨t, ht⟩ : ∃ t : SetC, t = ⟨(m : Int), a1, n1, c1, wordsL m (chP m k)⟩ := ⟨_, rfl⟩
      have HZ := hide (show t.Z w2 from by rw [ht]; exact ⟨⟨hs1.below hb2, (Good.mk' (fun x hx => chP_zero hx) h2).ok⟩, ho1⟩)
      have HO1 := hide (((unhide HS).below hbb).below ((Below.refl w2.heap.size w2).alloc (Nat.le_refl _) (.cells #[.int .i64 (m : Int), .slice a1 n1 c1] 35))).own
      have HSt := hide (fun (w3 : World) (v2 : Value) hnz hg hown => (unhide HS).step (w1 := w2) (w2 := w3) (v2 := v2) (t := t) hbb (unhide HZ) hnz hg hown)
      rw [ht] at HSt
      simp only at HSt
      rw [(unhide HKey).1] at HO1 HSt
      have HK2 := hide (tabK_snoc (t := t) (unhide HKey).2 (by rw [ht]; rfl))
      rw [ht] at HK2
      have hl2 : w.heap.size ≤ w2.heap.size := by have := hbb.size; omega
      have HL := hide (unhide HKey).1
      clear hs1 hb1 ho1 hb2 tS hbb HK HZ HKey ht
      go_wp2_with fail
      refine (num_any 0 w2).mono ?_
      rintro _ w' ⟨rfl, hw⟩
      obtain rfl := hw.symm
      go_wp2_with (at_builtin; refine wpList_append_lies _ rfl _ _ 22 rfl w.heap.size 35 i24 (.agg #[.int .i64 0, .slice none 0 0]) 2 32 Tryd.underlying22 (unhide HI).1 (unhide HI).2.1 (unhide HI).2.2.1 (unhide HI).2.2.2 rfl (by decide) _ k (flatS T) rfl (unhide HO1) ⟨w2.heap.size, 0, none⟩ 1 1 [.int .i64 (m : Int), .slice a1 n1 c1] rfl rfl (World.news_of_block (alloc_block _ _)) ?c21 (by decide) ?c31 ?c41 ?c51 (w2.heap.size + 1) (by simp) ?_)
      case c21 => first | (intro u hu; simp at hu; rcases hu with rfl | rfl <;> rfl) | exact ⟨rfl, rfl⟩
      case c31 => unfold maxLen; omega
      case c41 => omega
      case c51 => first | omega | (simp; omega)
      intro g cap w3 hown hg hat hlt2
      have HS2 := hide (unhide HSt w3 _ (by intro h; cases h) hg hown)
      clear hown hg hat hlt2 HO1 HSt s0 s1 hw2
      go_wp2_with fail
      exact ⟨⟨k + 1, _, by omega, by go_num, by rw [List.length_append, unhide HL]; rfl, unhide HK2, unhide HS2⟩, by simp [intOf]; omega⟩
    · have hlt' : ¬ (k : Int) < (m : Int) := by omega
      obtain rfl : k = m := by omega
      obtain ⟨a, c, rfl, hsl⟩ := hst.sl (by rw [hl]; unfold maxLen; omega)
      rw [hl] at hsl ⊢
      have gT : GoodT k k T (chP k) := ⟨hkey, fun i x hx => chP_zero hx, fun i x hx => chP_out hx, h2, h2⟩
      have K := closure_good k a c T (chP k) wr hsl gT
      unfold setV at K
      have HK := hide K
      have HB := hide hst.bel
      have HG := hide gT
      have hle := hsl.le
      have hcap := hsl.cap
      unfold maxLen at hcap
      clear hst hkey hl hsl K gT
      go_wp2_with fail
      refine (unhide HK).mono ?_
      rintro _ w1 ⟨a1, c1, L1, rfl, hs1, hk1, hb1⟩
      unfold setV
      obtain ⟨w2, hw2⟩ : ∃ x, w1.alloc (.cells #[.int .i64 (k : Int), .slice a1 k c1] 24) = x := ⟨_, rfl⟩
      have hb2 : Below w1.heap.size w1 w2 := by rw [← hw2]; exact (Below.refl _ _).alloc (Nat.le_refl _) _
      have tC : Two w2 w1.heap.size (.int .i64 (k : Int)) (.slice a1 k c1) := by rw [← hw2]; exact Two.made _ _ _ _
      have hB2 := ((unhide HB).trans (hb1.mono (unhide HB).size))
      have hB3 := hB2.trans (hb2.mono hB2.size)
      have cc0 := tC.c1
      have hle1 := hs1.le
      have hcap1 := hs1.cap
      unfold maxLen at hcap1
      have K2 := range_new (k : Int) ((f : Int) + 1) (k : Int) w2 (by omega)
      rw [range_rest h2] at K2
      have HK2 := hide K2
      have HC := hide (And.intro tC (And.intro (hs1.below hb2) (And.intro ((unhide HG).closure hk1) hB3)))
      have q1 : IntKind.i64.wrap ((f : Int) + 1) = (f : Int) + 1 := by rw [wrap_i64]; omega
      clear hb1 hb2 tC hB2 hB3 hs1 hk1 HK HB HG K2
      go_wp2_with fail
      refine (num_any 0 w2).mono ?_
      rintro _ w' ⟨rfl, hw⟩
      obtain rfl := hw.symm
      go_wp2_with fail
      refine (unhide HK2).mono ?_
      rintro _ w3 ⟨a3, n3, c3, rfl, hs3, hb3, _⟩
      unfold setV
      obtain ⟨w4, hw4⟩ : ∃ x, w3.alloc (.cells #[.int .i64 (k : Int), .slice a3 n3 c3] 35) = x := ⟨_, rfl⟩
      have hb4 : Below w3.heap.size w3 w4 := by rw [← hw4]; exact (Below.refl _ _).alloc (Nat.le_refl _) _
      have tW : Two w4 w3.heap.size (.int .i64 (k : Int)) (.slice a3 n3 c3) := by rw [← hw4]; exact Two.made _ _ _ _
      have hb34 := hb3.trans (hb4.mono hb3.size)
      have tC := (unhide HC).1.keep hb34
      have hS := (unhide HC).2.1.below hb34
      have hs4 := hs3.below hb4
      have hBl := (unhide HC).2.2.2.trans (hb34.mono (unhide HC).2.2.2.size)
      obtain ⟨b, off, rfl, hcells⟩ := hS.at (by omega)
      have g1 := (hcells f h3).1
      have g2 := (hcells f h3).2
      have hin := (hS.get f h3).1
      have hgt := (unhide HC).2.2.1.get f h3
      generalize L1.getD f .nul = e at *
      obtain ⟨es, ea, en, ec, exs⟩ := e
      simp only at g1 g2 hgt
      obtain ⟨rfl, rfl⟩ := hgt
      have hfn : n3 = en := by have x1 := hin.len; have x2 := hs4.len; simp only at x1 x2; omega
      subst hfn
      have K3 := fun x : Ext w4 => same_eq (k : Int) ea a3 n3 ec c3 _ x.w (hin.below x.bel) (hs4.below x.bel)
      unfold setV at K3
      have HK3 := hide K3
      have c1' := tC.c1
      have v0 := tW.c0
      have v1 := tW.c1
      have F0 := fun x : Ext w4 => x.cell c1'
      have F1 := fun x : Ext w4 => x.cell g1
      have F2 := fun x : Ext w4 => x.cell g2
      have F3 := fun x : Ext w4 => x.cell v0
      have F4 := fun x : Ext w4 => x.cell v1
      have hNE := Ext.ne w4
      have f0 : (0 : Int) ≤ (f : Int) := by omega
      have HBl := hide hBl
      clear hs3 hb3 hb4 tW hb34 tC hS hs4 hBl hcells hin K3 HK2 HC g1 g2 v0 v1 c1'
      have HKN := hide (fun x : Ext w4 => (num_any 0 x.w).mono (fun e w' (h : _ ∧ _) => (⟨h.1, by rw [h.2]; exact Below.refl _ _⟩ : _ ∧ Below x.w.heap.size x.w w')))
      go_wp2_with fail
      refine wp_region_ext (by kernel_rfl) (by kernel_rfl) ?_
      repeat (go_big_quiet_step (first | (go_at_call 15; rename_i x; exact Ext.call (unhide HK3 x) (fun e w' h => h)) | (go_at_call 11; rename_i x; exact Ext.call (unhide HKN x) (fun e w' h => h))))
      refine wpQuiet_nil ?_
      rintro _ ⟨x, rfl⟩
      have HB2 := hide ((unhide HBl).trans (x.bel.mono (unhide HBl).size))
      go_wp2_with fail
      go_ret
      exact ⟨rfl, unhide HB2⟩
/-- slopelaw3.chain. -/
theorem chain_any (len fr : Int) (w : World) : Calls Tryd.prog 17 #[.int .i64 len, .int .i64 fr] w fun e w' => e = .returned (.bool true) ∧ Below w.heap.size w w' := by
  by_cases h : len < 1 ∨ 4096 < len ∨ fr < 0 ∨ len ≤ fr
  · exact chain_no len fr w h
  · obtain ⟨m, rfl⟩ : ∃ m : Nat, len = (m : Int) := ⟨len.toNat, by omega⟩
    obtain ⟨f, rfl⟩ : ∃ f : Nat, fr = (f : Int) := ⟨fr.toNat, by omega⟩
    exact chain_yes m f w (by omega) (by omega) (by omega)
end Go.Proofs.YtbendkndnojihabDoor
