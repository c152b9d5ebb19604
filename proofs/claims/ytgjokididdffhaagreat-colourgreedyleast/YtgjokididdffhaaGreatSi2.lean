/- Sa1 -/
import Derived.Test.YtgjokididdffhaaGreatSa0
namespace Go.Proofs.YtgjokididdffhaaGreat
open Go.RowKit Go.Deep
set_option linter.unusedVariables false
def InP (size : Int) (xs : List Int) (n : Nat) : Prop := ∀ i, i < n → 0 ≤ xs.getD i 0 ∧ xs.getD i 0 < size
def BIs (P : Prop) (w w' : World) (e : Ending) : Prop := (∃ b : Bool, e = .returned (.bool b) ∧ (b = true ↔ P)) ∧ Below w.heap.size w w'
def BIq (P : Prop) (w w' : World) (e : Ending) : Prop := (∃ b : Bool, e = .returned (.bool b) ∧ (b = true ↔ P)) ∧ w' = w
def Dr (w w' : World) : Prop := ∃ m, w' = w.drewN m
theorem Dr.refl (w : World) : Dr w w := ⟨0, rfl⟩
theorem Dr.drew {w w' : World} (h : Dr w w') : Dr w w'.drew := by obtain ⟨m, rfl⟩ := h; exact ⟨m + 1, by simp⟩
theorem Dr.n {w w' : World} (h : Dr w w') (k : Nat) : Dr w (w'.drewN k) := by obtain ⟨m, rfl⟩ := h; exact ⟨m + k, by rw [World.drewN_drewN]⟩
theorem Dr.trans {w w' w'' : World} (h : Dr w w') (k : Dr w' w'') : Dr w w'' := by obtain ⟨m, rfl⟩ := k; exact h.n m
theorem Dr.below {w w' : World} (h : Dr w w') : Below w.heap.size w w' := by obtain ⟨m, rfl⟩ := h; exact bel_drewN (Below.refl _ _) m
def QI (ok : Bool) (w w' : World) (e : Ending) : Prop := e = .returned (.bool ok) ∧ Dr w w'
theorem QI.yes {P : Prop} {ok : Bool} (ho : ok = true ↔ P) {w w' : World} (h : P) (k : Dr w w') : QI ok w w' (.returned (.bool true)) := ⟨by rw [ho.2 h], k⟩
theorem QI.no {P : Prop} {ok : Bool} (ho : ok = true ↔ P) {w w' : World} (h : ¬ P) (k : Dr w w') : QI ok w w' (.returned (.bool false)) := ⟨by cases ok; rfl; exact absurd (ho.1 rfl) h, k⟩
theorem truth (P : Prop) : ∃ ok : Bool, ok = true ↔ P := by by_cases h : P; exact ⟨true, by simp [h]⟩; exact ⟨false, by simp [h]⟩
theorem BIs.yes {P : Prop} {w w' : World} (h : P) (k : Below w.heap.size w w') : BIs P w w' (.returned (.bool true)) := ⟨⟨true, rfl, by simp [h]⟩, k⟩
theorem BIs.no {P : Prop} {w w' : World} (h : ¬ P) (k : Below w.heap.size w w') : BIs P w w' (.returned (.bool false)) := ⟨⟨false, rfl, by simp [h]⟩, k⟩
set_option maxRecDepth 20000 in
set_option maxHeartbeats 8000000 in
theorem fits_any (rows width : Int) (w : World) : Calls Tryz.prog 67 #[.int .i64 rows, .int .i64 width] w fun e w' => BIq (0 ≤ rows ∧ rows ≤ 128 ∧ 0 ≤ width ∧ width ≤ 128) w w' e := by
  by_cases h1 : 0 ≤ rows
  · by_cases h2 : rows ≤ 128
    · by_cases h3 : 0 ≤ width
      · by_cases h4 : width ≤ 128
        · go_enter Tryz.func67, Tryz.ntmps67
          go_wp2_with fail
          go_ret
          exact ⟨⟨true, rfl, by simp [h1, h2, h3, h4]⟩, rfl⟩
        · go_enter Tryz.func67, Tryz.ntmps67
          go_wp2_with fail
          go_ret
          exact ⟨⟨false, rfl, by simp; omega⟩, rfl⟩
      · go_enter Tryz.func67, Tryz.ntmps67
        go_wp2_with fail
        go_ret
        exact ⟨⟨false, rfl, by simp; omega⟩, rfl⟩
    · go_enter Tryz.func67, Tryz.ntmps67
      go_wp2_with fail
      go_ret
      exact ⟨⟨false, rfl, by simp; omega⟩, rfl⟩
  · go_enter Tryz.func67, Tryz.ntmps67
    go_wp2_with fail
    go_ret
    exact ⟨⟨false, rfl, by simp; omega⟩, rfl⟩
set_option maxRecDepth 20000 in
set_option maxHeartbeats 8000000 in
theorem sized_any (rows width : Int) (w : World) : Calls Tryz.prog 75 #[.int .i64 rows, .int .i64 width] w fun e w' => BIq (0 ≤ rows ∧ rows ≤ 128 ∧ 0 ≤ width ∧ width ≤ 128) w w' e := by
  by_cases h1 : 0 ≤ rows
  · by_cases h2 : rows ≤ 128
    · by_cases h3 : 0 ≤ width
      · by_cases h4 : width ≤ 128
        · go_enter Tryz.func75, Tryz.ntmps75
          go_wp2_with fail
          go_ret
          exact ⟨⟨true, rfl, by simp [h1, h2, h3, h4]⟩, rfl⟩
        · go_enter Tryz.func75, Tryz.ntmps75
          go_wp2_with fail
          go_ret
          exact ⟨⟨false, rfl, by simp; omega⟩, rfl⟩
      · go_enter Tryz.func75, Tryz.ntmps75
        go_wp2_with fail
        go_ret
        exact ⟨⟨false, rfl, by simp; omega⟩, rfl⟩
    · go_enter Tryz.func75, Tryz.ntmps75
      go_wp2_with fail
      go_ret
      exact ⟨⟨false, rfl, by simp; omega⟩, rfl⟩
  · go_enter Tryz.func75, Tryz.ntmps75
    go_wp2_with fail
    go_ret
    exact ⟨⟨false, rfl, by simp; omega⟩, rfl⟩
set_option maxRecDepth 20000 in
set_option maxHeartbeats 8000000 in
theorem within_any (a : Option Addr) (n c : Nat) (xs : List Int) (size : Int) (w : World) (h : SlI w a n c xs) (hn : n ≤ 140737488355328) (ok : Bool) (hok : ok = true ↔ InP size xs n) : Calls Tryz.prog 109 #[.slice a n c, .int .i64 size] w fun e w' => QI ok w w' e := by
  have HS := hide h
  have HOK := hide hok
  clear h hok
  go_enter Tryz.func109, Tryz.ntmps109
  go_wp2_with fail
  go_loopw [9, 6] (fun kv _ wr => ∃ k : Nat, k ≤ n ∧ kv = .int .i64 (k : Nat) ∧ Hid (∀ i, i < k → 0 ≤ xs.getD i 0 ∧ xs.getD i 0 < size) ∧ Hid (Dr w wr)) (fun kv _ _ => n - (intOf kv).toNat)
  case atStart => exact ⟨0, Nat.zero_le _, rfl, fun i hi => absurd hi (Nat.not_lt_zero _), Dr.refl _⟩
  case round =>
    obtain ⟨k, hk, rfl, HK, HW⟩ := hrel
    by_cases hlt : k < n
    · have hlt' : (k:Int) < (n:Int) := by omega
      obtain ⟨b, off, rfl, hc⟩ := ((unhide HS).below (unhide HW).below).at (by omega)
      have hx := hc k hlt
      obtain ⟨x, hxx⟩ : ∃ x, xs.getD k 0 = x := ⟨_, rfl⟩
      rw [hxx] at hx
      have HX := hide hxx
      clear hc hxx
      by_cases h0 : x < 0
      · go_wp2_with fail
        go_ret
        exact QI.no (unhide HOK) (fun z => by unfold InP at z; have := (z k hlt).1; have h9 := unhide HX; rw [h9] at this; omega) (unhide HW)
      · by_cases h1 : size ≤ x
        · go_wp2_with fail
          go_ret
          exact QI.no (unhide HOK) (fun z => by unfold InP at z; have := (z k hlt).2; have h9 := unhide HX; rw [h9] at this; omega) (unhide HW)
        · go_wp2_with fail
          refine ⟨⟨k + 1, by omega, by (first | rfl | go_num), hide fun i hi => ?_, HW⟩, by simp [intOf]; omega⟩
          rcases Nat.lt_or_eq_of_le (Nat.le_of_lt_succ hi) with e | e
          · exact unhide HK i e
          · rw [e, unhide HX]; omega
    · have hkn : k = n := by omega
      subst hkn
      have hlt' : ¬ (k:Int) < (k:Int) := by omega
      go_wp2_with fail
      go_ret
      exact QI.yes (unhide HOK) (unhide HK) (unhide HW)
set_option maxRecDepth 20000 in
set_option maxHeartbeats 8000000 in
theorem isRow_any (a : Option Addr) (n c : Nat) (xs : List Int) (width : Int) (w : World) (h : SlI w a n c xs) (hn : n ≤ 140737488355328) (ok : Bool) (hok : ok = true ↔ RowP width xs 0 n) : Calls Tryz.prog 69 #[.slice a n c, .int .i64 width] w fun e w' => QI ok w w' e := by
  have HS := hide h
  have HOK := hide hok
  obtain ⟨ok2, hok2⟩ := truth (InP width xs n)
  have HOK2 := hide hok2
  have KW := hide (fun (W : World) (k : Dr w W) => within_any a n c xs width W (h.below k.below) hn ok2 hok2)
  clear hok2
  clear h hok
  go_enter Tryz.func69, Tryz.ntmps69
  go_wp2_with fail
  go_loopw [5] (fun kv wr => ∃ k : Nat, 1 ≤ k ∧ (k ≤ n ∨ k = 1) ∧ kv = .int .i64 (k : Nat) ∧ Hid (∀ i, 0 < i → i < k → xs.getD (i - 1) 0 < xs.getD i 0) ∧ Hid (Dr w wr)) (fun kv _ => n - (intOf kv).toNat)
  case atStart => exact ⟨1, Nat.le_refl _, .inr rfl, rfl, fun i hi hi2 => by omega, Dr.refl _⟩
  case round =>
    obtain ⟨k, hk1, hk, rfl, HK, HW⟩ := hrel
    by_cases hlt : k < n
    · have hlt' : (k:Int) < (n:Int) := by omega
      obtain ⟨b, off, rfl, hc⟩ := ((unhide HS).below (unhide HW).below).at (by omega)
      obtain ⟨j, hj⟩ : ∃ j, k = j + 1 := ⟨k - 1, by omega⟩
      subst hj
      have hx := hc (j + 1) hlt
      have hy := hc j (by omega)
      obtain ⟨x, hxx⟩ : ∃ x, xs.getD (j + 1) 0 = x := ⟨_, rfl⟩
      obtain ⟨y, hyy⟩ : ∃ y, xs.getD j 0 = y := ⟨_, rfl⟩
      rw [hxx] at hx
      rw [hyy] at hy
      have HX := hide (And.intro hxx hyy)
      clear hc hxx hyy hk
      have hlt2 : (j:Int) + 1 < (n:Int) := by omega
      clear hlt'
      by_cases h0 : x ≤ y
      · go_wp2_with fail
        go_region
        all_goals go_wp2_with fail
        all_goals go_ret
        all_goals exact QI.no (unhide HOK) (fun z => by have h8 := z.up (j + 1) (by omega) hlt; have h9 := unhide HX; rw [h9.1, Nat.add_sub_cancel, h9.2] at h8; omega) (unhide HW).drew
      · go_wp2_with fail
        go_region
        all_goals go_wp2_with fail
        all_goals refine ⟨⟨j + 1 + 1, by omega, by omega, by (first | rfl | go_num), hide fun i hi hi2 => ?_, hide (unhide HW).drew⟩, by simp [intOf]; omega⟩
        all_goals rcases Nat.lt_or_eq_of_le (Nat.le_of_lt_succ hi2) with e | e
        all_goals first | exact unhide HK i hi e | (have h9 := unhide HX; subst e; rw [h9.1, Nat.add_sub_cancel, h9.2]; omega)
    · have hlt' : ¬ (k:Int) < (n:Int) := by omega
      go_wp2_with fail
      refine (unhide KW _ (unhide HW)).mono ?_
      rintro _ w3 ⟨rfl, d3⟩
      have HD := hide ((unhide HW).trans d3)
      clear d3
      go_wp2_with fail
      go_ret
      have hK := unhide HK
      refine ⟨?_, unhide HD⟩
      have : ok2 = ok := by
        have h1 := unhide HOK
        have h2 := unhide HOK2
        have h3 : InP width xs n ↔ RowP width xs 0 n := ⟨fun z => ⟨fun i _ hi => z i hi, fun i h1 h2 => hK i h1 (by omega)⟩, fun z i hi => z.rng i (Nat.zero_le _) hi⟩
        have h4 := (h2.trans h3).trans h1.symm
        cases ok2 <;> cases ok <;> simp_all
      show Ending.returned (Value.bool ok2) = _
      rw [this]
theorem wrapJ (x : Int) (h0 : -9223372036854775808 ≤ x) (h1 : x < 9223372036854775808) : IntKind.i64.wrap x = x := by
  have e : IntKind.i64.wrap x = (x + 9223372036854775808) % 18446744073709551616 - 9223372036854775808 := by
    simp [IntKind.wrap, IntKind.bits, IntKind.signed]
    split <;> omega
  rw [e]
  omega
theorem nan_int (x : Int) (w : World) : Calls Tryz.prog 137 #[.int .i64 x] w fun e w' => e = .returned (.bool false) ∧ w' = w := by
  go_enter Tryz.func137, Tryz.ntmps137
  go_wp2_with fail
  go_ret
  exact ⟨by simp, rfl⟩
theorem less_int (x y : Int) (w : World) : Calls Tryz.prog 108 #[.int .i64 x, .int .i64 y] w fun e w' => e = .returned (.bool (decide (x < y))) ∧ w' = w := by
  have H1 := hide (nan_int x w)
  go_enter Tryz.func108, Tryz.ntmps108
  go_wp2_with fail
  refine (unhide H1).mono ?_
  rintro _ _ ⟨rfl, hw⟩
  obtain rfl := hw.symm
  clear hw
  go_wp2_with fail
  go_ret
  exact ⟨rfl, rfl⟩
set_option maxRecDepth 20000 in
set_option maxHeartbeats 8000000 in
theorem isSorted_any (a : Option Addr) (n c : Nat) (xs : List Int) (w : World) (h : SlI w a n c xs) (hn : n ≤ 140737488355328) (ok : Bool) (hok : ok = true ↔ SortP xs 0) : Calls Tryz.prog 68 #[.slice a n c] w fun e w' => QI ok w w' e := by
  have HL := hide h.len
  have HS := hide h
  have HOK := hide hok
  have KL := hide (fun (x y : Int) (W : World) => less_int x y W)
  clear h hok
  go_enter Tryz.func68, Tryz.ntmps68
  go_wp2_with fail
  go_loopw [3] (fun iv wr => ∃ q : Nat, q ≤ n ∧ iv = .int .i64 ((q : Int) - 1) ∧ Hid (SortP xs (q - 1)) ∧ Hid (Dr w wr)) (fun iv _ => ((intOf iv) + 1).toNat)
  case atStart => exact ⟨n, Nat.le_refl _, rfl, hide (fun i h1 h2 => by have := unhide HL; omega), Dr.refl _⟩
  case round =>
    obtain ⟨q, hq, rfl, HK, HW⟩ := hrel
    by_cases h2 : 2 ≤ q
    · obtain ⟨j, hj⟩ : ∃ j, q = j + 2 := ⟨q - 2, by omega⟩
      subst hj
      have ej : ((j + 2 : Nat) : Int) - 1 = (j : Int) + 1 := by omega
      rw [ej]
      have HEJ := hide ej
      obtain ⟨b, off, rfl, hc⟩ := ((unhide HS).below (unhide HW).below).at (by omega)
      have hx := hc (j + 1) (by omega)
      have hy := hc j (by omega)
      obtain ⟨x, hxx⟩ : ∃ x, xs.getD (j + 1) 0 = x := ⟨_, rfl⟩
      obtain ⟨y, hyy⟩ : ∃ y, xs.getD j 0 = y := ⟨_, rfl⟩
      rw [hxx] at hx
      rw [hyy] at hy
      have HX := hide (And.intro hxx hyy)
      have hlt2 : (j:Int) + 1 < (n:Int) := by omega
      have h0 : (0:Int) < (j:Int) + 1 := by omega
      have hjj : IntKind.i64.wrap ((j:Int) + 1 - 1) = (j:Int) := by rw [wrapJ _ (by omega) (by omega)]; omega
      have hlt3 : (j:Int) < (n:Int) := by omega
      have hj0 : (0:Int) ≤ (j:Int) := by omega
      clear hc hxx hyy ej h2
      by_cases hl : x < y
      · have KX := hide (fun (W : World) => (show Calls Tryz.prog 108 #[.int .i64 x, .int .i64 y] W fun e w' => e = .returned (.bool true) ∧ w' = W from by have := less_int x y W; rwa [decide_eq_true hl] at this))
        have HLL := hide hl
        clear hl
        go_wp2_with fail
        go_quiet ((go_at_call 108; exact Calls.quiet_of_same (unhide KX _)))
        all_goals go_wp2_with fail
        all_goals go_ret
        all_goals exact QI.no (unhide HOK) (fun z => by have h8 := z j (Nat.zero_le _) (by have := unhide HL; omega); have h9 := unhide HX; rw [h9.1, h9.2] at h8; have := unhide HLL; omega) ((unhide HW).n _)
      · have KX := hide (fun (W : World) => (show Calls Tryz.prog 108 #[.int .i64 x, .int .i64 y] W fun e w' => e = .returned (.bool false) ∧ w' = W from by have := less_int x y W; rwa [decide_eq_false hl] at this))
        have HLL := hide hl
        clear hl
        go_wp2_with fail
        go_quiet ((go_at_call 108; exact Calls.quiet_of_same (unhide KX _)))
        all_goals go_wp2_with fail
        all_goals refine ⟨⟨j + 1, by omega, by (first | rfl | go_num | (congr 1; omega)), hide fun i hi hi2 => ?_, hide ((unhide HW).n _)⟩, by simp [intOf]; omega⟩
        all_goals by_cases e : i = j
        · subst e
          have h9 := unhide HX
          rw [h9.1, h9.2]
          have := unhide HLL
          omega
        · exact unhide HK i (by omega) hi2
    · have h0 : ¬ (0:Int) < (q:Int) - 1 := by omega
      go_wp2_with fail
      go_ret
      exact QI.yes (unhide HOK) (fun i _ hi => unhide HK i (by omega) hi) (unhide HW)
def UpS (xs : List Int) (n : Nat) : Prop := ∀ i, 0 < i → i < n → xs.getD (i - 1) 0 < xs.getD i 0
theorem UpS.lt {xs : List Int} {n : Nat} (h : UpS xs n) {i : Nat} : ∀ d, i + d + 1 < n → xs.getD i 0 < xs.getD (i + d + 1) 0
  | 0, hd => by have := h (i + 1) (by omega) (by omega); simpa using this
  | d + 1, hd => by
    have h1 := UpS.lt h d (by omega : i + d + 1 < n)
    have h2 := h (i + (d + 1) + 1) (by omega) hd
    rw [show i + (d + 1) + 1 - 1 = i + d + 1 by omega] at h2
    exact Int.lt_trans h1 h2
theorem UpS.lt' {xs : List Int} {n : Nat} (h : UpS xs n) {i j : Nat} (hij : i < j) (hj : j < n) : xs.getD i 0 < xs.getD j 0 := by
  have := h.lt (i := i) (j - i - 1) (by omega)
  rwa [show i + (j - i - 1) + 1 = j by omega] at this
def HasX (xs : List Int) (n : Nat) (t : Int) : Prop := ∃ k, k < n ∧ xs.getD k 0 = t
structure BsP (xs : List Int) (n : Nat) (t : Int) (i : Nat) : Prop where
  le : i ≤ n
  lo : ∀ k, k < i → xs.getD k 0 < t
  hi : ∀ k, i ≤ k → k < n → t ≤ xs.getD k 0
theorem BsP.has {xs : List Int} {n : Nat} {t : Int} {i : Nat} (h : BsP xs n t i) (hu : UpS xs n) (hl : i < n) : HasX xs n t ↔ xs.getD i 0 = t := by
  constructor
  · rintro ⟨k, hk, e⟩
    rcases Nat.lt_trichotomy k i with c | c | c
    · have := h.lo k c; omega
    · rw [← c]; exact e
    · have h1 := hu.lt' c hk
      have h2 := h.hi i (Nat.le_refl _) hl
      omega
  · intro e
    exact ⟨i, hl, e⟩
theorem BsP.no {xs : List Int} {n : Nat} {t : Int} (h : BsP xs n t n) : ¬ HasX xs n t := by
  rintro ⟨k, hk, e⟩
  have := h.lo k hk
  omega
theorem BsP.ex (xs : List Int) (t : Int) : ∀ n, UpS xs n → ∃ i, BsP xs n t i
  | 0, _ => ⟨0, Nat.le_refl _, fun k hk => absurd hk (Nat.not_lt_zero _), fun k _ hk => absurd hk (Nat.not_lt_zero _)⟩
  | n + 1, hu => by
    obtain ⟨i, h⟩ := BsP.ex xs t n (fun i h1 h2 => hu i h1 (by omega))
    by_cases hl : i < n
    · refine ⟨i, by have := h.le; omega, h.lo, fun k h1 h2 => ?_⟩
      by_cases e : k = n
      · have h3 := hu.lt' (i := i) (j := n) hl (by omega)
        have h4 := h.hi i (Nat.le_refl _) hl
        rw [e]; omega
      · exact h.hi k h1 (by omega)
    · have e : i = n := by have := h.le; omega
      subst e
      by_cases c : xs.getD i 0 < t
      · refine ⟨i + 1, by omega, fun k hk => ?_, fun k h1 h2 => by omega⟩
        by_cases e : k = i
        · rw [e]; exact c
        · exact h.lo k (by omega)
      · refine ⟨i, by omega, h.lo, fun k h1 h2 => ?_⟩
        rw [show k = i by omega]; omega
theorem BsP.one {xs : List Int} {n : Nat} {t : Int} {i j : Nat} (h : BsP xs n t i) (k : BsP xs n t j) : i = j := by
  rcases Nat.lt_trichotomy i j with c | c | c
  · have h1 := h.hi i (Nat.le_refl _) (by have := k.le; omega)
    have h2 := k.lo i c
    omega
  · exact c
  · have h1 := k.hi j (Nat.le_refl _) (by have := h.le; omega)
    have h2 := h.lo j c
    omega
theorem nan_intS (x : Int) (w : World) : Calls Tryz.prog 110 #[.int .i64 x] w fun e w' => e = .returned (.bool false) ∧ w' = w := by
  go_enter Tryz.func110, Tryz.ntmps110
  go_wp2_with fail
  go_ret
  exact ⟨by simp, rfl⟩
set_option maxRecDepth 20000 in
set_option maxHeartbeats 8000000 in
theorem bsearch_any (a : Option Addr) (n c : Nat) (xs : List Int) (t : Int) (w : World) (h : SlI w a n c xs) (hn : n ≤ 140737488355328) (hu : UpS xs n) (ok : Bool) (hok : ok = true ↔ HasX xs n t) :
    Calls Tryz.prog 70 #[.slice a n c, .int .i64 t] w fun e w' => ∃ i : Nat, BsP xs n t i ∧ e = .returned (.tuple #[.int .i64 (i : Int), .bool ok]) ∧ Dr w w' := by
  have HL := hide h.len
  have HS := hide h
  have HU := hide hu
  have HOK := hide hok
  clear h hu hok
  go_enter Tryz.func70, Tryz.ntmps70
  go_wp2_with fail
  go_loopw [7, 8] (fun iv jv wr => ∃ i j : Nat, i ≤ j ∧ j ≤ n ∧ iv = .int .i64 (i : Int) ∧ jv = .int .i64 (j : Int) ∧ Hid (∀ k, k < i → xs.getD k 0 < t) ∧ Hid (∀ k, j ≤ k → k < n → t ≤ xs.getD k 0) ∧ Hid (Dr w wr)) (fun iv jv _ => ((intOf jv) - (intOf iv)).toNat)
  case atStart => exact ⟨0, n, Nat.zero_le _, Nat.le_refl _, rfl, rfl, hide (fun k hk => by omega), hide (fun k h1 h2 => by omega), Dr.refl _⟩
  case round =>
    obtain ⟨i, j, hij, hj, rfl, rfl, HA, HB, HW⟩ := hrel
    by_cases hlt : i < j
    · have hlt' : (i : Int) < (j : Int) := by omega
      obtain ⟨m, hm⟩ : ∃ m, (i + j) / 2 = m := ⟨_, rfl⟩
      have hm1 : i ≤ m ∧ m < j := by omega
      obtain ⟨b, off, rfl, hc⟩ := ((unhide HS).below (unhide HW).below).at (by omega)
      have hx := hc m (by omega)
      obtain ⟨x, hxx⟩ : ∃ x, xs.getD m 0 = x := ⟨_, rfl⟩
      rw [hxx] at hx
      have HX := hide hxx
      obtain ⟨q, hq⟩ : ∃ q, i + j = q := ⟨_, rfl⟩
      have hs3 : (i : Int) + (j : Int) = (q : Int) := by omega
      have hs2 : (q : Int) / 2 = (m : Int) := by omega
      have hq1 : q ≤ 2 * n := by omega
      clear hq hm
      have hm0 : (m : Int) < (n : Int) := by omega
      have HM := hide hm1
      have KX := hide (fun (W : World) => less_int x t W)
      clear hc hxx
      by_cases hl : x < t
      · have KX := hide (fun (W : World) => (show Calls Tryz.prog 108 #[.int .i64 x, .int .i64 t] W fun e w' => e = .returned (.bool true) ∧ w' = W from by have := less_int x t W; rwa [decide_eq_true hl] at this))
        have HLL := hide hl
        clear hl hm1
        go_wp2_with fail
        refine (unhide KX _).mono ?_
        rintro _ _ ⟨rfl, hw⟩
        obtain rfl := hw.symm
        clear hw
        go_wp2_with fail
        refine ⟨⟨m + 1, j, by have := unhide HM; omega, hj, by go_num, rfl, hide fun k hk => ?_, HB, HW⟩, by have := unhide HM; simp [intOf]; omega⟩
        rcases Nat.lt_or_ge k m with c | c
        · have := (unhide HU).lt' c (by have := unhide HM; omega)
          rw [unhide HX] at this
          exact Int.lt_trans this (unhide HLL)
        · rw [show k = m by omega, unhide HX]; exact unhide HLL
      · have KX := hide (fun (W : World) => (show Calls Tryz.prog 108 #[.int .i64 x, .int .i64 t] W fun e w' => e = .returned (.bool false) ∧ w' = W from by have := less_int x t W; rwa [decide_eq_false hl] at this))
        have HLL := hide hl
        clear hl hm1
        go_wp2_with fail
        refine (unhide KX _).mono ?_
        rintro _ _ ⟨rfl, hw⟩
        obtain rfl := hw.symm
        clear hw
        go_wp2_with fail
        refine ⟨⟨i, m, by have := unhide HM; omega, by have := unhide HM; omega, rfl, rfl, HA, hide fun k hk hk2 => ?_, HW⟩, by have := unhide HM; simp [intOf]; omega⟩
        rcases Nat.lt_or_ge m k with c | c
        · have h1 := (unhide HU).lt' c hk2
          rw [unhide HX] at h1
          have := unhide HLL
          omega
        · rw [show k = m by omega, unhide HX]; have := unhide HLL; omega
    · have hij2 : i = j := by omega
      subst hij2
      have HP := hide (show BsP xs n t i from ⟨hj, unhide HA, unhide HB⟩)
      have hlt' : ¬ (i : Int) < (i : Int) := by omega
      have KN := hide (fun (x : Int) (W : World) => nan_intS x W)
      by_cases hin : i < n
      · have hin' : (i : Int) < (n : Int) := by omega
        obtain ⟨b, off, rfl, hc⟩ := ((unhide HS).below (unhide HW).below).at (by omega)
        have hx := hc i hin
        obtain ⟨x, hxx⟩ : ∃ x, xs.getD i 0 = x := ⟨_, rfl⟩
        rw [hxx] at hx
        have HX := hide (And.intro hxx hin)
        clear hc hxx
        by_cases he : x = t
        · have he' : (x == t) = true := by simp [he]
          have HE := hide he
          clear he
          go_wp2_with fail
          refine bodyPost_ret (by simp [results, Tryz.results70, go_sem]; try rfl) rfl ?_
          exact ⟨i, unhide HP, by rw [(unhide HOK).2 (((unhide HP).has (unhide HU) (unhide HX).2).2 ((unhide HX).1.trans (unhide HE)))], unhide HW⟩
        · have he' : (x == t) = false := by simp [he]
          have HE := hide he
          clear he
          go_wp2_with fail
          refine (unhide KN _ _).mono ?_
          rintro _ _ ⟨rfl, hw⟩
          obtain rfl := hw.symm
          clear hw
          go_wp2_with fail
          refine bodyPost_ret (by simp [results, Tryz.results70, go_sem]; try rfl) rfl ?_
          refine ⟨i, unhide HP, ?_, unhide HW⟩
          cases hk : ok
          · rfl
          · exact absurd ((unhide HX).1.symm.trans (((unhide HP).has (unhide HU) (unhide HX).2).1 ((unhide HOK).1 hk))) (unhide HE)
      · have hin' : ¬ (i : Int) < (n : Int) := by omega
        have HI := hide (show i = n by omega)
        clear hin
        go_wp2_with fail
        refine bodyPost_ret (by simp [results, Tryz.results70, go_sem]; try rfl) rfl ?_
        refine ⟨i, unhide HP, ?_, unhide HW⟩
        cases hk : ok
        · rfl
        · exact absurd ((unhide HOK).1 hk) (by have := unhide HP; rw [unhide HI] at this; exact this.no)
def QB (i : Nat) (ok : Bool) (w w' : World) (e : Ending) : Prop := e = .returned (.tuple #[.int .i64 (i : Int), .bool ok]) ∧ Dr w w'
theorem bsearch_known (a : Option Addr) (n c : Nat) (xs : List Int) (t : Int) (w : World) (h : SlI w a n c xs) (hn : n ≤ 140737488355328) (hu : UpS xs n) (ok : Bool) (hok : ok = true ↔ HasX xs n t) (i : Nat) (hi : BsP xs n t i) :
    Calls Tryz.prog 70 #[.slice a n c, .int .i64 t] w fun e w' => QB i ok w w' e := by
  refine (bsearch_any a n c xs t w h hn hu ok hok).mono ?_
  rintro e w' ⟨j, hj, rfl, hd⟩
  rw [hj.one hi]
  exact ⟨rfl, hd⟩
def valsI (xs : List Int) : List Value := xs.map (fun x => Value.int .i64 x)
theorem Tryz.info_i64 : (Tryz.prog.info? 3).map (fun i => (i.zero, i.size, i.bytes)) = some (some (.int .i64 0), 1, 8) := by kernel_rfl
theorem make_n3I (n : Nat) (hn : n ≤ 17592186044400) (w : World) : (Instr.makeSlice 23 (.int .i64 (n : Int)) (.int .i64 ((n : Int) + 3))).run Tryz.prog w = .ok (.slice (some ⟨w.heap.size, 0, none⟩) n (n + 3)) (w.alloc (.cells (madeCells #[.int .i64 0] (n + 3)) 3)) := by
  obtain ⟨i, hi, hzz⟩ := Option.map_eq_some_iff.1 Tryz.info_i64
  simp only [Prod.mk.injEq] at hzz
  obtain ⟨hz, hs, hb⟩ := hzz
  have hr := run_make (P := Tryz.prog) w 23 3 i (.int .i64 0) Tryz.underlying23 hi hz .i64 .i64 n ((n : Int) + 3) (by omega) (by omega) (by rw [hb]; omega) (by omega)
  rw [hs, Nat.mul_one, show ((n : Int) + 3).toNat = n + 3 from by omega, show ((n : Int)).toNat = n from by omega] at hr
  exact hr

theorem copy_stepI {wr w : World} {n k : Nat} {cur : Array Value} {xs : List Int} (hblk : wr.heap[w.heap.size]? = some (.cells cur 3)) (hsz : cur.size = n + 3) (hk : k < n)
    (hpre : ∀ i, i < k → cur[i]? = some (.int .i64 (xs.getD i 0))) :
    ∃ cur', (wr.setCell ⟨w.heap.size, k, none⟩ (.int .i64 (xs.getD k 0))).heap[w.heap.size]? = some (.cells cur' 3) ∧ cur'.size = n + 3 ∧ ∀ i, i < k + 1 → cur'[i]? = some (.int .i64 (xs.getD i 0)) := by
  refine ⟨_, set_block hblk k _, by simp [hsz], ?_⟩
  intro i hi
  by_cases e : i = k
  · subst e; simp [show i < cur.size from by omega]
  · rw [Array.getElem?_setIfInBounds_ne (by omega)]; exact hpre i (by omega)

set_option maxHeartbeats 800000 in
theorem copy_someI (b off n c : Nat) (xs : List Int) (w : World) (hn : xs.length = n) (hcm : n ≤ 17592186044400) (hc : CellsI w b off xs) :
    Calls Tryz.prog 24 #[.slice (some ⟨b, off, none⟩) n c] w fun e w' => ∃ cur, e = .returned (.slice (some ⟨w.heap.size, 0, none⟩) n (n + 3)) ∧ w'.heap[w.heap.size]? = some (.cells cur 3) ∧ cur.size = n + 3 ∧ (∀ i, i < n → cur[i]? = some (.int .i64 (xs.getD i 0))) ∧ w'.heap.size = w.heap.size + 1 ∧ Below w.heap.size w w' := by
  have hmk := make_n3I n hcm
  go_enter Tryz.func24, Tryz.ntmps24
  go_wp2
  go_loopw [4] (fun i wr => ∃ k : Nat, k ≤ n ∧ i = .int .i64 k ∧ (∃ cur, wr.heap[w.heap.size]? = some (.cells cur 3) ∧ cur.size = n + 3 ∧ ∀ i, i < k → cur[i]? = some (.int .i64 (xs.getD i 0))) ∧ wr.heap.size = w.heap.size + 1 ∧ Below w.heap.size w wr) (fun i _ => n - (intOf i).toNat)
  case atStart => exact ⟨0, Nat.zero_le _, rfl, ⟨_, alloc_block _ _, size_madeCells _ _, fun i hi => absurd hi (Nat.not_lt_zero _)⟩, by simp, (Below.refl _ _).alloc (Nat.le_refl _) _⟩
  case round =>
    obtain ⟨k, hk, rfl, ⟨cur, hblk, hsz, hpre⟩, hhs, hbel⟩ := hrel
    by_cases hlt : k < n
    · have hlt' : (k:Int) < (n:Int) := by omega
      have g1 : wr.cell? ⟨w.heap.size, k, none⟩ = some cur[k]! := by rw [cell_of_block hblk]; simp [show k < cur.size from by omega]
      have g2 := frozen_of_block hblk k
      have g3 := hc k (by omega)
      have g4 : wr.cell? ⟨b, off + k, none⟩ = _ := (hbel.cell (World.block_lt_of_cell? _ _ g3)).trans g3
      have HS := hide (copy_stepI hblk hsz hlt hpre)
      have HB := hide (hbel.setCell (p := ⟨w.heap.size, k, none⟩) (Nat.le_refl _) (.int .i64 (xs.getD k 0)))
      have HH := hide hhs
      generalize xs.getD k 0 = x at g3 g4 HS HB
      clear hblk hsz hpre hbel g3 hhs
      go_wp2
      refine ⟨⟨k + 1, by omega, by go_num, by simpa using unhide HS, by simpa using unhide HH, unhide HB⟩, by simp [intOf]; omega⟩
    · have HS := hide hpre
      have HB := hide hblk
      have HZ := hide hsz
      have HH := hide hhs
      clear hpre hblk hsz hhs
      go_wp2
      go_ret
      exact ⟨cur, rfl, unhide HB, unhide HZ, fun i hi => unhide HS i (by omega), unhide HH, hbel⟩

set_option maxHeartbeats 800000 in
theorem copy_nilI (a : Option Addr) (c : Nat) (w : World) :
    Calls Tryz.prog 24 #[.slice a 0 c] w fun e w' => ∃ cur, e = .returned (.slice (some ⟨w.heap.size, 0, none⟩) 0 3) ∧ w'.heap[w.heap.size]? = some (.cells cur 3) ∧ cur.size = 3 ∧ w'.heap.size = w.heap.size + 1 ∧ Below w.heap.size w w' := by
  have hmk : ∀ w, (Instr.makeSlice 23 (.int .i64 0) (.int .i64 3)).run Tryz.prog w = .ok (.slice (some ⟨w.heap.size, 0, none⟩) 0 3) (w.alloc (.cells (madeCells #[.int .i64 0] 3) 3)) := fun w => make_n3I 0 (by omega) w
  go_enter Tryz.func24, Tryz.ntmps24
  go_wp2
  go_loopw [4] (fun i wr => i = .int .i64 0 ∧ (∃ cur, wr.heap[w.heap.size]? = some (.cells cur 3) ∧ cur.size = 3) ∧ wr.heap.size = w.heap.size + 1 ∧ Below w.heap.size w wr) (fun i _ => (intOf i).toNat)
  case atStart => exact ⟨rfl, ⟨_, alloc_block _ _, size_madeCells _ _⟩, by simp, (Below.refl _ _).alloc (Nat.le_refl _) _⟩
  case round =>
    obtain ⟨rfl, ⟨cur, hblk, hsz⟩, hhs, hbel⟩ := hrel
    have HB := hide hblk
    have HZ := hide hsz
    have HH := hide hhs
    clear hblk hsz hhs
    go_wp2
    go_ret
    exact ⟨cur, rfl, unhide HB, unhide HZ, unhide HH, hbel⟩

theorem copy_anyI (a : Option Addr) (n c : Nat) (xs : List Int) (w : World) (h : SlI w a n c xs) (hb : n ≤ 17592186044400) :
    Calls Tryz.prog 24 #[.slice a n c] w fun e w' => ∃ cur, e = .returned (.slice (some ⟨w.heap.size, 0, none⟩) n (n + 3)) ∧ w'.heap[w.heap.size]? = some (.cells cur 3) ∧ cur.size = n + 3 ∧ (∀ i, i < n → cur[i]? = some (.int .i64 (xs.getD i 0))) ∧ w'.heap.size = w.heap.size + 1 ∧ Below w.heap.size w w' := by
  have hl := h.len
  rcases h.cells with h0 | ⟨b, off, rfl, hc⟩
  · subst h0
    simp at hl
    subst hl
    refine (copy_nilI a c w).mono ?_
    rintro e w' ⟨cur, rfl, h1, h2, h3, h4⟩
    exact ⟨cur, rfl, h1, h2, fun i hi => absurd hi (Nat.not_lt_zero _), h3, h4⟩
  · exact copy_someI b off n c xs w hl hb hc
theorem CellsI.chg {S : Nat → Prop} {w w' : World} {b off : Nat} {xs : List Int} (h : CellsI w b off xs) (k : Chg S w w') (hs : ¬ S b) : CellsI w' b off xs :=
  fun i hi => k.cell hs (h i hi)

theorem SlI.chg {S : Nat → Prop} {w w' : World} {a : Option Addr} {n c : Nat} {xs : List Int} (h : SlI w a n c xs) (k : Chg S w w') (hs : ∀ x, a = some x → xs ≠ [] → ¬ S x.block) : SlI w' a n c xs :=
  ⟨h.len, h.le, h.cap, h.cells.elim .inl (fun ⟨b, off, e, kk⟩ => by
    by_cases hx : xs = []
    · exact .inl hx
    · exact .inr ⟨b, off, e, kk.chg k (hs _ e hx)⟩)⟩

theorem SlI.block_lt {w : World} {a : Option Addr} {n c : Nat} {xs : List Int} (h : SlI w a n c xs) (hx : xs ≠ []) : ∀ x, a = some x → x.block < w.heap.size := by
  intro x hx'
  rcases h.cells with e | ⟨b, off, e, kk⟩
  · exact absurd e hx
  · rw [e] at hx'
    cases hx'
    have := kk 0 (by cases xs with | nil => exact absurd rfl hx | cons => simp)
    exact World.block_lt_of_cell? _ _ this

structure EntI where
  b : Nat
  c : Nat
  b0 : Nat
  c0 : Nat
  xs : List Int

def marksI : List Int := [-41, -42, -43]
def EntI.v (e : EntI) : Value := .slice (some ⟨e.b, 0, none⟩) (e.xs.length + 3) e.c
def EntI.v0 (e : EntI) : Value := .slice (some ⟨e.b0, 0, none⟩) (e.xs.length + 3) e.c0

structure EntOkI (w : World) (B : Nat) (v0 v1 : Value) (e : EntI) : Prop where
  sl : SlI w (some ⟨e.b, 0, none⟩) (e.xs.length + 3) e.c (e.xs ++ marksI)
  sl0 : SlI w (some ⟨e.b0, 0, none⟩) (e.xs.length + 3) e.c0 (e.xs ++ marksI)
  s : ¬ Own B v0 v1 e.b
  s0 : ¬ Own B v0 v1 e.b0

structure GivI (w : World) (B : Nat) (v0 v1 : Value) (es : List EntI) (rs : Nat → Value) : Prop where
  blk : ∃ cur, w.heap[B]? = some (.cells cur 65) ∧ cur.size = 20 ∧ cur[4]? = some v0 ∧ cur[5]? = some v1 ∧ ∀ i, i ≠ 4 ∧ i ≠ 5 → i < 20 → cur[i]? = some (rs i)
  own0 : w.ownsRow (B + 1) 23 1 v0 es.length (es.map EntI.v)
  own1 : w.ownsRow (B + 1) 23 1 v1 es.length (es.map EntI.v0)
  apart : ∀ k, v0.ownBlock = some k → v1.ownBlock ≠ some k
  ents : ∀ e ∈ es, EntOkI w B v0 v1 e

theorem GivI.chg {S : Nat → Prop} {w w' : World} {B : Nat} {v0 v1 : Value} {es : List EntI} {rs : Nat → Value} (h : GivI w B v0 v1 es rs) (k : Chg S w w') (hB : ¬ S B) (h0 : ∀ k, v0.ownBlock = some k → ¬ S k) (h1 : ∀ k, v1.ownBlock = some k → ¬ S k)
    (hes : ∀ e ∈ es, ¬ S e.b ∧ ¬ S e.b0) : GivI w' B v0 v1 es rs := by
  obtain ⟨cur, hc, hr⟩ := h.blk
  have hlt : B < w.heap.size := by
    rcases Nat.lt_or_ge B w.heap.size with hlt | hge
    · exact hlt
    · rw [Array.getElem?_eq_none hge] at hc; cases hc
  refine ⟨⟨cur, by rw [k.block B hlt hB]; exact hc, hr⟩, ownsRow_chg h.own0 k h0, ownsRow_chg h.own1 k h1, h.apart, fun e he => ?_⟩
  have := h.ents e he
  exact ⟨this.sl.chg k (fun x hx _ => by cases hx; exact (hes e he).1), this.sl0.chg k (fun x hx _ => by cases hx; exact (hes e he).2), this.s, this.s0⟩

theorem GivI.below {w w' : World} {B : Nat} {v0 v1 : Value} {es : List EntI} {rs : Nat → Value} (h : GivI w B v0 v1 es rs) (k : Below w.heap.size w w') : GivI w' B v0 v1 es rs :=
  h.chg (S := fun _ => False) (.of_below k) id (fun _ _ => id) (fun _ _ => id) (fun _ _ => ⟨id, id⟩)

theorem GivI.cell0 {w : World} {B : Nat} {v0 v1 : Value} {es : List EntI} {rs : Nat → Value} (h : GivI w B v0 v1 es rs) : w.cell? ⟨B, 4, none⟩ = some v0 ∧ w.cell? ⟨B, 5, none⟩ = some v1 ∧ w.frozen? ⟨B, 4, none⟩ = false ∧ w.frozen? ⟨B, 5, none⟩ = false ∧ B < w.heap.size := by
  obtain ⟨cur, hc, hr⟩ := h.blk
  have e0 : w.cell? ⟨B, 4, none⟩ = some v0 := by rw [cell_of_block hc]; exact hr.2.1
  exact ⟨e0, by rw [cell_of_block hc]; exact hr.2.2.1, frozen_of_block hc _, frozen_of_block hc _, World.block_lt_of_cell? _ _ e0⟩
end Go.Proofs.YtgjokididdffhaaGreat
