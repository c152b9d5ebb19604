/-
  bitset.Compare: its contract.
-/
import Derived.Test.YtbendkndnojihaaBt1
import Derived.Test.YtbendkndnojihaaBc2
import Derived.Test.YtbendkndnojihaaBta
import Derived.Test.YtbendkndnojihaaBth
import Derived.Test.YtbendkndnojihaaBl0
namespace Go.Proofs.Ytbendkndnojihaa
set_option linter.unusedVariables false

/-- The greatest number below n in which two sets part tells which is the greater. -/
def cmpB (P Q : Nat → Bool) : Nat → Int
  | 0 => 0
  | e + 1 => if P e = Q e then cmpB P Q e else if P e = true then 1 else -1
/-- The same by words. -/
def cmpW (f g : Nat → Nat) : Nat → Int
  | 0 => 0
  | i + 1 => if f i = g i then cmpW f g i else if f i < g i then -1 else 1

theorem cmpB_congr {P Q P' Q' : Nat → Bool} : ∀ {n : Nat}, (∀ x, x < n → P x = P' x) → (∀ x, x < n → Q x = Q' x) → cmpB P Q n = cmpB P' Q' n
  | 0, _, _ => rfl
  | n + 1, h, k => by
    simp only [cmpB]
    rw [h n (by omega), k n (by omega), cmpB_congr (fun x hx => h x (by omega)) (fun x hx => k x (by omega))]
/-- Above n the two are alike. -/
theorem cmpB_top {P Q : Nat → Bool} (n : Nat) : ∀ m, (∀ x, n ≤ x → x < n + m → P x = Q x) → cmpB P Q (n + m) = cmpB P Q n
  | 0, _ => rfl
  | m + 1, h => by
    show cmpB P Q (n + m + 1) = _
    simp only [cmpB]
    rw [if_pos (h (n + m) (by omega) (by omega))]
    exact cmpB_top n m (fun x h1 h2 => h x h1 (by omega))
theorem cmpB_at {P Q : Nat → Bool} {n e : Nat} (he : e < n) (hd : P e ≠ Q e) (h : ∀ x, e < x → x < n → P x = Q x) : cmpB P Q n = if P e = true then 1 else -1 := by
  obtain ⟨m, rfl⟩ : ∃ m, n = e + 1 + m := ⟨n - (e + 1), by omega⟩
  rw [cmpB_top (e + 1) m (fun x h1 h2 => h x (by omega) h2)]
  simp only [cmpB]
  rw [if_neg hd]
theorem word_top {x y : Nat} (hx : x < 18446744073709551616) (hy : y < 18446744073709551616) (h : x ≠ y) : ∃ j, j < 64 ∧ x.testBit j ≠ y.testBit j ∧ ∀ k, j < k → x.testBit k = y.testBit k := by
  have e64 : (2:Nat) ^ 64 = 18446744073709551616 := by decide
  have big : ∀ z k, z < 18446744073709551616 → 64 ≤ k → z.testBit k = false := fun z k hz hk => by
    apply Nat.testBit_lt_two_pow
    have : (2:Nat) ^ 64 ≤ 2 ^ k := Nat.pow_le_pow_right (by decide) hk
    omega
  have key : ∀ m, m ≤ 64 → (∀ k, m ≤ k → x.testBit k = y.testBit k) → ∃ j, j < 64 ∧ x.testBit j ≠ y.testBit j ∧ ∀ k, j < k → x.testBit k = y.testBit k := by
    intro m
    induction m with
    | zero => intro _ hh; exact absurd (Nat.eq_of_testBit_eq (fun k => hh k (Nat.zero_le _))) h
    | succ m ih =>
      intro hm hh
      by_cases e : x.testBit m = y.testBit m
      · refine ih (by omega) (fun k hk => ?_)
        by_cases ek : k = m
        · subst ek; exact e
        · exact hh k (by omega)
      · exact ⟨m, by omega, e, fun k hk => hh k hk⟩
  exact key 64 (Nat.le_refl _) (fun k hk => by rw [big x k hx hk, big y k hy hk])
theorem lt_of_tb {x y : Nat} (j : Nat) (hx : x.testBit j = false) (hy : y.testBit j = true) (h : ∀ k, j < k → x.testBit k = y.testBit k) : x < y := by
  have hd : x / 2 ^ (j + 1) = y / 2 ^ (j + 1) := by
    apply Nat.eq_of_testBit_eq
    intro k
    rw [Nat.testBit_div_two_pow, Nat.testBit_div_two_pow]
    exact h _ (by omega)
  rw [Nat.testBit_eq_decide_div_mod_eq] at hx hy
  simp at hx hy
  have px := Nat.two_pow_pos j
  rw [Nat.pow_succ, ← Nat.div_div_eq_div_mul, ← Nat.div_div_eq_div_mul] at hd
  have dx := Nat.div_add_mod x (2 ^ j)
  have dy := Nat.div_add_mod y (2 ^ j)
  have mx := Nat.mod_lt x px
  have hl : x / 2 ^ j + 1 ≤ y / 2 ^ j := by omega
  have := Nat.mul_le_mul_left (2 ^ j) hl
  rw [Nat.mul_add] at this
  omega
theorem word_lt {x y j : Nat} (hd : x.testBit j ≠ y.testBit j) (h : ∀ k, j < k → x.testBit k = y.testBit k) : (x < y) ↔ x.testBit j = false := by
  constructor
  · intro hl
    cases hx : x.testBit j
    · rfl
    · have hy : y.testBit j = false := by cases hy : y.testBit j <;> simp_all
      have := lt_of_tb j hy hx (fun k hk => (h k hk).symm)
      omega
  · intro hx
    have hy : y.testBit j = true := by cases hy : y.testBit j <;> simp_all
    exact lt_of_tb j hx hy h
theorem cmpW_eq {f g : Nat → Nat} : ∀ {n : Nat}, (∀ i, i < n → f i < 18446744073709551616) → (∀ i, i < n → g i < 18446744073709551616) → cmpW f g n = cmpB (hasB f) (hasB g) (64 * n)
  | 0, _, _ => rfl
  | n + 1, hf, hg => by
    simp only [cmpW]
    by_cases e : f n = g n
    · rw [if_pos e, cmpW_eq (fun i hi => hf i (by omega)) (fun i hi => hg i (by omega)), show 64 * (n + 1) = 64 * n + 64 from by omega]
      refine (cmpB_top (64 * n) 64 (fun x h1 h2 => ?_)).symm
      unfold hasB
      rw [show x / 64 = n from by omega, e]
    · rw [if_neg e]
      obtain ⟨j, hj, hd, ht⟩ := word_top (hf n (by omega)) (hg n (by omega)) e
      have hb : ∀ (u : Nat → Nat) (k : Nat), k < 64 → hasB u (64 * n + k) = (u n).testBit k := fun u k hk => by
        unfold hasB
        rw [show (64 * n + k) / 64 = n from by omega, show (64 * n + k) % 64 = k from by omega]
      rw [cmpB_at (e := 64 * n + j) (by omega) (by rw [hb f j hj, hb g j hj]; exact hd) (fun x h1 h2 => by
        have := ht (x - 64 * n) (by omega)
        rw [← hb f _ (by omega), ← hb g _ (by omega), show 64 * n + (x - 64 * n) = x from by omega] at this
        exact this), hb f j hj]
      have hw := word_lt hd ht
      by_cases hl : f n < g n
      · rw [if_pos hl, hw.1 hl]; simp
      · rw [if_neg hl]
        cases hx : (f n).testBit j
        · exact absurd (hw.2 hx) hl
        · simp
/-- An order. -/
theorem cmpB_neg (P Q : Nat → Bool) : ∀ n, cmpB Q P n = - cmpB P Q n
  | 0 => rfl
  | n + 1 => by
    simp only [cmpB]
    have ih := cmpB_neg P Q n
    cases P n <;> cases Q n <;> simp [ih]
theorem cmpB_self (P : Nat → Bool) : ∀ n, cmpB P P n = 0
  | 0 => rfl
  | n + 1 => by simp [cmpB, cmpB_self P n]
theorem cmpB_one (P Q : Nat → Bool) : ∀ n, cmpB P Q n = 0 ∨ cmpB P Q n = 1 ∨ cmpB P Q n = -1
  | 0 => .inl rfl
  | n + 1 => by
    simp only [cmpB]
    have ih := cmpB_one P Q n
    cases P n <;> cases Q n <;> simp [ih]
theorem cmpB_zero {P Q : Nat → Bool} : ∀ {n : Nat}, cmpB P Q n = 0 ↔ ∀ x, x < n → P x = Q x
  | 0 => by simp [cmpB]
  | n + 1 => by
    simp only [cmpB]
    have ih := cmpB_zero (P := P) (Q := Q) (n := n)
    by_cases e : P n = Q n
    · rw [if_pos e, ih]
      constructor
      · intro h x hx
        by_cases ex : x = n
        · subst ex; exact e
        · exact h x (by omega)
      · intro h x hx; exact h x (by omega)
    · rw [if_neg e]
      constructor
      · intro h; split at h <;> cases h
      · intro h; exact absurd (h n (by omega)) e
theorem cmpB_trans {P Q R : Nat → Bool} : ∀ {n : Nat}, cmpB P Q n ≤ 0 → cmpB Q R n ≤ 0 → cmpB P R n ≤ 0
  | 0, _, _ => by simp [cmpB]
  | n + 1, h, k => by
    simp only [cmpB] at h k ⊢
    have ih := cmpB_trans (P := P) (Q := Q) (R := R) (n := n)
    revert h k
    cases P n <;> cases Q n <;> cases R n <;> simp <;> omega
theorem cmpB_sub {P Q : Nat → Bool} : ∀ {n : Nat}, (∀ x, x < n → P x = true → Q x = true) → cmpB P Q n ≤ 0
  | 0, _ => by simp [cmpB]
  | n + 1, h => by
    simp only [cmpB]
    have ih := cmpB_sub (P := P) (Q := Q) (n := n) (fun x hx => h x (by omega))
    have := h n (by omega)
    revert this
    cases P n <;> cases Q n <;> simp [ih]
open Go.RowKit Go.Deep Go.Shelf
set_option linter.unusedVariables false
attribute [local go_sem] Oper.semAt_some

def cmpI (x y : Int) : Int := if x < y then -1 else if y < x then 1 else 0

set_option maxHeartbeats 400000 in
theorem nan_int (x : Int) (w : World) : Calls Try.prog 79 #[.int .i64 x] w fun e w' => e = .returned (.bool false) ∧ w' = w := by
  have h : (x != x) = false := by simp
  go_enter Try.func79, Try.ntmps79
  go_wp2
  go_ret
  exact ⟨by simp, rfl⟩
set_option maxHeartbeats 400000 in
theorem nan_u64 (x : Int) (w : World) : Calls Try.prog 81 #[.int .u64 x] w fun e w' => e = .returned (.bool false) ∧ w' = w := by
  have h : (x != x) = false := by simp
  go_enter Try.func81, Try.ntmps81
  go_wp2
  go_ret
  exact ⟨by simp, rfl⟩
set_option maxHeartbeats 800000 in
/-- cmp.Compare of two ints. -/
theorem cmp_int (x y : Int) (w : World) : Calls Try.prog 59 #[.int .i64 x, .int .i64 y] w fun e w' => e = .returned (.int .i64 (cmpI x y)) ∧ w' = w := by
  have key : ∀ z, cmpI x y = z → Calls Try.prog 59 #[.int .i64 x, .int .i64 y] w (fun e w' => e = .returned (.int .i64 z) ∧ w' = w) → Calls Try.prog 59 #[.int .i64 x, .int .i64 y] w (fun e w' => e = .returned (.int .i64 (cmpI x y)) ∧ w' = w) := fun z h k => by rw [h]; exact k
  by_cases h1 : x < y
  · refine key (-1) (by simp [cmpI, h1]) ?_
    clear key
    go_enter Try.func59, Try.ntmps59
    go_wp2_with fail
    refine (nan_int x w).mono ?_
    rintro _ w1 ⟨rfl, rfl⟩
    go_wp2_with fail
    refine (nan_int y w1).mono ?_
    rintro _ w2 ⟨rfl, rfl⟩
    go_wp2_with fail
    go_ret
    exact ⟨rfl, rfl⟩
  · by_cases h2 : y < x
    · refine key 1 (by simp [cmpI, h1, h2]) ?_
      clear key
      go_enter Try.func59, Try.ntmps59
      go_wp2_with fail
      refine (nan_int x w).mono ?_
      rintro _ w1 ⟨rfl, rfl⟩
      go_wp2_with fail
      refine (nan_int y w1).mono ?_
      rintro _ w2 ⟨rfl, rfl⟩
      go_wp2_with fail
      go_ret
      exact ⟨rfl, rfl⟩
    · refine key 0 (by simp [cmpI, h1, h2]) ?_
      clear key
      go_enter Try.func59, Try.ntmps59
      go_wp2_with fail
      refine (nan_int x w).mono ?_
      rintro _ w1 ⟨rfl, rfl⟩
      go_wp2_with fail
      refine (nan_int y w1).mono ?_
      rintro _ w2 ⟨rfl, rfl⟩
      go_wp2_with fail
      go_ret
      exact ⟨rfl, rfl⟩
set_option maxHeartbeats 800000 in
/-- cmp.Compare of two words. -/
theorem cmp_u64 (x y : Int) (w : World) : Calls Try.prog 61 #[.int .u64 x, .int .u64 y] w fun e w' => e = .returned (.int .i64 (cmpI x y)) ∧ w' = w := by
  have key : ∀ z, cmpI x y = z → Calls Try.prog 61 #[.int .u64 x, .int .u64 y] w (fun e w' => e = .returned (.int .i64 z) ∧ w' = w) → Calls Try.prog 61 #[.int .u64 x, .int .u64 y] w (fun e w' => e = .returned (.int .i64 (cmpI x y)) ∧ w' = w) := fun z h k => by rw [h]; exact k
  by_cases h1 : x < y
  · refine key (-1) (by simp [cmpI, h1]) ?_
    clear key
    go_enter Try.func61, Try.ntmps61
    go_wp2_with fail
    refine (nan_u64 x w).mono ?_
    rintro _ w1 ⟨rfl, rfl⟩
    go_wp2_with fail
    refine (nan_u64 y w1).mono ?_
    rintro _ w2 ⟨rfl, rfl⟩
    go_wp2_with fail
    go_ret
    exact ⟨rfl, rfl⟩
  · by_cases h2 : y < x
    · refine key 1 (by simp [cmpI, h1, h2]) ?_
      clear key
      go_enter Try.func61, Try.ntmps61
      go_wp2_with fail
      refine (nan_u64 x w).mono ?_
      rintro _ w1 ⟨rfl, rfl⟩
      go_wp2_with fail
      refine (nan_u64 y w1).mono ?_
      rintro _ w2 ⟨rfl, rfl⟩
      go_wp2_with fail
      go_ret
      exact ⟨rfl, rfl⟩
    · refine key 0 (by simp [cmpI, h1, h2]) ?_
      clear key
      go_enter Try.func61, Try.ntmps61
      go_wp2_with fail
      refine (nan_u64 x w).mono ?_
      rintro _ w1 ⟨rfl, rfl⟩
      go_wp2_with fail
      refine (nan_u64 y w1).mono ?_
      rintro _ w2 ⟨rfl, rfl⟩
      go_wp2_with fail
      go_ret
      exact ⟨rfl, rfl⟩
open Go.RowKit Go.Deep Go.Shelf
set_option linter.unusedVariables false
attribute [local go_sem] Oper.semAt_some

/-- How two sets stand to one another. -/
def cmpR (s1 : Int) (x1 : List Nat) (s2 : Int) (x2 : List Nat) : Int :=
  if MayS s1 x1 && MayS s2 x2 then (if s1 = s2 then cmpB (hasB (gW x1)) (hasB (gW x2)) s1.toNat else cmpI s1 s2) else 0
theorem cmpR_no1 {s1 : Int} {x1 : List Nat} {s2 : Int} {x2 : List Nat} (h : MayS s1 x1 = false) : cmpR s1 x1 s2 x2 = 0 := by simp [cmpR, h]
theorem cmpR_no2 {s1 : Int} {x1 : List Nat} {s2 : Int} {x2 : List Nat} (h : MayS s2 x2 = false) : cmpR s1 x1 s2 x2 = 0 := by simp [cmpR, h]
theorem cmpR_off {s1 : Int} {x1 : List Nat} {s2 : Int} {x2 : List Nat} (h1 : MayS s1 x1 = true) (h2 : MayS s2 x2 = true) (h : s1 ≠ s2) : cmpR s1 x1 s2 x2 = cmpI s1 s2 := by simp [cmpR, h1, h2, h]
theorem cmpR_same {s : Int} {x1 x2 : List Nat} (h1 : MayS s x1 = true) (h2 : MayS s x2 = true) : cmpR s x1 s x2 = cmpB (hasB (gW x1)) (hasB (gW x2)) s.toNat := by simp [cmpR, h1, h2]
theorem cmpR_words {s : Int} {x1 x2 : List Nat} (o1 : OkW x1) (o2 : OkW x2) (h1 : MayS s x1 = true) (h2 : MayS s x2 = true) : cmpR s x1 s x2 = cmpW (gW x1) (gW x2) (nW s.toNat) := by
  rw [cmpR_same h1 h2, cmpW_eq (fun i _ => gW_ok o1 i) (fun i _ => gW_ok o2 i)]
  have hn : s.toNat ≤ 64 * nW s.toNat := by unfold nW; omega
  obtain ⟨m, hm⟩ : ∃ m, 64 * nW s.toNat = s.toNat + m := ⟨64 * nW s.toNat - s.toNat, by omega⟩
  rw [hm]
  refine (cmpB_top s.toNat m (fun x k1 k2 => ?_)).symm
  have z1 := MayS.zero h1 x k1 (by rw [MayS.len h1]; omega)
  have z2 := MayS.zero h2 x k1 (by rw [MayS.len h2]; omega)
  exact z1.trans z2.symm
theorem cmpW_all {f g : Nat → Nat} : ∀ {n : Nat}, (∀ i, i < n → f i = g i) → cmpW f g n = 0
  | 0, _ => rfl
  | n + 1, h => by simp only [cmpW]; rw [if_pos (h n (by omega))]; exact cmpW_all (fun i hi => h i (by omega))
theorem cmpW_at {f g : Nat → Nat} {i : Nat} (hd : f i ≠ g i) : ∀ {n : Nat}, i < n → (∀ j, i < j → j < n → f j = g j) → cmpW f g n = cmpI (f i) (g i)
  | 0, h, _ => by omega
  | n + 1, hi, h => by
    simp only [cmpW]
    by_cases e : i = n
    · subst e
      rw [if_neg hd]
      unfold cmpI
      by_cases hl : f i < g i
      · rw [if_pos hl, if_pos (by omega)]
      · rw [if_neg hl, if_neg (by omega), if_pos (by omega)]
    · rw [if_pos (h n (by omega) (by omega))]
      exact cmpW_at hd (by omega) (fun j h1 h2 => h j h1 (by omega))

set_option maxRecDepth 100000 in
set_option maxHeartbeats 4000000 in
/-- bitset.Compare, of two sets of one universe. -/
theorem compare_same (s : Int) (a1 : Option Addr) (N c1 : Nat) (x1 : List Nat) (a2 : Option Addr) (c2 : Nat) (x2 : List Nat) (w : World) (h1 : SlW w a1 N c1 x1) (h2 : SlW w a2 N c2 x2) (o1 : OkW x1) (o2 : OkW x2) (m1 : MayS s x1 = true) (m2 : MayS s x2 = true) :
    Calls Try.prog 32 #[setV s a1 N c1, setV s a2 N c2] w fun r w' => r = .returned (.int .i64 (cmpR s x1 s x2)) ∧ Below w.heap.size w w' := by
  have hle1 := h1.le
  have hcap1 := h1.cap
  have hle2 := h2.le
  have hcap2 := h2.cap
  unfold maxLen at hcap1 hcap2
  have hNW : N = nW s.toNat := by rw [← h1.len, MayS.len m1]
  have HW := hide (cmpR_words o1 o2 m1 m2)
  rw [← hNW] at HW
  clear hNW
  obtain ⟨wa, hwa⟩ : ∃ x, w.alloc (.cells #[.int .i64 s, .slice a1 N c1] 24) = x := ⟨_, rfl⟩
  obtain ⟨wb, hwb⟩ : ∃ x, wa.alloc (.cells #[.int .i64 s, .slice a2 N c2] 24) = x := ⟨_, rfl⟩
  obtain ⟨wc, hwc⟩ : ∃ x, wb.alloc (.cells #[.int .i64 0] 3) = x := ⟨_, rfl⟩
  have hba : Below w.heap.size w wa := by rw [← hwa]; exact (Below.refl _ _).alloc (Nat.le_refl _) _
  have hbb : Below wa.heap.size wa wb := by rw [← hwb]; exact (Below.refl _ _).alloc (Nat.le_refl _) _
  have hbc : Below wb.heap.size wb wc := by rw [← hwc]; exact (Below.refl _ _).alloc (Nat.le_refl _) _
  have tA : Two wc w.heap.size (.int .i64 s) (.slice a1 N c1) := Two.keep (w := wb) (Two.keep (w := wa) (by rw [← hwa]; exact Two.made _ _ _ _) hbb) hbc
  have tB : Two wc wa.heap.size (.int .i64 s) (.slice a2 N c2) := Two.keep (w := wb) (by rw [← hwb]; exact Two.made _ _ _ _) hbc
  have tR : wc.cell? ⟨wb.heap.size, 0, none⟩ = some (.int .i64 0) ∧ wc.frozen? ⟨wb.heap.size, 0, none⟩ = false := by rw [← hwc]; simp
  have hwab : w.heap.size < wa.heap.size := by rw [← hwa]; simp
  have hwbb : wa.heap.size < wb.heap.size := by rw [← hwb]; simp
  have hB := (hba.trans (hbb.mono hba.size)).trans (hbc.mono (by omega))
  have K1 := may_any s a1 N c1 x1 wc (h1.below hB) o1
  rw [m1] at K1
  have HA := hide (And.intro tA (And.intro tB (And.intro tR hB)))
  have HS := hide (And.intro h1 h2)
  have a0 := tA.c0
  have a1' := tA.c1
  unfold setV at K1 ⊢
  have HK1 := hide K1
  have HM2 := hide m2
  have HO2 := hide o2
  have HO1 := hide o1
  clear K1 tA tB tR hB h1 h2 o1 o2 m1 m2 hba hbb hbc
  refine (callsIn_wide (n := 4)).1 ?_
  refine callsIn_of_wp_marks Try.func32 rfl trivial ?_ rfl
  simp only [Try.ntmps32, List.size_toArray, List.length_cons, List.length_nil, Nat.reduceAdd, Nat.reduceSub, Array.replicate_succ, Array.replicate_zero, List.push_toArray, List.append_toArray, List.nil_append, List.cons_append]
  gi_wp2_with fail
  refine ⟨trivial, (callsIn_wide.2 (unhide HK1)).mono ?_⟩
  rintro _ wd ⟨rfl, hbd⟩
  have tB1 := (unhide HA).2.1.keep hbd
  have K2 := may_any s a2 N c2 x2 wd ((((unhide HS).2.below (unhide HA).2.2.2)).below hbd) (unhide HO2)
  rw [unhide HM2] at K2
  unfold setV at K2
  have HK2 := hide K2
  have b0 := tB1.c0
  have b1 := tB1.c1
  have HA1 := hide (show Two wd w.heap.size (.int .i64 s) (.slice a1 N c1) ∧ Two wd wa.heap.size (.int .i64 s) (.slice a2 N c2) ∧ (wd.cell? ⟨wb.heap.size, 0, none⟩ = some (.int .i64 0) ∧ wd.frozen? ⟨wb.heap.size, 0, none⟩ = false) ∧ Below w.heap.size w wd ∧ wb.heap.size < wd.heap.size from by
    obtain ⟨q1, q2, q3, q4⟩ := unhide HA
    have hl := World.block_lt_of_cell? _ _ q3.1
    exact ⟨q1.keep hbd, q2.keep hbd, ⟨below_cell hbd q3.1, by rw [hbd.frozen hl]; exact q3.2⟩, q4.trans (hbd.mono q4.size), Nat.lt_of_lt_of_le hl hbd.size⟩)
  clear tB1 K2 hbd HK1 HA a0 a1'
  gi_wp2_with fail
  refine ⟨trivial, (callsIn_wide.2 (unhide HK2)).mono ?_⟩
  rintro _ we ⟨rfl, hbe⟩
  have HA2 := hide (show Two we w.heap.size (.int .i64 s) (.slice a1 N c1) ∧ Two we wa.heap.size (.int .i64 s) (.slice a2 N c2) ∧ (we.cell? ⟨wb.heap.size, 0, none⟩ = some (.int .i64 0) ∧ we.frozen? ⟨wb.heap.size, 0, none⟩ = false) ∧ Below w.heap.size w we ∧ wb.heap.size < we.heap.size from by
    obtain ⟨q1, q2, q3, q4, q5⟩ := unhide HA1
    exact ⟨q1.keep hbe, q2.keep hbe, ⟨below_cell hbe q3.1, by rw [hbe.frozen q5]; exact q3.2⟩, q4.trans (hbe.mono q4.size), Nat.lt_of_lt_of_le q5 hbe.size⟩)
  have e0 := (unhide HA2).1.c0
  have e1 := (unhide HA2).1.c1
  have f0 := (unhide HA2).2.1.c0
  have f1 := (unhide HA2).2.1.c1
  clear hbe HK2 HA1 b0 b1
  gi_wp2_with fail
  refine ⟨trivial, (back_in Fence.wide 3 trivial rfl a1 N c1 we).mono ?_⟩
  rintro _ _ ⟨rfl, rfl⟩
  gi_wp2_with fail
  obtain ⟨wf, hwf⟩ : ∃ x, we.alloc (.cells #[.slice a1 N c1] 22) = x := ⟨_, rfl⟩
  have hbf : Below we.heap.size we wf := by rw [← hwf]; exact (Below.refl _ _).alloc (Nat.le_refl _) _
  have hszf : we.heap.size < wf.heap.size := by rw [← hwf]; simp
  have cF : wf.cell? ⟨we.heap.size, 0, none⟩ = some (.slice a1 N c1) := by rw [← hwf]; simp
  rw [hwf]
  obtain ⟨q1, q2, q3, q4, q5⟩ := unhide HA2
  have hBf : Below w.heap.size w wf := q4.trans (hbf.mono q4.size)
  have hS1 := (unhide HS).1.below hBf
  have hS2 := (unhide HS).2
  have d1 := below_cell hbf q2.c1
  have d2 := below_cell hbf q3.1
  have d3 : wf.frozen? ⟨wb.heap.size, 0, none⟩ = false := by rw [hbf.frozen q5]; exact q3.2
  have hwf2 : w.heap.size ≤ wf.heap.size := by omega
  have HSeq := back_stops Fence.wide 3 trivial rfl (by decide) we.heap.size a1 N c1 x1 wf hszf cF hS1
  clear HA2 e0 e1 f0 f1 hwf hwa hwb hwc hbf cF q1 q2 q3 q4
  refine wpIn_rangeFunc_ownG (F := Fence.wide) (n := 4) rfl (by decide) (gf := 80) (lb := #[.pointer (some ⟨we.heap.size, 0, none⟩)]) rfl trivial (enters_of Try.func80 (by kernel_rfl) rfl)
    HSeq belowK_t (belowK_b (Nat.le_refl _)) (Below.refl _ _) (fun _ => rfl)
    (fun pre W => ((∀ j ∈ pre, gW x1 j.val = gW x2 j.val) ∧ W.cell? ⟨wa.heap.size, 1, none⟩ = some (.slice a2 N c2) ∧ W.cell? ⟨wb.heap.size, 0, none⟩ = some (.int .i64 0) ∧ W.frozen? ⟨wb.heap.size, 0, none⟩ = false) ∧ Below w.heap.size w W)
    (fun c pre W => (c = .ret ∧ ∃ ini last, pre = ini ++ [last] ∧ (∀ j ∈ ini, gW x1 j.val = gW x2 j.val) ∧ gW x1 last.val ≠ gW x2 last.val ∧ W.cell? ⟨wb.heap.size, 0, none⟩ = some (.int .i64 (cmpI (gW x1 last.val) (gW x2 last.val)))) ∧ Below w.heap.size w W)
    (OwnFrom.and (Own.from (fun s A B row hs hg hr => ⟨hs.1, cell_kept hs.2.1 hg hr, cell_kept hs.2.2.1 hg hr, (frozen_kept hs.2.2.1 hg hr).trans hs.2.2.2⟩) _) (ownFrom_below (Nat.le_refl _) hwf2))
    (fun c => OwnFrom.and (Own.from (fun s A B row hs hg hr => by obtain ⟨hc, ini, last, e1, e2, e3, e4⟩ := hs; exact ⟨hc, ini, last, e1, e2, e3, cell_kept e4 hg hr⟩) _) (ownFrom_below (Nat.le_refl _) hwf2))
    ⟨⟨(fun j hj => by cases hj), d1, d2, d3⟩, hBf⟩
    (fun x => { tmps :=
        #[Value.agg #[Value.int IntKind.i64 s, Value.slice a1 N c1],
          Value.agg #[Value.int IntKind.i64 s, Value.slice a2 N c2],
          Value.pointer (some { block := w.heap.size, off := 0 }),
          Value.pointer (some { block := wa.heap.size, off := 0 }),
          Value.pointer (some { block := wb.heap.size, off := 0 }), .int .i64 ((x.val : Nat) : Int), .int .u64 ((x1[x.val]?.getD 0 : Nat) : Int),
          Value.agg #[Value.int IntKind.i64 s, Value.slice a1 N c1], Value.bool true, Value.bool false,
          Value.bool false, Value.agg #[Value.int IntKind.i64 s, Value.slice a2 N c2], Value.bool true,
          Value.bool false, Value.bool false, Value.pointer (some { block := w.heap.size, off := 0 }),
          Value.int IntKind.i64 s, Value.pointer (some { block := wa.heap.size, off := 0 }), Value.int IntKind.i64 s,
          Value.bool false, undef, undef, undef, undef, undef, Value.pointer (some { block := w.heap.size, off := 1 }),
          Value.slice a1 N c1, Value.func (Fn.func 80) #[] #[Value.pointer (some { block := we.heap.size, off := 0 })],
          .int .i64 ((x.val : Nat) : Int), .int .u64 ((x1[x.val]?.getD 0 : Nat) : Int), undef, undef, undef, undef, undef, undef, undef, undef, undef, undef, undef, undef, undef,
          undef], defers := [] }) ?assign ?body ?done ?stop
  case assign =>
    intro l x W K hK
    unfold encB
    gi_wp2
    exact hK
  case body =>
    rintro l pre x W ⟨⟨hp, hcw, hcr, hfr⟩, hBW⟩ _
    obtain ⟨i, hi⟩ := x
    dsimp only
    obtain ⟨b2, off2, rfl, hc2⟩ := (hS2.below hBW).at (by omega)
    have g2 := hc2 i hi
    unfold vU at g2
    have HP := hide hp
    have HG1 := hide (show gW x1 i = x1[i]?.getD 0 by simp [gW, List.getD])
    have HG2 := hide (show gW x2 i = x2.getD i 0 from rfl)
    have hi' : (i : Int) < (N : Int) := by omega
    generalize x1[i]?.getD 0 = u at *
    generalize x2.getD i 0 = v at *
    have HBW := hide hBW
    clear hc2 hp hBW HSeq HS hS1 hS2
    by_cases hd : u = v
    · subst hd
      have hne : ((u : Int) != (u : Int)) = false := by simp
      gi_wp2
      exact ⟨KeepsFrom.refl _ _, Below.refl _ _, ⟨fun j hj => by
        rcases List.mem_append.1 hj with hj | hj
        · exact unhide HP j hj
        · simp at hj; subst hj; exact (unhide HG1).trans (unhide HG2).symm, hcw, hcr, hfr⟩, unhide HBW⟩
    · have hne : ((u : Int) != (v : Int)) = true := by simp; omega
      have hne2 : ((u : Int) == (v : Int)) = false := by simp; omega
      gi_wp2_with fail
      refine ⟨trivial, (CallsIn.inRound l (callsIn_wide.2 (cmp_u64 (u : Int) (v : Int) W))).mono ?_⟩
      rintro _ _ ⟨rfl, rfl⟩
      gi_wp2
      refine ⟨(KeepsOthers.setCell _ _ _).from _, ⟨rfl, pre, ⟨i, hi⟩, rfl, unhide HP, ?_, ?_⟩, (unhide HBW).setCell (p := ⟨wb.heap.size, 0, none⟩) (by show w.heap.size ≤ wb.heap.size; omega) _⟩
      · show gW x1 i ≠ gW x2 i
        rw [unhide HG1, unhide HG2]; exact hd
      · show World.cell? _ _ = some (.int .i64 (cmpI (gW x1 i : Int) (gW x2 i : Int)))
        rw [unhide HG1, unhide HG2]
        exact World.cell?_setCell_same' _ _ _ (by rw [hcr]; rfl)
  case done =>
    rintro D ys W hD hall ⟨⟨hp, hcw, hcr, hfr⟩, hBW⟩ hK
    have HE := hide (show cmpR s x1 s x2 = 0 by
      rw [unhide HW]
      exact cmpW_all (fun i hi => hp ⟨i, hi⟩ (hall ⟨i, hi⟩)))
    have HP := hide hp
    have HAl := hide hall
    have HBW := hide hBW
    clear hp hall hBW
    gi_wp2
    have hK' := (KeepsOthers.setCell W ⟨wb.heap.size, 0, none⟩ (.int .i64 0)).same D _ hK rfl
    refine ⟨by simp, .inl ⟨_, _, rfl, run_takeDeferred hK', ?_⟩⟩
    have hc5 := cell_kept (World.cell?_setCell_same' W ⟨wb.heap.size, 0, none⟩ (.int .i64 0) (by rw [hcr]; rfl)) (grownBy_putObj' _ D (.deferred none)) (fun r e => by cases e; exact ⟨_, hK', rfl⟩)
    refine ⟨.int .i64 0, ?_, by rw [unhide HE], ((unhide HBW).setCell (p := ⟨wb.heap.size, 0, none⟩) (by show w.heap.size ≤ wb.heap.size; omega) _).trans (belowK_b (w := w) (Nat.le_refl _) _ D _ _ (by omega) hK' rfl rfl)⟩
    simp [results, Try.results32, go_sem, hc5]
  case stop =>
    rintro D c pre W hD ⟨ini0, last0, e0, hmore⟩ ⟨⟨rfl, ini, last, e1, e2, e3, hcr⟩, hBW⟩ hK
    have e4 := e0.symm.trans e1
    obtain ⟨rfl, e5⟩ := List.append_inj' e4 rfl
    simp at e5
    subst e5
    have HE := hide (show cmpR s x1 s x2 = cmpI (gW x1 last0.val) (gW x2 last0.val) by
      rw [unhide HW]
      exact cmpW_at e3 last0.isLt (fun j h1 h2 => e2 ⟨j, h2⟩ (hmore ⟨j, h2⟩ h1)))
    have HBW := hide hBW
    clear hBW e0 e1 e2 e3 e4 hmore
    gi_wp2
    refine ⟨by simp, .inl ⟨_, _, rfl, run_takeDeferred hK, ?_⟩⟩
    have hc5 := cell_kept hcr (grownBy_putObj' _ D (.deferred none)) (fun r e => by cases e; exact ⟨_, hK, rfl⟩)
    refine ⟨.int .i64 (cmpI (gW x1 last0.val) (gW x2 last0.val)), ?_, by rw [unhide HE], (unhide HBW).trans (belowK_b (w := w) (Nat.le_refl _) W D _ _ (by omega) hK rfl rfl)⟩
    simp [results, Try.results32, go_sem, hc5]
end Go.Proofs.Ytbendkndnojihaa
