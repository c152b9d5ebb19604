/-
  slopelaw3.alive: its contract.
-/
import Derived.Test.YtbendkndnojihabDoorBt3
import Derived.Test.YtbendkndnojihabDoorBt7
import Derived.Test.YtbendkndnojihabDoorByf
import Derived.Test.YtbendkndnojihabDoorBt1
import Derived.Test.YtbendkndnojihabDoorBc2
import Derived.Test.YtbendkndnojihabDoorBth
import Derived.Test.YtbendkndnojihabDoorBn2
namespace Go.Proofs.YtbendkndnojihabDoor
open Go.RowKit Go.Deep
set_option linter.unusedVariables false

theorem mk_303 : mkR 5 [3, 0, 3] = (5, [9], 0) := by decide
theorem mk_5 : mkR 5 [5] = (0, [], 62) := by decide

set_option maxHeartbeats 4000000 in
/-- slopelaw3.alive. -/
theorem alive_any (w : World) : Calls Tryd.prog 8 #[] w fun e w' => e = .returned (.bool true) ∧ Below w.heap.size w w' := by
  obtain ⟨wa, hwa⟩ : ∃ x, w.alloc (.cells #[.int .i64 3, .int .i64 0, .int .i64 3] 3) = x := ⟨_, rfl⟩
  have hba : Below w.heap.size w wa := by rw [← hwa]; exact (Below.refl _ _).alloc (Nat.le_refl _) _
  have hs : SlI wa (some ⟨w.heap.size, 0, none⟩) 3 3 [3, 0, 3] := by
    refine ⟨rfl, Nat.le_refl _, by unfold maxLen; omega, .inr ⟨_, _, rfl, fun i hi => ?_⟩⟩
    have hi3 : i < 3 := hi
    match i, hi3 with
    | 0, _ => rw [← hwa]; simp [vI]
    | 1, _ => rw [← hwa]; simp [vI]
    | 2, _ => rw [← hwa]; simp [vI]
  have K1 := make_any 5 (some ⟨w.heap.size, 0, none⟩) 3 3 [3, 0, 3] wa hs
  rw [mk_303] at K1
  have HK1 := hide K1
  have HB := hide hba
  clear K1 hs hba
  go_enter Tryd.func8, Tryd.ntmps8
  go_wp2_with fail
  refine (unhide HK1).mono ?_
  rintro _ wb ⟨a1, n1, c1, rfl, hs1, hb1⟩
  have hbb := (unhide HB).trans (hb1.mono (unhide HB).size)
  have hl := hs1.len
  have hn1 : n1 = 1 := hl.symm
  subst hn1
  obtain ⟨b, off, rfl, hc⟩ := hs1.at (by decide)
  have g0 := hc 0 (by decide)
  simp [vU] at g0
  have hcap := hs1.cap
  have hle := hs1.le
  unfold maxLen at hcap
  have HG := hide (And.intro hbb g0)
  clear hb1 hs1 hc g0 hbb hl HK1 HB
  unfold setV
  obtain ⟨wc, hwc⟩ : ∃ x, wb.alloc (.cells #[.int .i64 5, .slice (some ⟨b, off, none⟩) 1 c1] 35) = x := ⟨_, rfl⟩
  obtain ⟨wd, hwd⟩ : ∃ x, wc.alloc (.cells #[.int .i64 5] 3) = x := ⟨_, rfl⟩
  have hbc : Below wb.heap.size wb wc := by rw [← hwc]; exact (Below.refl _ _).alloc (Nat.le_refl _) _
  have hbd : Below wc.heap.size wc wd := by rw [← hwd]; exact (Below.refl _ _).alloc (Nat.le_refl _) _
  have tS : Two wd wb.heap.size (.int .i64 5) (.slice (some ⟨b, off, none⟩) 1 c1) := Two.keep (w := wc) (by rw [← hwc]; exact Two.made _ _ _ _) hbd
  have hs : SlI wd (some ⟨wc.heap.size, 0, none⟩) 1 1 [5] := by
    refine ⟨rfl, Nat.le_refl _, by unfold maxLen; omega, .inr ⟨_, _, rfl, fun i hi => ?_⟩⟩
    have hi1 : i < 1 := hi
    match i, hi1 with
    | 0, _ => rw [← hwd]; simp [vI]
  have K2 := make_any 5 (some ⟨wc.heap.size, 0, none⟩) 1 1 [5] wd hs
  rw [mk_5] at K2
  have HK2 := hide K2
  have hbwd : Below wb.heap.size wb wd := hbc.trans (hbd.mono hbc.size)
  have HG2 := hide (And.intro tS (And.intro ((unhide HG).1.trans (hbwd.mono (unhide HG).1.size)) (below_cell hbwd (unhide HG).2)))
  clear K2 hs tS hbc hbd hbwd HG
  go_wp2_with fail
  refine (unhide HK2).mono ?_
  rintro _ we ⟨a2, n2, c2, rfl, hs2, hb2⟩
  have hbe := (unhide HG2).2.1.trans (hb2.mono (unhide HG2).2.1.size)
  have HG3 := hide (And.intro ((unhide HG2).1.keep hb2) (And.intro hbe (below_cell hb2 (unhide HG2).2.2)))
  clear hs2 hb2 hbe HK2 HG2 hwc hwd
  unfold setV
  obtain ⟨wf, hwf⟩ : ∃ x, we.alloc (.cells #[.int .i64 0, .slice a2 n2 c2] 35) = x := ⟨_, rfl⟩
  have hbf : Below we.heap.size we wf := by rw [← hwf]; exact (Below.refl _ _).alloc (Nat.le_refl _) _
  have tS := (unhide HG3).1.keep hbf
  have t0 := tS.c0
  have t1 := tS.c1
  have g0 := below_cell hbf (unhide HG3).2.2
  have HB := hide ((unhide HG3).2.1.trans (hbf.mono (unhide HG3).2.1.size))
  clear tS hbf HG3
  go_wp2_with fail
  refine (num_any 0 wf).mono ?_
  rintro _ w' ⟨rfl, hw⟩
  obtain rfl := hw.symm
  go_wp2_with fail
  refine (num_any 62 wf).mono ?_
  rintro _ w' ⟨rfl, hw⟩
  obtain rfl := hw.symm
  go_wp2_with fail
  go_ret
  exact ⟨rfl, unhide HB⟩
end Go.Proofs.YtbendkndnojihabDoor

namespace Go.Proofs.YtbendkndnojihabDoor
set_option linter.unusedVariables false

/-- The greatest number below n in which two sets part tells which is the greater. -/
def cmpB (P Q : Nat → Bool) : Nat → Int
  | 0 => 0
  | e + 1 => if P e = Q e then cmpB P Q e else if P e = true then 1 else -1
/-- The same by words. -/
def cmpW (f g : Nat → Nat) : Nat → Int
  | 0 => 0
  | i + 1 => if f i = g i then cmpW f g i else if f i < g i then -1 else 1

theorem cmpB_congr {P Q P' Q' : Nat → Bool} : ∀ {n : Nat}, (∀ x, x < n → P x = P' x) → (∀ x, x < n → Q x = Q' x) → cmpB P Q n = cmpB P' Q' n
  | 0, _, _ => rfl
  | n + 1, h, k => by
    simp only [cmpB]
    rw [h n (by omega), k n (by omega), cmpB_congr (fun x hx => h x (by omega)) (fun x hx => k x (by omega))]
/-- Above n the two are alike. -/
theorem cmpB_top {P Q : Nat → Bool} (n : Nat) : ∀ m, (∀ x, n ≤ x → x < n + m → P x = Q x) → cmpB P Q (n + m) = cmpB P Q n
  | 0, _ => rfl
  | m + 1, h => by
    show cmpB P Q (n + m + 1) = _
    simp only [cmpB]
    rw [if_pos (h (n + m) (by omega) (by omega))]
    exact cmpB_top n m (fun x h1 h2 => h x h1 (by omega))
theorem cmpB_at {P Q : Nat → Bool} {n e : Nat} (he : e < n) (hd : P e ≠ Q e) (h : ∀ x, e < x → x < n → P x = Q x) : cmpB P Q n = if P e = true then 1 else -1 := by
  obtain ⟨m, rfl⟩ : ∃ m, n = e + 1 + m := ⟨n - (e + 1), by omega⟩
  rw [cmpB_top (e + 1) m (fun x h1 h2 => h x (by omega) h2)]
  simp only [cmpB]
  rw [if_neg hd]
theorem word_top {x y : Nat} (hx : x < 18446744073709551616) (hy : y < 18446744073709551616) (h : x ≠ y) : ∃ j, j < 64 ∧ x.testBit j ≠ y.testBit j ∧ ∀ k, j < k → x.testBit k = y.testBit k := by
  have e64 : (2:Nat) ^ 64 = 18446744073709551616 := by decide
  have big : ∀ z k, z < 18446744073709551616 → 64 ≤ k → z.testBit k = false := fun z k hz hk => by
    apply Nat.testBit_lt_two_pow
    have : (2:Nat) ^ 64 ≤ 2 ^ k := Nat.pow_le_pow_right (by decide) hk
    omega
  have key : ∀ m, m ≤ 64 → (∀ k, m ≤ k → x.testBit k = y.testBit k) → ∃ j, j < 64 ∧ x.testBit j ≠ y.testBit j ∧ ∀ k, j < k → x.testBit k = y.testBit k := by
    intro m
    induction m with
    | zero => intro _ hh; exact absurd (Nat.eq_of_testBit_eq (fun k => hh k (Nat.zero_le _))) h
    | succ m ih =>
      intro hm hh
      by_cases e : x.testBit m = y.testBit m
      · refine ih (by omega) (fun k hk => ?_)
        by_cases ek : k = m
        · subst ek; exact e
        · exact hh k (by omega)
      · exact ⟨m, by omega, e, fun k hk => hh k hk⟩
  exact key 64 (Nat.le_refl _) (fun k hk => by rw [big x k hx hk, big y k hy hk])
theorem lt_of_tb {x y : Nat} (j : Nat) (hx : x.testBit j = false) (hy : y.testBit j = true) (h : ∀ k, j < k → x.testBit k = y.testBit k) : x < y := by
  have hd : x / 2 ^ (j + 1) = y / 2 ^ (j + 1) := by
    apply Nat.eq_of_testBit_eq
    intro k
    rw [Nat.testBit_div_two_pow, Nat.testBit_div_two_pow]
    exact h _ (by omega)
  rw [Nat.testBit_eq_decide_div_mod_eq] at hx hy
  simp at hx hy
  have px := Nat.two_pow_pos j
  rw [Nat.pow_succ, ← Nat.div_div_eq_div_mul, ← Nat.div_div_eq_div_mul] at hd
  have dx := Nat.div_add_mod x (2 ^ j)
  have dy := Nat.div_add_mod y (2 ^ j)
  have mx := Nat.mod_lt x px
  have hl : x / 2 ^ j + 1 ≤ y / 2 ^ j := by omega
  have := Nat.mul_le_mul_left (2 ^ j) hl
  rw [Nat.mul_add] at this
  omega
theorem word_lt {x y j : Nat} (hd : x.testBit j ≠ y.testBit j) (h : ∀ k, j < k → x.testBit k = y.testBit k) : (x < y) ↔ x.testBit j = false := by
  constructor
  · intro hl
    cases hx : x.testBit j
    · rfl
    · have hy : y.testBit j = false := by cases hy : y.testBit j <;> simp_all
      have := lt_of_tb j hy hx (fun k hk => (h k hk).symm)
      omega
  · intro hx
    have hy : y.testBit j = true := by cases hy : y.testBit j <;> simp_all
    exact lt_of_tb j hx hy h
theorem cmpW_eq {f g : Nat → Nat} : ∀ {n : Nat}, (∀ i, i < n → f i < 18446744073709551616) → (∀ i, i < n → g i < 18446744073709551616) → cmpW f g n = cmpB (hasB f) (hasB g) (64 * n)
  | 0, _, _ => rfl
  | n + 1, hf, hg => by
    simp only [cmpW]
    by_cases e : f n = g n
    · rw [if_pos e, cmpW_eq (fun i hi => hf i (by omega)) (fun i hi => hg i (by omega)), show 64 * (n + 1) = 64 * n + 64 from by omega]
      refine (cmpB_top (64 * n) 64 (fun x h1 h2 => ?_)).symm
      unfold hasB
      rw [show x / 64 = n from by omega, e]
    · rw [if_neg e]
      obtain ⟨j, hj, hd, ht⟩ := word_top (hf n (by omega)) (hg n (by omega)) e
      have hb : ∀ (u : Nat → Nat) (k : Nat), k < 64 → hasB u (64 * n + k) = (u n).testBit k := fun u k hk => by
        unfold hasB
        rw [show (64 * n + k) / 64 = n from by omega, show (64 * n + k) % 64 = k from by omega]
      rw [cmpB_at (e := 64 * n + j) (by omega) (by rw [hb f j hj, hb g j hj]; exact hd) (fun x h1 h2 => by
        have := ht (x - 64 * n) (by omega)
        rw [← hb f _ (by omega), ← hb g _ (by omega), show 64 * n + (x - 64 * n) = x from by omega] at this
        exact this), hb f j hj]
      have hw := word_lt hd ht
      by_cases hl : f n < g n
      · rw [if_pos hl, hw.1 hl]; simp
      · rw [if_neg hl]
        cases hx : (f n).testBit j
        · exact absurd (hw.2 hx) hl
        · simp
/-- An order. -/
theorem cmpB_neg (P Q : Nat → Bool) : ∀ n, cmpB Q P n = - cmpB P Q n
  | 0 => rfl
  | n + 1 => by
    simp only [cmpB]
    have ih := cmpB_neg P Q n
    cases P n <;> cases Q n <;> simp [ih]
theorem cmpB_self (P : Nat → Bool) : ∀ n, cmpB P P n = 0
  | 0 => rfl
  | n + 1 => by simp [cmpB, cmpB_self P n]
theorem cmpB_one (P Q : Nat → Bool) : ∀ n, cmpB P Q n = 0 ∨ cmpB P Q n = 1 ∨ cmpB P Q n = -1
  | 0 => .inl rfl
  | n + 1 => by
    simp only [cmpB]
    have ih := cmpB_one P Q n
    cases P n <;> cases Q n <;> simp [ih]
theorem cmpB_zero {P Q : Nat → Bool} : ∀ {n : Nat}, cmpB P Q n = 0 ↔ ∀ x, x < n → P x = Q x
  | 0 => by simp [cmpB]
  | n + 1 => by
    simp only [cmpB]
    have ih := cmpB_zero (P := P) (Q := Q) (n := n)
    by_cases e : P n = Q n
    · rw [if_pos e, ih]
      constructor
      · intro h x hx
        by_cases ex : x = n
        · subst ex; exact e
        · exact h x (by omega)
      · intro h x hx; exact h x (by omega)
    · rw [if_neg e]
      constructor
      · intro h; split at h <;> cases h
      · intro h; exact absurd (h n (by omega)) e
theorem cmpB_trans {P Q R : Nat → Bool} : ∀ {n : Nat}, cmpB P Q n ≤ 0 → cmpB Q R n ≤ 0 → cmpB P R n ≤ 0
  | 0, _, _ => by simp [cmpB]
  | n + 1, h, k => by
    simp only [cmpB] at h k ⊢
    have ih := cmpB_trans (P := P) (Q := Q) (R := R) (n := n)
    revert h k
    cases P n <;> cases Q n <;> cases R n <;> simp <;> omega
theorem cmpB_sub {P Q : Nat → Bool} : ∀ {n : Nat}, (∀ x, x < n → P x = true → Q x = true) → cmpB P Q n ≤ 0
  | 0, _ => by simp [cmpB]
  | n + 1, h => by
    simp only [cmpB]
    have ih := cmpB_sub (P := P) (Q := Q) (n := n) (fun x hx => h x (by omega))
    have := h n (by omega)
    revert this
    cases P n <;> cases Q n <;> simp [ih]
open Go.RowKit Go.Deep Go.Shelf
set_option linter.unusedVariables false
attribute [local go_sem] Oper.semAt_some

def cmpI (x y : Int) : Int := if x < y then -1 else if y < x then 1 else 0

open Go.RowKit Go.Deep Go.Shelf
set_option linter.unusedVariables false
attribute [local go_sem] Oper.semAt_some

/-- How two sets stand to one another. -/
def cmpR (s1 : Int) (x1 : List Nat) (s2 : Int) (x2 : List Nat) : Int :=
  if MayS s1 x1 && MayS s2 x2 then (if s1 = s2 then cmpB (hasB (gW x1)) (hasB (gW x2)) s1.toNat else cmpI s1 s2) else 0
theorem cmpR_no1 {s1 : Int} {x1 : List Nat} {s2 : Int} {x2 : List Nat} (h : MayS s1 x1 = false) : cmpR s1 x1 s2 x2 = 0 := by simp [cmpR, h]
theorem cmpR_no2 {s1 : Int} {x1 : List Nat} {s2 : Int} {x2 : List Nat} (h : MayS s2 x2 = false) : cmpR s1 x1 s2 x2 = 0 := by simp [cmpR, h]
theorem cmpR_off {s1 : Int} {x1 : List Nat} {s2 : Int} {x2 : List Nat} (h1 : MayS s1 x1 = true) (h2 : MayS s2 x2 = true) (h : s1 ≠ s2) : cmpR s1 x1 s2 x2 = cmpI s1 s2 := by simp [cmpR, h1, h2, h]
theorem cmpR_same {s : Int} {x1 x2 : List Nat} (h1 : MayS s x1 = true) (h2 : MayS s x2 = true) : cmpR s x1 s x2 = cmpB (hasB (gW x1)) (hasB (gW x2)) s.toNat := by simp [cmpR, h1, h2]
theorem cmpR_words {s : Int} {x1 x2 : List Nat} (o1 : OkW x1) (o2 : OkW x2) (h1 : MayS s x1 = true) (h2 : MayS s x2 = true) : cmpR s x1 s x2 = cmpW (gW x1) (gW x2) (nW s.toNat) := by
  rw [cmpR_same h1 h2, cmpW_eq (fun i _ => gW_ok o1 i) (fun i _ => gW_ok o2 i)]
  have hn : s.toNat ≤ 64 * nW s.toNat := by unfold nW; omega
  obtain ⟨m, hm⟩ : ∃ m, 64 * nW s.toNat = s.toNat + m := ⟨64 * nW s.toNat - s.toNat, by omega⟩
  rw [hm]
  refine (cmpB_top s.toNat m (fun x k1 k2 => ?_)).symm
  have z1 := MayS.zero h1 x k1 (by rw [MayS.len h1]; omega)
  have z2 := MayS.zero h2 x k1 (by rw [MayS.len h2]; omega)
  exact z1.trans z2.symm
theorem cmpW_all {f g : Nat → Nat} : ∀ {n : Nat}, (∀ i, i < n → f i = g i) → cmpW f g n = 0
  | 0, _ => rfl
  | n + 1, h => by simp only [cmpW]; rw [if_pos (h n (by omega))]; exact cmpW_all (fun i hi => h i (by omega))
theorem cmpW_at {f g : Nat → Nat} {i : Nat} (hd : f i ≠ g i) : ∀ {n : Nat}, i < n → (∀ j, i < j → j < n → f j = g j) → cmpW f g n = cmpI (f i) (g i)
  | 0, h, _ => by omega
  | n + 1, hi, h => by
    simp only [cmpW]
    by_cases e : i = n
    · subst e
      rw [if_neg hd]
      unfold cmpI
      by_cases hl : f i < g i
      · rw [if_pos hl, if_pos (by omega)]
      · rw [if_neg hl, if_neg (by omega), if_pos (by omega)]
    · rw [if_pos (h n (by omega) (by omega))]
      exact cmpW_at hd (by omega) (fun j h1 h2 => h j h1 (by omega))

end Go.Proofs.YtbendkndnojihabDoor
