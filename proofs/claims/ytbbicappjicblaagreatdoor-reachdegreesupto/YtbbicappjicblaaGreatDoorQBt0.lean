/- QBt1 -/
import Derived.Test.YtbbicappjicblaaGreatDoorRows
import Derived.WalkKit
import Derived.WalkSpells
import Derived.WalkLawsBesides
import Derived.Deep.QuietTactic
import Derived.BigQuiet
import Derived.Deep.OwnRows
import Derived.Deep.AppendLies
import Derived.Deep.RegionLaw
import Derived.Deep.DeepMust
import Derived.OwnWalk
import Derived.Laws.IdiomCopy
import Derived.Below
namespace Go.Proofs.YtbbicappjicblaaGreatDoor.Bs
set_option linter.unusedVariables false
def RepB (n : Nat) (f : Nat → Nat) (P : Nat → Bool) : Prop := ∀ i, i < n → f i < 18446744073709551616 ∧ ∀ j, j < 64 → (f i).testBit j = P (64 * i + j)

theorem tb_big {x j : Nat} (h : x < 18446744073709551616) (hj : 64 ≤ j) : x.testBit j = false := by
 apply Nat.testBit_lt_two_pow
 have : (2:Nat) ^ 64 ≤ 2 ^ j := Nat.pow_le_pow_right (by decide) hj
 have e : (2:Nat) ^ 64 = 18446744073709551616 := by decide
 omega
theorem RepB.unique {n : Nat} {f g : Nat → Nat} {P Q : Nat → Bool} (h : RepB n f P) (k : RepB n g Q) (e : ∀ x, x < 64 * n → P x = Q x) : ∀ i, i < n → f i = g i := by
 intro i hi
 apply Nat.eq_of_testBit_eq
 intro j
 by_cases hj : j < 64
 ·rw [(h i hi).2 j hj, (k i hi).2 j hj]; exact e _ (by omega)
 ·rw [tb_big (h i hi).1 (by omega), tb_big (k i hi).1 (by omega)]
theorem RepB.zero (n : Nat) : RepB n (fun _ => 0) (fun _ => false) := fun i hi => ⟨by show 0 < _; decide, fun j hj => by simp⟩
theorem RepB.congr {n : Nat} {f g : Nat → Nat} {P Q : Nat → Bool} (h : RepB n f P) (e1 : ∀ i, i < n → f i = g i) (e2 : ∀ x, x < 64 * n → P x = Q x) : RepB n g Q := by
 intro i hi
 rw [← e1 i hi]
 refine ⟨(h i hi).1, fun j hj => ?_⟩
 rw [(h i hi).2 j hj]; exact e2 _ (by omega)
theorem pow_lt64 {j : Nat} (h : j < 64) : 2 ^ j < 18446744073709551616 := by
 have : (2:Nat) ^ j < 2 ^ 64 := Nat.pow_lt_pow_right (by decide) h
 have e : (2:Nat) ^ 64 = 18446744073709551616 := by decide
 omega
theorem or_lt64 {x y : Nat} (hx : x < 18446744073709551616) (hy : y < 18446744073709551616) : x ||| y < 18446744073709551616 := by
 have : (x ||| y) < 2 ^ 64 := Nat.or_lt_two_pow (by omega) (by omega)
 exact this
theorem and_lt64 {x y : Nat} (hx : x < 18446744073709551616) : x &&& y < 18446744073709551616 := Nat.lt_of_le_of_lt Nat.and_le_left hx
def anot (x y : Nat) : Nat := x &&& (18446744073709551615 - y)
theorem tb_not {y j : Nat} (hy : y < 18446744073709551616) (hj : j < 64) : (18446744073709551615 - y).testBit j = !y.testBit j := by
  have := Nat.testBit_two_pow_sub_succ (n := 64) (x := y) (by have e : (2:Nat) ^ 64 = 18446744073709551616 := by decide
                                                              omega) j
  have e : (2:Nat) ^ 64 - (y + 1) = 18446744073709551615 - y := by
    have e : (2:Nat) ^ 64 = 18446744073709551616 := by decide
    omega
  rw [e] at this
  rw [this]
  simp [hj]
theorem tb_anot {x y j : Nat} (hx : x < 18446744073709551616) (hy : y < 18446744073709551616) : (anot x y).testBit j = (x.testBit j && !y.testBit j) := by
 unfold anot
 rw [Nat.testBit_and]
 by_cases hj : j < 64
 ·rw [tb_not hy hj]
 ·rw [tb_big hx (by omega)]; simp
theorem anot_lt {x y : Nat} (hx : x < 18446744073709551616) : anot x y < 18446744073709551616 := and_lt64 hx

theorem RepB.put {n : Nat} {f : Nat → Nat} {P : Nat → Bool} (h : RepB n f P) (e : Nat) (he : e / 64 < n) : RepB n (fun i => if i = e / 64 then f (e / 64) ||| 2 ^ (e % 64) else f i) (fun x => x == e || P x) := by
 intro i hi
 have hm : e % 64 < 64 := Nat.mod_lt _ (by decide)
 by_cases hie : i = e / 64
 ·subst hie
  simp only [if_true]
  refine ⟨or_lt64 (h _ hi).1 (pow_lt64 hm), fun j hj => ?_⟩
  rw [Nat.testBit_or, (h _ hi).2 j hj, Nat.testBit_two_pow, Bool.or_comm]
  congr 1
  rw [Bool.eq_iff_iff]
  simp
  omega
 ·simp only [if_neg hie]
  refine ⟨(h _ hi).1, fun j hj => ?_⟩
  rw [(h _ hi).2 j hj]
  have : (64 * i + j == e) = false := by simp; omega
  rw [this]; simp
theorem RepB.drop {n : Nat} {f : Nat → Nat} {P : Nat → Bool} (h : RepB n f P) (e : Nat) (he : e / 64 < n) : RepB n (fun i => if i = e / 64 then anot (f (e / 64)) (2 ^ (e % 64)) else f i) (fun x => !(x == e) && P x) := by
 intro i hi
 have hm : e % 64 < 64 := Nat.mod_lt _ (by decide)
 by_cases hie : i = e / 64
 ·subst hie
  simp only [if_true]
  refine ⟨anot_lt (h _ hi).1, fun j hj => ?_⟩
  rw [tb_anot (h _ hi).1 (pow_lt64 hm), (h _ hi).2 j hj, Nat.testBit_two_pow, Bool.and_comm]
  congr 2
  rw [Bool.eq_iff_iff]
  simp
  omega
 ·simp only [if_neg hie]
  refine ⟨(h _ hi).1, fun j hj => ?_⟩
  rw [(h _ hi).2 j hj]
  have : (64 * i + j == e) = false := by simp; omega
  rw [this]; simp

def hasB (f : Nat → Nat) (x : Nat) : Bool := (f (x / 64)).testBit (x % 64)
theorem RepB.has {n : Nat} {f : Nat → Nat} {P : Nat → Bool} (h : RepB n f P) (x : Nat) (hx : x < 64 * n) : hasB f x = P x := by
 unfold hasB
 rw [(h (x / 64) (by omega)).2 (x % 64) (by omega)]
 congr 1
 omega

def wdK (P : Nat → Bool) (i : Nat) : Nat → Nat
 | 0 => 0
 | k + 1 => wdK P i k ||| (if P (64 * i + k) then 2 ^ k else 0)
def wd (P : Nat → Bool) (i : Nat) : Nat := wdK P i 64
theorem wdK_lt (P : Nat → Bool) (i : Nat) : ∀ k, wdK P i k < 2 ^ k
 | 0 => by simp [wdK]
 | k + 1 => by
  have h := wdK_lt P i k
  simp only [wdK]
  apply Nat.or_lt_two_pow
  ·rw [Nat.pow_succ]; omega
  ·split
   ·rw [Nat.pow_succ]; have := Nat.two_pow_pos k; omega
   ·exact Nat.two_pow_pos _
theorem wdK_tb (P : Nat → Bool) (i : Nat) : ∀ k j, (wdK P i k).testBit j = (decide (j < k) && P (64 * i + j))
 | 0, j => by simp [wdK]
 | k + 1, j => by
  simp only [wdK]
  rw [Nat.testBit_or, wdK_tb P i k j]
  by_cases e : j = k
  ·subst e
   cases h : P (64 * i + j) <;> simp
  ·cases h : P (64 * i + k)
   ·simp
    by_cases hj : j < k
    ·simp [hj, show j < k + 1 from by omega]
    ·simp [hj, show ¬ j < k + 1 from by omega]
   ·simp [show ¬ k = j from fun h => e h.symm]
    by_cases hj : j < k
    ·simp [hj, show j < k + 1 from by omega]
    ·simp [hj, show ¬ j < k + 1 from by omega]
theorem wd_rep (n : Nat) (P : Nat → Bool) : RepB n (wd P) P := by
 intro i hi
 refine ⟨?_, fun j hj => ?_⟩
 ·have := wdK_lt P i 64
  exact this
 ·unfold wd
  rw [wdK_tb]; simp [hj]
def nW (n : Nat) : Nat := (n + 63) / 64
def wordsL (n : Nat) (P : Nat → Bool) : List Nat := (List.range (nW n)).map (wd P)
theorem wordsL_len (n : Nat) (P : Nat → Bool) : (wordsL n P).length = nW n := by simp [wordsL]
theorem wordsL_getD (n : Nat) (P : Nat → Bool) (i : Nat) (h : i < nW n) : (wordsL n P).getD i 0 = wd P i := by simp [wordsL, List.getD, h]
theorem wordsL_congr {n : Nat} {P Q : Nat → Bool} (h : ∀ x, x < 64 * nW n → P x = Q x) : wordsL n P = wordsL n Q := by
 unfold wordsL
 apply List.map_congr_left
 intro i hi
 exact (wd_rep (nW n) P).unique (wd_rep (nW n) Q) h i (List.mem_range.1 hi)
theorem wordsL_of {n : Nat} {f : Nat → Nat} {P : Nat → Bool} (h : RepB (nW n) f P) : (List.range (nW n)).map f = wordsL n P := by
 unfold wordsL
 apply List.map_congr_left
 intro i hi
 exact h.unique (wd_rep (nW n) P) (fun _ _ => rfl) i (List.mem_range.1 hi)
def cntB (P : Nat → Bool) : Nat → Nat
 | 0 => 0
 | n + 1 => cntB P n + (if P n then 1 else 0)
theorem cntB_le (P : Nat → Bool) : ∀ n, cntB P n ≤ n
 | 0 => Nat.le_refl _
 | n + 1 => by simp only [cntB]; have := cntB_le P n; split <;> omega
theorem cntB_congr {P Q : Nat → Bool} : ∀ {n : Nat}, (∀ x, x < n → P x = Q x) → cntB P n = cntB Q n
 | 0, _ => rfl
 | n + 1, h => by simp only [cntB]; rw [cntB_congr (fun x hx => h x (by omega)), h n (by omega)]
theorem cntB_add (P : Nat → Bool) (a : Nat) : ∀ b, cntB P (a + b) = cntB P a + cntB (fun x => P (a + x)) b
 | 0 => rfl
 | b + 1 => by
  show cntB P (a + b + 1) = _
  simp only [cntB]
  rw [cntB_add P a b, Nat.add_assoc]

def rep8 (c : Nat) : Nat → Nat
 | 0 => 0
 | n + 1 => rep8 c n * 256 + c
theorem and_byte (a b c d : Nat) (hb : b < 256) (hd : d < 256) : (a * 256 + b) &&& (c * 256 + d) = (a &&& c) * 256 + (b &&& d) := by
 have hbd : b &&& d < 256 := Nat.lt_of_le_of_lt Nat.and_le_left hb
 have e : (256 : Nat) = 2 ^ 8 := rfl
 apply Nat.eq_of_testBit_eq
 intro j
 rw [Nat.testBit_and, Nat.mul_comm a, Nat.mul_comm c, Nat.mul_comm (a &&& c), e, Nat.testBit_two_pow_mul_add _ hb, Nat.testBit_two_pow_mul_add _ hd, Nat.testBit_two_pow_mul_add _ hbd]
 split
 ·rw [Nat.testBit_and]
 ·rw [Nat.testBit_and]
def pw_t1 (l : Nat) : Nat := ((l / 2) &&& 85) + (l &&& 85)
def pw_t2 (l : Nat) : Nat := ((l / 4) &&& 51) + (l &&& 51)
def pw_t3 (l : Nat) : Nat := (l / 16 + l) &&& 15
def pw_s1 (n x : Nat) : Nat := ((x / 2) &&& rep8 85 n) + (x &&& rep8 85 n)
def pw_s2 (n x : Nat) : Nat := ((x / 4) &&& rep8 51 n) + (x &&& rep8 51 n)
def pw_s3 (n x : Nat) : Nat := (x / 16 + x) &&& rep8 15 n
theorem pw_k1 : ∀ l : Fin 256, ((l.val / 2) &&& 85) = ((128 + l.val / 2) &&& 85) ∧ pw_t1 l.val < 256 := by decide +kernel
theorem pw_k2 : ∀ l : Fin 256, ∀ h : Fin 4, ((h.val * 64 + l.val / 4) &&& 51) = ((l.val / 4) &&& 51) ∧ pw_t2 l.val < 256 := by decide +kernel
theorem pw_k3 : ∀ l : Fin 256, pw_t2 (pw_t1 l.val) % 16 ≤ 4 ∧ pw_t2 (pw_t1 l.val) / 16 ≤ 4 ∧ pw_t3 (pw_t2 (pw_t1 l.val)) = cntB (fun j => l.val.testBit j) 8 := by decide +kernel
theorem pw_k4 : ∀ h : Fin 5, ∀ a : Fin 5, ∀ b : Fin 5, (h.val * 16 + ((b.val * 16 + a.val) / 16 + (b.val * 16 + a.val))) &&& 15 = pw_t3 (b.val * 16 + a.val) := by decide +kernel
theorem s1_step (n h l : Nat) (hl : l < 256) : pw_s1 (n + 1) (h * 256 + l) = pw_s1 n h * 256 + pw_t1 l := by
 unfold pw_s1
 have e : (h * 256 + l) / 2 = (h / 2) * 256 + (h % 2 * 128 + l / 2) := by omega
 rw [e]
 simp only [rep8]
 rw [and_byte _ _ _ _ (by omega) (by decide), and_byte _ _ _ _ hl (by decide)]
 have kk := (pw_k1 ⟨l, hl⟩).1
 simp only at kk
 have : ((h % 2 * 128 + l / 2) &&& 85) = ((l / 2) &&& 85) := by
  rcases Nat.mod_two_eq_zero_or_one h with h0 | h0
  ·rw [h0]; simp
  ·rw [h0, kk]
 rw [this]
 unfold pw_t1
 omega
theorem s2_step (n h l : Nat) (hl : l < 256) : pw_s2 (n + 1) (h * 256 + l) = pw_s2 n h * 256 + pw_t2 l := by
 unfold pw_s2
 have e : (h * 256 + l) / 4 = (h / 4) * 256 + (h % 4 * 64 + l / 4) := by omega
 rw [e]
 simp only [rep8]
 rw [and_byte _ _ _ _ (by omega) (by decide), and_byte _ _ _ _ hl (by decide)]
 have kk := (pw_k2 ⟨l, hl⟩ ⟨h % 4, by omega⟩).1
 simp only at kk
 rw [kk]
 unfold pw_t2
 omega
theorem pw_mod : ∀ n x, pw_s2 n (pw_s1 n x) % 16 ≤ 4
 | 0, x => by simp [pw_s2, rep8]
 | n + 1, x => by
  have e : x = (x / 256) * 256 + x % 256 := by omega
  have hl : x % 256 < 256 := by omega
  have hk : pw_t1 (x % 256) < 256 := (pw_k1 ⟨x % 256, hl⟩).2
  have h3 : pw_t2 (pw_t1 (x % 256)) % 16 ≤ 4 := (pw_k3 ⟨x % 256, hl⟩).1
  rw [e, s1_step n _ _ hl, s2_step n _ _ hk]
  generalize pw_t2 (pw_t1 (x % 256)) = u at *
  omega
theorem y3_step (n h l : Nat) (hl : l < 256) : pw_s3 (n + 1) (pw_s2 (n + 1) (pw_s1 (n + 1) (h * 256 + l))) = pw_s3 n (pw_s2 n (pw_s1 n h)) * 256 + cntB (fun j => l.testBit j) 8 := by
 rw [s1_step n h l hl, s2_step n _ _ (pw_k1 ⟨l, hl⟩).2]
 have hm := pw_mod n h
 have hu := (pw_k2 ⟨pw_t1 l, (pw_k1 ⟨l, hl⟩).2⟩ ⟨0, by decide⟩).2
 have h3 := pw_k3 ⟨l, hl⟩
 simp only at hu h3
 obtain ⟨a1, a2, a3⟩ := h3
 generalize pw_s2 n (pw_s1 n h) = H at *
 generalize pw_t2 (pw_t1 l) = L at *
 unfold pw_s3
 have e : (H * 256 + L) / 16 + (H * 256 + L) = (H / 16 + H) * 256 + (H % 16 * 16 + (L / 16 + L)) := by omega
 rw [e]
 simp only [rep8]
 rw [and_byte _ _ _ _ (by omega) (by decide)]
 have kk := pw_k4 ⟨H % 16, by omega⟩ ⟨L % 16, by omega⟩ ⟨L / 16, by omega⟩
 simp only at kk
 rw [show L / 16 * 16 + L % 16 = L from by omega] at kk
 rw [kk, a3]
theorem cnt_bytes (h l m : Nat) (hl : l < 256) : cntB (fun j => (h * 256 + l).testBit j) (8 + m) = cntB (fun j => l.testBit j) 8 + cntB (fun j => h.testBit j) m := by
 rw [cntB_add]
 have e : (256 : Nat) = 2 ^ 8 := rfl
 congr 1
 ·apply cntB_congr
  intro x hx
  rw [Nat.mul_comm, e, Nat.testBit_two_pow_mul_add _ hl]
  simp [hx]
 ·apply cntB_congr
  intro x hx
  rw [Nat.mul_comm, e, Nat.testBit_two_pow_mul_add _ hl, if_neg (by omega), Nat.add_sub_cancel_left]
theorem y3_form (x : Nat) (hx : x < 18446744073709551616) : ∃ p0 p1 p2 p3 p4 p5 p6 p7 : Nat, p0 ≤ 8 ∧ p1 ≤ 8 ∧ p2 ≤ 8 ∧ p3 ≤ 8 ∧ p4 ≤ 8 ∧ p5 ≤ 8 ∧ p6 ≤ 8 ∧ p7 ≤ 8 ∧
  pw_s3 8 (pw_s2 8 (pw_s1 8 x)) = p0 + 256 * p1 + 65536 * p2 + 16777216 * p3 + 4294967296 * p4 + 1099511627776 * p5 + 281474976710656 * p6 + 72057594037927936 * p7 ∧ cntB (fun j => x.testBit j) 64 = p0 + p1 + p2 + p3 + p4 + p5 + p6 + p7 := by
 have st : ∀ n x, x < 256 * 256 ^ n → ∃ h l, l < 256 ∧ h < 256 ^ n ∧ x = h * 256 + l := fun n x hx => ⟨x / 256, x % 256, by omega, by omega, by omega⟩
 obtain ⟨x1, l0, hl0, h1, rfl⟩ := st 7 x hx
 obtain ⟨x2, l1, hl1, h2, rfl⟩ := st 6 x1 h1
 obtain ⟨x3, l2, hl2, h3, rfl⟩ := st 5 x2 h2
 obtain ⟨x4, l3, hl3, h4, rfl⟩ := st 4 x3 h3
 obtain ⟨x5, l4, hl4, h5, rfl⟩ := st 3 x4 h4
 obtain ⟨x6, l5, hl5, h6, rfl⟩ := st 2 x5 h5
 obtain ⟨x7, l6, hl6, h7, rfl⟩ := st 1 x6 h6
 obtain ⟨x8, l7, hl7, h8, rfl⟩ := st 0 x7 h7
 have hz : x8 = 0 := by simpa using h8
 subst hz
 refine ⟨_, _, _, _, _, _, _, _, cntB_le (fun j => l0.testBit j) 8, cntB_le (fun j => l1.testBit j) 8, cntB_le (fun j => l2.testBit j) 8, cntB_le (fun j => l3.testBit j) 8, cntB_le (fun j => l4.testBit j) 8, cntB_le (fun j => l5.testBit j) 8, cntB_le (fun j => l6.testBit j) 8, cntB_le (fun j => l7.testBit j) 8, ?_, ?_⟩
 ·rw [y3_step 7 _ _ hl0, y3_step 6 _ _ hl1, y3_step 5 _ _ hl2, y3_step 4 _ _ hl3, y3_step 3 _ _ hl4, y3_step 2 _ _ hl5, y3_step 1 _ _ hl6, y3_step 0 _ _ hl7]
  have z : pw_s3 0 (pw_s2 0 (pw_s1 0 0)) = 0 := by decide
  rw [z]
  omega
 ·have c := fun h l m hl => cnt_bytes h l m hl
  rw [show (64 : Nat) = 8 + 56 from rfl, c _ _ 56 hl0, show (56 : Nat) = 8 + 48 from rfl, c _ _ 48 hl1, show (48 : Nat) = 8 + 40 from rfl, c _ _ 40 hl2, show (40 : Nat) = 8 + 32 from rfl, c _ _ 32 hl3, show (32 : Nat) = 8 + 24 from rfl, c _ _ 24 hl4, show (24 : Nat) = 8 + 16 from rfl, c _ _ 16 hl5, show (16 : Nat) = 8 + 8 from rfl, c _ _ 8 hl6, show cntB (fun j => (0 * 256 + l7).testBit j) 8 = cntB (fun j => l7.testBit j) 8 by simp]
  omega
theorem div_256 (a q : Nat) (h : a < 256) : (a + 256 * q) / 256 = q := by omega
theorem div_65536 (a q : Nat) (h : a < 65536) : (a + 65536 * q) / 65536 = q := by omega
theorem div_32 (a q : Nat) (h : a < 4294967296) : (a + 4294967296 * q) / 4294967296 = q := by omega
theorem fold_bytes (p0 p1 p2 p3 p4 p5 p6 p7 : Nat) (b0 : p0 ≤ 8) (b1 : p1 ≤ 8) (b2 : p2 ≤ 8) (b3 : p3 ≤ 8) (b4 : p4 ≤ 8) (b5 : p5 ≤ 8) (b6 : p6 ≤ 8) (b7 : p7 ≤ 8) :
  let y3 := p0 + 256 * p1 + 65536 * p2 + 16777216 * p3 + 4294967296 * p4 + 1099511627776 * p5 + 281474976710656 * p6 + 72057594037927936 * p7
  y3 + y3 / 256 < 9223372036854775808 ∧ (y3 + y3 / 256) + (y3 + y3 / 256) / 65536 < 9223372036854775808 ∧
  ((y3 + y3 / 256) + (y3 + y3 / 256) / 65536) + ((y3 + y3 / 256) + (y3 + y3 / 256) / 65536) / 4294967296 < 9223372036854775808 ∧
  (((y3 + y3 / 256) + (y3 + y3 / 256) / 65536) + ((y3 + y3 / 256) + (y3 + y3 / 256) / 65536) / 4294967296) % 128 = p0 + p1 + p2 + p3 + p4 + p5 + p6 + p7 := by
 intro y3
 obtain ⟨Q6, hQ6⟩ : ∃ q, q = p6 + 256 * p7 := ⟨_, rfl⟩
 obtain ⟨Q5, hQ5⟩ : ∃ q, q = p5 + 256 * Q6 := ⟨_, rfl⟩
 obtain ⟨Q4, hQ4⟩ : ∃ q, q = p4 + 256 * Q5 := ⟨_, rfl⟩
 obtain ⟨Q3, hQ3⟩ : ∃ q, q = p3 + 256 * Q4 := ⟨_, rfl⟩
 obtain ⟨Q2, hQ2⟩ : ∃ q, q = p2 + 256 * Q3 := ⟨_, rfl⟩
 obtain ⟨Q1, hQ1⟩ : ∃ q, q = p1 + 256 * Q2 := ⟨_, rfl⟩
 have e3 : y3 = p0 + 256 * Q1 := by show p0 + 256 * p1 + 65536 * p2 + 16777216 * p3 + 4294967296 * p4 + 1099511627776 * p5 + 281474976710656 * p6 + 72057594037927936 * p7 = _; omega
 clear_value y3
 have l6 : Q6 ≤ 2056 := by omega
 have l5 : Q5 ≤ 526344 := by omega
 have l4 : Q4 ≤ 134744072 := by omega
 have l3 : Q3 ≤ 34494482440 := by omega
 have l2 : Q2 ≤ 8830587504648 := by omega
 have l1 : Q1 ≤ 2260630401189896 := by omega
 have d1 : y3 / 256 = Q1 := by rw [e3]; exact div_256 p0 Q1 (by omega)
 rw [d1]
 obtain ⟨L, hL⟩ : ∃ q, q = (p0 + p1) + 256 * (p1 + p2) := ⟨_, rfl⟩
 obtain ⟨g, hg⟩ : ∃ q, q = (p2 + p3) + 256 * (p3 + p4) := ⟨_, rfl⟩
 obtain ⟨r, hr⟩ : ∃ q, q = (p4 + p5) + 256 * (p5 + p6) := ⟨_, rfl⟩
 obtain ⟨R, hR⟩ : ∃ q, q = Q4 + Q5 := ⟨_, rfl⟩
 obtain ⟨S, hS⟩ : ∃ q, q = Q6 + p7 := ⟨_, rfl⟩
 have lL : L ≤ 4112 := by omega
 have lg : g ≤ 4112 := by omega
 have lr : r ≤ 4112 := by omega
 have eR : R = r + 65536 * S := by rw [hR, hr, hS, hQ4, hQ5, hQ6]; omega
 have e23 : Q2 + Q3 = g + 65536 * R := by rw [hQ2, hQ3, hg, hR, hQ4]; omega
 have e4 : y3 + Q1 = L + 65536 * (Q2 + Q3) := by rw [e3, hQ1, hQ2, hL]; omega
 have d2 : (y3 + Q1) / 65536 = Q2 + Q3 := by rw [e4]; exact div_65536 L _ (by omega)
 rw [d2]
 have lS : S ≤ 2064 := by omega
 have e5 : (y3 + Q1) + (Q2 + Q3) = (L + g + 65536 * (g + r)) + 4294967296 * (S + R) := by rw [e4, e23, eR]; omega
 have d3 : ((y3 + Q1) + (Q2 + Q3)) / 4294967296 = S + R := by rw [e5]; exact div_32 _ _ (by omega)
 rw [d3]
 have b3' : (y3 + Q1) + (Q2 + Q3) < 4611686018427387904 := by omega
 refine ⟨by omega, by omega, by omega, ?_⟩
 rw [e5, eR, hS, hQ6, hr, hL, hg]
 clear e5 d3 d2 d1 e4 e23 eR b3' e3 hQ1 hQ2 hQ3 hQ4 hQ5 hQ6 hR hS
 omega
theorem swar (x : Nat) (hx : x < 18446744073709551616) : ∃ p1 q1 p2 q2 y3 : Nat, (x / 2) &&& 6148914691236517205 = p1 ∧ x &&& 6148914691236517205 = q1 ∧ p1 + q1 < 18446744073709551616 ∧
  ((p1 + q1) / 4) &&& 3689348814741910323 = p2 ∧ (p1 + q1) &&& 3689348814741910323 = q2 ∧ p2 + q2 < 18446744073709551616 ∧ (p2 + q2) / 16 + (p2 + q2) < 18446744073709551616 ∧
  ((p2 + q2) / 16 + (p2 + q2)) &&& 1085102592571150095 = y3 ∧ y3 + y3 / 256 < 9223372036854775808 ∧
  (y3 + y3 / 256) + (y3 + y3 / 256) / 65536 < 9223372036854775808 ∧
  ((y3 + y3 / 256) + (y3 + y3 / 256) / 65536) + ((y3 + y3 / 256) + (y3 + y3 / 256) / 65536) / 4294967296 < 9223372036854775808 ∧
  (((y3 + y3 / 256) + (y3 + y3 / 256) / 65536) + ((y3 + y3 / 256) + (y3 + y3 / 256) / 65536) / 4294967296) % 128 = cntB (fun j => x.testBit j) 64 := by
 obtain ⟨p0, p1, p2, p3, p4, p5, p6, p7, b0, b1, b2, b3, b4, b5, b6, b7, he, hc⟩ := y3_form x hx
 have e1 : rep8 85 8 = 6148914691236517205 := by decide
 have e2 : rep8 51 8 = 3689348814741910323 := by decide
 have e3 : rep8 15 8 = 1085102592571150095 := by decide
 unfold pw_s3 pw_s2 pw_s1 at he
 rw [e1, e2, e3] at he
 have l1 : (x / 2) &&& 6148914691236517205 ≤ 6148914691236517205 := Nat.and_le_right
 have l2 : x &&& 6148914691236517205 ≤ 6148914691236517205 := Nat.and_le_right
 refine ⟨_, _, _, _, _, rfl, rfl, by omega, rfl, rfl, ?_, ?_, rfl, ?_⟩
 ·have l3 : (((x / 2) &&& 6148914691236517205) + (x &&& 6148914691236517205)) / 4 &&& 3689348814741910323 ≤ 3689348814741910323 := Nat.and_le_right
  have l4 : (((x / 2) &&& 6148914691236517205) + (x &&& 6148914691236517205)) &&& 3689348814741910323 ≤ 3689348814741910323 := Nat.and_le_right
  omega
 ·have l3 : (((x / 2) &&& 6148914691236517205) + (x &&& 6148914691236517205)) / 4 &&& 3689348814741910323 ≤ 3689348814741910323 := Nat.and_le_right
  have l4 : (((x / 2) &&& 6148914691236517205) + (x &&& 6148914691236517205)) &&& 3689348814741910323 ≤ 3689348814741910323 := Nat.and_le_right
  omega
 ·rw [he, hc]
  clear he hc e1 e2 e3 l1 l2 hx
  exact fold_bytes p0 p1 p2 p3 p4 p5 p6 p7 b0 b1 b2 b3 b4 b5 b6 b7
end Go.Proofs.YtbbicappjicblaaGreatDoor.Bs
namespace Go.Proofs.YtbbicappjicblaaGreatDoor.Bs
open Go.RowKit Go.Deep
set_option linter.unusedVariables false
theorem hide {p : Prop} (h : p) : Hid p := h
theorem unhide {p : Prop} (h : Hid p) : p := h
theorem drewN_add (w : World) (a b : Nat) : (w.drewN a).drewN b = w.drewN (a + b) := by simp [World.drewN, Nat.add_assoc]
theorem bel_drewN {B : Nat} {a w : World} (h : Below B a w) (k : Nat) : Below B a (w.drewN k) := ⟨h.os, h.tape, h.output, h.size, h.block⟩

theorem cell_of_block {w : World} {b : Nat} {cur : Array Value} {e : TypeId} {fr : Nat × Nat} (h : w.heap[b]? = some (.cells cur e fr)) (i : Nat) : w.cell? ⟨b, i, none⟩ = cur[i]? := by
 simp [World.cell?, h]
theorem frozen_of_block {w : World} {b : Nat} {cur : Array Value} {e : TypeId} (h : w.heap[b]? = some (.cells cur e)) (i : Nat) : w.frozen? ⟨b, i, none⟩ = false := by
 simp [World.frozen?, h]
theorem alloc_block (w : World) (o : Obj) : (w.alloc o).heap[w.heap.size]? = some o := by
 show (w.heap.push o)[w.heap.size]? = some o
 simp
theorem addr_add (b off j : Nat) : (⟨b, off, none⟩ : Addr).add j = ⟨b, off + j, none⟩ := by unfold Addr.add; split <;> simp_all

theorem below_cell {w w' : World} (hb : Below w.heap.size w w') {p : Addr} {v : Value} (h : w.cell? p = some v) : w'.cell? p = some v := by
 rw [hb.cell (World.block_lt_of_cell? _ _ h)]; exact h

structure Chg (S : Nat → Prop) (w w' : World) : Prop where
 os : w'.os = w.os
 tape : w'.tape = w.tape
 output : w'.output = w.output
 size : w.heap.size ≤ w'.heap.size
 block : ∀ k, k < w.heap.size → ¬ S k → w'.heap[k]? = w.heap[k]?
theorem Chg.refl (S : Nat → Prop) (w : World) : Chg S w w := ⟨rfl, rfl, rfl, Nat.le_refl _, fun _ _ _ => rfl⟩
theorem Chg.trans {S : Nat → Prop} {a b c : World} (h : Chg S a b) (k : Chg S b c) : Chg S a c :=
 ⟨k.os.trans h.os, k.tape.trans h.tape, k.output.trans h.output, Nat.le_trans h.size k.size, fun i hi hs => (k.block i (Nat.lt_of_lt_of_le hi h.size) hs).trans (h.block i hi hs)⟩
theorem Chg.mono {S T : Nat → Prop} {w w' : World} (h : Chg S w w') (hs : ∀ k, k < w.heap.size → S k → T k) : Chg T w w' :=
 ⟨h.os, h.tape, h.output, h.size, fun k hk hn => h.block k hk (fun hh => hn (hs k hk hh))⟩
theorem Chg.of_below {S : Nat → Prop} {w w' : World} (h : Below w.heap.size w w') : Chg S w w' :=
 ⟨h.os, h.tape, h.output, h.size, fun k hk _ => h.block k hk⟩
theorem Chg.of_set {S : Nat → Prop} (w : World) (b i : Nat) (v : Value) (hb : S b) : Chg S w (w.setCell ⟨b, i, none⟩ v) :=
 ⟨rfl, rfl, rfl, by simp, fun k hk hs => Below.heap_setCell w _ v k (fun e => by subst e; exact hs hb)⟩
theorem Chg.drew {S : Nat → Prop} {w w' : World} (h : Chg S w w') : Chg S w w'.drew := ⟨h.os, h.tape, h.output, h.size, h.block⟩
theorem Chg.below {S : Nat → Prop} {w w' : World} {B : Nat} (h : Chg S w w') (hB : B ≤ w.heap.size) (hs : ∀ k, k < B → ¬ S k) : Below B w w' :=
 ⟨h.os, h.tape, h.output, h.size, fun k hk => h.block k (by omega) (hs k hk)⟩
theorem Chg.cell {S : Nat → Prop} {w w' : World} (h : Chg S w w') {b i : Nat} {v : Value} (hs : ¬ S b) (hc : w.cell? ⟨b, i, none⟩ = some v) : w'.cell? ⟨b, i, none⟩ = some v := by
 have hlt := World.block_lt_of_cell? _ _ hc
 rw [World.cell?_of_block (w := w) (h.block b hlt hs)]; exact hc
theorem Chg.froz {S : Nat → Prop} {w w' : World} (h : Chg S w w') {b i : Nat} (hlt : b < w.heap.size) (hs : ¬ S b) : w'.frozen? ⟨b, i, none⟩ = w.frozen? ⟨b, i, none⟩ :=
 World.frozen?_of_block (w := w) (h.block b hlt hs)

section
variable {α : Type} {g : α → Value} {d : α}

structure SlG (g : α → Value) (d : α) (w : World) (a : Option Addr) (n c : Nat) (xs : List α) : Prop where
 len : xs.length = n
 le : n ≤ c
 cap : c ≤ maxLen
 cells : xs = [] ∨ ∃ b off, a = some ⟨b, off, none⟩ ∧ ∀ i, i < xs.length → w.cell? ⟨b, off + i, none⟩ = some (g (xs.getD i d))

theorem SlG.below {w w' : World} {a : Option Addr} {n c : Nat} {xs : List α} (h : SlG g d w a n c xs) (hb : Below w.heap.size w w') : SlG g d w' a n c xs :=
 ⟨h.len, h.le, h.cap, h.cells.imp id (fun ⟨b, off, e, k⟩ => ⟨b, off, e, fun i hi => below_cell hb (k i hi)⟩)⟩
theorem SlG.drewN {w : World} {a : Option Addr} {n c : Nat} {xs : List α} (h : SlG g d w a n c xs) (k : Nat) : SlG g d (w.drewN k) a n c xs :=
 h.below (bel_drewN (Below.refl _ _) k)
theorem SlG.at {w : World} {a : Option Addr} {n c : Nat} {xs : List α} (h : SlG g d w a n c xs) (hn : 0 < n) : ∃ b off, a = some ⟨b, off, none⟩ ∧ ∀ i, i < n → w.cell? ⟨b, off + i, none⟩ = some (g (xs.getD i d)) := by
 rcases h.cells with e | ⟨b, off, e, k⟩
 ·have := h.len; rw [e] at this; simp at this; omega
 ·exact ⟨b, off, e, fun i hi => k i (by rw [h.len]; exact hi)⟩
theorem SlG.nil (w : World) : SlG g d w none 0 0 [] := ⟨rfl, Nat.le_refl _, Nat.zero_le _, .inl rfl⟩
theorem SlG.pre {w : World} {a : Option Addr} {n c m : Nat} {xs : List α} (h : SlG g d w a n c xs) (hm : m ≤ n) : SlG g d w a m c (xs.take m) := by
 have hl : (xs.take m).length = m := by simp [h.len]; omega
 refine ⟨hl, Nat.le_trans hm h.le, h.cap, ?_⟩
 by_cases h0 : m = 0
 ·left; subst h0; simp
 ·right
  obtain ⟨b, off, e, k⟩ := h.at (by omega)
  refine ⟨b, off, e, fun i hi => ?_⟩
  rw [hl] at hi
  rw [k i (by omega)]
  simp [List.getD, hi]

def FnG (g : α → Value) (w : World) (b off n : Nat) (f : Nat → α) : Prop :=
 ∀ i, i < n → w.cell? ⟨b, off + i, none⟩ = some (g (f i)) ∧ w.frozen? ⟨b, off + i, none⟩ = false

theorem FnG.set {w : World} {b off n : Nat} {f : Nat → α} (h : FnG g w b off n f) (k : Nat) (v : α) (hk : k < n) :
  FnG g (w.setCell ⟨b, off + k, none⟩ (g v)) b off n (fun i => if i = k then v else f i) := by
 intro i hi
 refine ⟨?_, by rw [World.frozen?_setCell]; exact (h i hi).2⟩
 by_cases e : i = k
 ·subst e
  rw [World.cell?_setCell_same _ _ _ (h i hi).1]
  simp
 ·rw [World.cell?_setCell_other _ _ _ _ (by intro h; injection h with h1 h2; omega)]
  simp [e, (h i hi).1]
theorem FnG.congr {w : World} {b off n : Nat} {f f' : Nat → α} (h : FnG g w b off n f) (he : ∀ i, i < n → f i = f' i) : FnG g w b off n f' := by
 intro i hi
 rw [← he i hi]; exact h i hi
theorem FnG.below {w w' : World} {b off n : Nat} {f : Nat → α} (h : FnG g w b off n f) (hb : Below w.heap.size w w') : FnG g w' b off n f := by
 intro i hi
 have hlt := World.block_lt_of_cell? _ _ (h i hi).1
 exact ⟨below_cell hb (h i hi).1, by rw [hb.frozen hlt]; exact (h i hi).2⟩
theorem FnG.other {w : World} {b off n : Nat} {f : Nat → α} (h : FnG g w b off n f) (b' i : Nat) (v : Value) (hne : b' ≠ b) : FnG g (w.setCell ⟨b', i, none⟩ v) b off n f := by
 intro j hj
 refine ⟨?_, by rw [World.frozen?_setCell]; exact (h j hj).2⟩
 rw [World.cell?_setCell_other _ _ _ _ (by intro h; injection h with h1 h2; exact hne h1)]
 exact (h j hj).1
theorem FnG.chg {S : Nat → Prop} {w w' : World} {b off n : Nat} {f : Nat → α} (h : FnG g w b off n f) (k : Chg S w w') (hs : ¬ S b) : FnG g w' b off n f := by
 intro i hi
 have hlt := World.block_lt_of_cell? _ _ (h i hi).1
 exact ⟨k.cell hs (h i hi).1, by rw [k.froz hlt hs]; exact (h i hi).2⟩
theorem SlG.chg {S : Nat → Prop} {w w' : World} {a : Option Addr} {n c : Nat} {xs : List α} (h : SlG g d w a n c xs) (k : Chg S w w') (hs : ∀ x, a = some x → x.block < w.heap.size → ¬ S x.block) : SlG g d w' a n c xs := by
 refine ⟨h.len, h.le, h.cap, ?_⟩
 rcases h.cells with e | ⟨b, off, e, hc⟩
 ·exact .inl e
 ·by_cases h0 : xs = []
  ·exact .inl h0
  ·refine .inr ⟨b, off, e, fun i hi => k.cell ?_ (hc i hi)⟩
   have hlt := World.block_lt_of_cell? _ _ (hc i hi)
   exact hs _ e hlt
theorem FnG.made (w : World) (n : Nat) (e : TypeId) (z : α) (hz : (g z).cells = #[g z]) : FnG g (w.alloc (.cells (madeCells #[g z] n) e)) w.heap.size 0 n (fun _ => z) := by
 intro i hi
 refine ⟨?_, by simp⟩
 simp [madeCells, hi, Nat.mod_one]

def lstG (f : Nat → α) (n : Nat) : List α := (List.range n).map f
theorem lstG_len (f : Nat → α) (n : Nat) : (lstG f n).length = n := by simp [lstG]
theorem lstG_getD (f : Nat → α) (n i : Nat) (d : α) (h : i < n) : (lstG f n).getD i d = f i := by simp [lstG, List.getD, h]
theorem lstG_self (xs : List α) (d : α) : lstG (fun i => xs.getD i d) xs.length = xs := by
 apply List.ext_getElem (by simp [lstG])
 intro i h1 h2
 simp [lstG, List.getD, h2]
theorem FnG.sl {w : World} {b off n c : Nat} {f : Nat → α} (h : FnG g w b off n f) (hc : n ≤ c) (hm : c ≤ maxLen) : SlG g d w (some ⟨b, off, none⟩) n c (lstG f n) := by
 refine ⟨lstG_len f n, hc, hm, .inr ⟨_, _, rfl, ?_⟩⟩
 intro i hi
 rw [lstG_len] at hi
 rw [lstG_getD f n i d hi]; exact (h i hi).1
end

def vU (x : Nat) : Value := .int .u64 (x : Nat)
def vI (x : Int) : Value := .int .i64 x
def vB (x : Bool) : Value := .bool x
abbrev SlW := SlG vU 0
abbrev SlI := SlG vI 0
abbrev SlB := SlG vB false
abbrev FnW := FnG vU
abbrev FnB := FnG vB

theorem info_parts {P : Program} {e : TypeId} {z : Value} {s b : Nat} (h : (P.info? e).map (fun i => (i.zero, i.size, i.bytes)) = some (some z, s, b)) : ∃ i, P.info? e = some i ∧ i.zero = some z ∧ i.size = s ∧ i.bytes = b := by
 obtain ⟨i, hi, hzz⟩ := Option.map_eq_some_iff.1 h
 simp only [Prod.mk.injEq] at hzz
 exact ⟨i, hi, hzz.1, hzz.2.1, hzz.2.2⟩
theorem own_ge {w : World} {base : Nat} {e : TypeId} {size : Nat} {v : Value} {n : Nat} {xs : List Value} (h : w.ownsRow base e size v n xs) : ∀ k, v.ownBlock = some k → base ≤ k ∧ k < w.heap.size := by
 intro k hk
 rcases h.2 with ⟨h2, h3⟩ | ⟨g', cap, cur, h3, h4, h5, h6, h7, h8, h9⟩
 ·subst h2; cases hk
 ·subst h3
  simp [Value.ownBlock] at hk
  subst hk
  refine ⟨h4, ?_⟩
  rcases Nat.lt_or_ge g' w.heap.size with hlt | hge
  ·exact hlt
  ·rw [Array.getElem?_eq_none hge] at h5; cases h5

theorem own_fn {α : Type} {g : α → Value} {w : World} {base b n c : Nat} {e : TypeId} {xs : List α} (d : α) (h : w.ownsRow base e 1 (.slice (some ⟨b, 0, none⟩) n c) n (xs.map g)) : xs.length = n ∧ n ≤ c ∧ c ≤ maxLen ∧ base ≤ b ∧ FnG g w b 0 n (fun i => xs.getD i d) := by
 obtain ⟨hl, h⟩ := h
 simp at hl
 rcases h with ⟨h2, _⟩ | ⟨g', cap, cur, h3, h4, h5, h6, h7, h8, h9⟩
 ·cases h2
 ·cases h3
  refine ⟨hl, h6, h7, h4, fun i hi => ⟨?_, frozen_of_block h5 _⟩⟩
  rw [Nat.zero_add, cell_of_block h5]
  have : (cur.toList.take (n * 1))[i]? = (xs.map g)[i]? := by rw [h9]
  simp [hi, show i < xs.length from by omega] at this
  rw [this]
  simp [List.getD, show i < xs.length from by omega]
end Go.Proofs.YtbbicappjicblaaGreatDoor.Bs
