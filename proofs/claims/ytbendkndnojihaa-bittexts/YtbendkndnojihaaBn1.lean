/-
  HOW MANY BITS A WORD HAS, plain. No Go here.
-/
import Derived.Test.YtbendkndnojihaaBt1
namespace Go.Proofs.Ytbendkndnojihaa
set_option linter.unusedVariables false
/-- How many of the first n are in P. -/
def cntB (P : Nat → Bool) : Nat → Nat
  | 0 => 0
  | n + 1 => cntB P n + (if P n then 1 else 0)
theorem cntB_le (P : Nat → Bool) : ∀ n, cntB P n ≤ n
  | 0 => Nat.le_refl _
  | n + 1 => by simp only [cntB]; have := cntB_le P n; split <;> omega
theorem cntB_congr {P Q : Nat → Bool} : ∀ {n : Nat}, (∀ x, x < n → P x = Q x) → cntB P n = cntB Q n
  | 0, _ => rfl
  | n + 1, h => by simp only [cntB]; rw [cntB_congr (fun x hx => h x (by omega)), h n (by omega)]
theorem cntB_add (P : Nat → Bool) (a : Nat) : ∀ b, cntB P (a + b) = cntB P a + cntB (fun x => P (a + x)) b
  | 0 => rfl
  | b + 1 => by
    show cntB P (a + b + 1) = _
    simp only [cntB]
    rw [cntB_add P a b, Nat.add_assoc]

/-- c in each of n bytes. -/
def rep8 (c : Nat) : Nat → Nat
  | 0 => 0
  | n + 1 => rep8 c n * 256 + c
theorem and_byte (a b c d : Nat) (hb : b < 256) (hd : d < 256) : (a * 256 + b) &&& (c * 256 + d) = (a &&& c) * 256 + (b &&& d) := by
  have hbd : b &&& d < 256 := Nat.lt_of_le_of_lt Nat.and_le_left hb
  have e : (256 : Nat) = 2 ^ 8 := rfl
  apply Nat.eq_of_testBit_eq
  intro j
  rw [Nat.testBit_and, Nat.mul_comm a, Nat.mul_comm c, Nat.mul_comm (a &&& c), e, Nat.testBit_two_pow_mul_add _ hb, Nat.testBit_two_pow_mul_add _ hd, Nat.testBit_two_pow_mul_add _ hbd]
  split
  · rw [Nat.testBit_and]
  · rw [Nat.testBit_and]
def pw_t1 (l : Nat) : Nat := ((l / 2) &&& 85) + (l &&& 85)
def pw_t2 (l : Nat) : Nat := ((l / 4) &&& 51) + (l &&& 51)
def pw_t3 (l : Nat) : Nat := (l / 16 + l) &&& 15
def pw_s1 (n x : Nat) : Nat := ((x / 2) &&& rep8 85 n) + (x &&& rep8 85 n)
def pw_s2 (n x : Nat) : Nat := ((x / 4) &&& rep8 51 n) + (x &&& rep8 51 n)
def pw_s3 (n x : Nat) : Nat := (x / 16 + x) &&& rep8 15 n
theorem pw_k1 : ∀ l : Fin 256, ((l.val / 2) &&& 85) = ((128 + l.val / 2) &&& 85) ∧ pw_t1 l.val < 256 := by decide +kernel
theorem pw_k2 : ∀ l : Fin 256, ∀ h : Fin 4, ((h.val * 64 + l.val / 4) &&& 51) = ((l.val / 4) &&& 51) ∧ pw_t2 l.val < 256 := by decide +kernel
theorem pw_k3 : ∀ l : Fin 256, pw_t2 (pw_t1 l.val) % 16 ≤ 4 ∧ pw_t2 (pw_t1 l.val) / 16 ≤ 4 ∧ pw_t3 (pw_t2 (pw_t1 l.val)) = cntB (fun j => l.val.testBit j) 8 := by decide +kernel
theorem pw_k4 : ∀ h : Fin 5, ∀ a : Fin 5, ∀ b : Fin 5, (h.val * 16 + ((b.val * 16 + a.val) / 16 + (b.val * 16 + a.val))) &&& 15 = pw_t3 (b.val * 16 + a.val) := by decide +kernel
theorem s1_step (n h l : Nat) (hl : l < 256) : pw_s1 (n + 1) (h * 256 + l) = pw_s1 n h * 256 + pw_t1 l := by
  unfold pw_s1
  have e : (h * 256 + l) / 2 = (h / 2) * 256 + (h % 2 * 128 + l / 2) := by omega
  rw [e]
  simp only [rep8]
  rw [and_byte _ _ _ _ (by omega) (by decide), and_byte _ _ _ _ hl (by decide)]
  have kk := (pw_k1 ⟨l, hl⟩).1
  simp only at kk
  have : ((h % 2 * 128 + l / 2) &&& 85) = ((l / 2) &&& 85) := by
    rcases Nat.mod_two_eq_zero_or_one h with h0 | h0
    · rw [h0]; simp
    · rw [h0, kk]
  rw [this]
  unfold pw_t1
  omega
theorem s2_step (n h l : Nat) (hl : l < 256) : pw_s2 (n + 1) (h * 256 + l) = pw_s2 n h * 256 + pw_t2 l := by
  unfold pw_s2
  have e : (h * 256 + l) / 4 = (h / 4) * 256 + (h % 4 * 64 + l / 4) := by omega
  rw [e]
  simp only [rep8]
  rw [and_byte _ _ _ _ (by omega) (by decide), and_byte _ _ _ _ hl (by decide)]
  have kk := (pw_k2 ⟨l, hl⟩ ⟨h % 4, by omega⟩).1
  simp only at kk
  rw [kk]
  unfold pw_t2
  omega
theorem pw_mod : ∀ n x, pw_s2 n (pw_s1 n x) % 16 ≤ 4
  | 0, x => by simp [pw_s2, rep8]
  | n + 1, x => by
    have e : x = (x / 256) * 256 + x % 256 := by omega
    have hl : x % 256 < 256 := by omega
    have hk : pw_t1 (x % 256) < 256 := (pw_k1 ⟨x % 256, hl⟩).2
    have h3 : pw_t2 (pw_t1 (x % 256)) % 16 ≤ 4 := (pw_k3 ⟨x % 256, hl⟩).1
    rw [e, s1_step n _ _ hl, s2_step n _ _ hk]
    generalize pw_t2 (pw_t1 (x % 256)) = u at *
    omega
theorem y3_step (n h l : Nat) (hl : l < 256) : pw_s3 (n + 1) (pw_s2 (n + 1) (pw_s1 (n + 1) (h * 256 + l))) = pw_s3 n (pw_s2 n (pw_s1 n h)) * 256 + cntB (fun j => l.testBit j) 8 := by
  rw [s1_step n h l hl, s2_step n _ _ (pw_k1 ⟨l, hl⟩).2]
  have hm := pw_mod n h
  have hu := (pw_k2 ⟨pw_t1 l, (pw_k1 ⟨l, hl⟩).2⟩ ⟨0, by decide⟩).2
  have h3 := pw_k3 ⟨l, hl⟩
  simp only at hu h3
  obtain ⟨a1, a2, a3⟩ := h3
  generalize pw_s2 n (pw_s1 n h) = H at *
  generalize pw_t2 (pw_t1 l) = L at *
  unfold pw_s3
  have e : (H * 256 + L) / 16 + (H * 256 + L) = (H / 16 + H) * 256 + (H % 16 * 16 + (L / 16 + L)) := by omega
  rw [e]
  simp only [rep8]
  rw [and_byte _ _ _ _ (by omega) (by decide)]
  have kk := pw_k4 ⟨H % 16, by omega⟩ ⟨L % 16, by omega⟩ ⟨L / 16, by omega⟩
  simp only at kk
  rw [show L / 16 * 16 + L % 16 = L from by omega] at kk
  rw [kk, a3]
theorem cnt_bytes (h l m : Nat) (hl : l < 256) : cntB (fun j => (h * 256 + l).testBit j) (8 + m) = cntB (fun j => l.testBit j) 8 + cntB (fun j => h.testBit j) m := by
  rw [cntB_add]
  have e : (256 : Nat) = 2 ^ 8 := rfl
  congr 1
  · apply cntB_congr
    intro x hx
    rw [Nat.mul_comm, e, Nat.testBit_two_pow_mul_add _ hl]
    simp [hx]
  · apply cntB_congr
    intro x hx
    rw [Nat.mul_comm, e, Nat.testBit_two_pow_mul_add _ hl, if_neg (by omega), Nat.add_sub_cancel_left]
/-- The bytes hold how many bits each has. -/
theorem y3_form (x : Nat) (hx : x < 18446744073709551616) : ∃ p0 p1 p2 p3 p4 p5 p6 p7 : Nat, p0 ≤ 8 ∧ p1 ≤ 8 ∧ p2 ≤ 8 ∧ p3 ≤ 8 ∧ p4 ≤ 8 ∧ p5 ≤ 8 ∧ p6 ≤ 8 ∧ p7 ≤ 8 ∧
    pw_s3 8 (pw_s2 8 (pw_s1 8 x)) = p0 + 256 * p1 + 65536 * p2 + 16777216 * p3 + 4294967296 * p4 + 1099511627776 * p5 + 281474976710656 * p6 + 72057594037927936 * p7 ∧ cntB (fun j => x.testBit j) 64 = p0 + p1 + p2 + p3 + p4 + p5 + p6 + p7 := by
  have st : ∀ n x, x < 256 * 256 ^ n → ∃ h l, l < 256 ∧ h < 256 ^ n ∧ x = h * 256 + l := fun n x hx => ⟨x / 256, x % 256, by omega, by omega, by omega⟩
  obtain ⟨x1, l0, hl0, h1, rfl⟩ := st 7 x hx
  obtain ⟨x2, l1, hl1, h2, rfl⟩ := st 6 x1 h1
  obtain ⟨x3, l2, hl2, h3, rfl⟩ := st 5 x2 h2
  obtain ⟨x4, l3, hl3, h4, rfl⟩ := st 4 x3 h3
  obtain ⟨x5, l4, hl4, h5, rfl⟩ := st 3 x4 h4
  obtain ⟨x6, l5, hl5, h6, rfl⟩ := st 2 x5 h5
  obtain ⟨x7, l6, hl6, h7, rfl⟩ := st 1 x6 h6
  obtain ⟨x8, l7, hl7, h8, rfl⟩ := st 0 x7 h7
  have hz : x8 = 0 := by simpa using h8
  subst hz
  refine ⟨_, _, _, _, _, _, _, _, cntB_le (fun j => l0.testBit j) 8, cntB_le (fun j => l1.testBit j) 8, cntB_le (fun j => l2.testBit j) 8, cntB_le (fun j => l3.testBit j) 8, cntB_le (fun j => l4.testBit j) 8, cntB_le (fun j => l5.testBit j) 8, cntB_le (fun j => l6.testBit j) 8, cntB_le (fun j => l7.testBit j) 8, ?_, ?_⟩
  · rw [y3_step 7 _ _ hl0, y3_step 6 _ _ hl1, y3_step 5 _ _ hl2, y3_step 4 _ _ hl3, y3_step 3 _ _ hl4, y3_step 2 _ _ hl5, y3_step 1 _ _ hl6, y3_step 0 _ _ hl7]
    have z : pw_s3 0 (pw_s2 0 (pw_s1 0 0)) = 0 := by decide
    rw [z]
    omega
  · have c := fun h l m hl => cnt_bytes h l m hl
    rw [show (64 : Nat) = 8 + 56 from rfl, c _ _ 56 hl0, show (56 : Nat) = 8 + 48 from rfl, c _ _ 48 hl1, show (48 : Nat) = 8 + 40 from rfl, c _ _ 40 hl2, show (40 : Nat) = 8 + 32 from rfl, c _ _ 32 hl3, show (32 : Nat) = 8 + 24 from rfl, c _ _ 24 hl4, show (24 : Nat) = 8 + 16 from rfl, c _ _ 16 hl5, show (16 : Nat) = 8 + 8 from rfl, c _ _ 8 hl6, show cntB (fun j => (0 * 256 + l7).testBit j) 8 = cntB (fun j => l7.testBit j) 8 by simp]
    omega
theorem div_256 (a q : Nat) (h : a < 256) : (a + 256 * q) / 256 = q := by omega
theorem div_65536 (a q : Nat) (h : a < 65536) : (a + 65536 * q) / 65536 = q := by omega
theorem div_32 (a q : Nat) (h : a < 4294967296) : (a + 4294967296 * q) / 4294967296 = q := by omega
theorem fold_bytes (p0 p1 p2 p3 p4 p5 p6 p7 : Nat) (b0 : p0 ≤ 8) (b1 : p1 ≤ 8) (b2 : p2 ≤ 8) (b3 : p3 ≤ 8) (b4 : p4 ≤ 8) (b5 : p5 ≤ 8) (b6 : p6 ≤ 8) (b7 : p7 ≤ 8) :
    let y3 := p0 + 256 * p1 + 65536 * p2 + 16777216 * p3 + 4294967296 * p4 + 1099511627776 * p5 + 281474976710656 * p6 + 72057594037927936 * p7
    y3 + y3 / 256 < 9223372036854775808 ∧ (y3 + y3 / 256) + (y3 + y3 / 256) / 65536 < 9223372036854775808 ∧
    ((y3 + y3 / 256) + (y3 + y3 / 256) / 65536) + ((y3 + y3 / 256) + (y3 + y3 / 256) / 65536) / 4294967296 < 9223372036854775808 ∧
    (((y3 + y3 / 256) + (y3 + y3 / 256) / 65536) + ((y3 + y3 / 256) + (y3 + y3 / 256) / 65536) / 4294967296) % 128 = p0 + p1 + p2 + p3 + p4 + p5 + p6 + p7 := by
  intro y3
  obtain ⟨Q6, hQ6⟩ : ∃ q, q = p6 + 256 * p7 := ⟨_, rfl⟩
  obtain ⟨Q5, hQ5⟩ : ∃ q, q = p5 + 256 * Q6 := ⟨_, rfl⟩
  obtain ⟨Q4, hQ4⟩ : ∃ q, q = p4 + 256 * Q5 := ⟨_, rfl⟩
  obtain ⟨Q3, hQ3⟩ : ∃ q, q = p3 + 256 * Q4 := ⟨_, rfl⟩
  obtain ⟨Q2, hQ2⟩ : ∃ q, q = p2 + 256 * Q3 := ⟨_, rfl⟩
  obtain ⟨Q1, hQ1⟩ : ∃ q, q = p1 + 256 * Q2 := ⟨_, rfl⟩
  have e3 : y3 = p0 + 256 * Q1 := by show p0 + 256 * p1 + 65536 * p2 + 16777216 * p3 + 4294967296 * p4 + 1099511627776 * p5 + 281474976710656 * p6 + 72057594037927936 * p7 = _; omega
  clear_value y3
  have l6 : Q6 ≤ 2056 := by omega
  have l5 : Q5 ≤ 526344 := by omega
  have l4 : Q4 ≤ 134744072 := by omega
  have l3 : Q3 ≤ 34494482440 := by omega
  have l2 : Q2 ≤ 8830587504648 := by omega
  have l1 : Q1 ≤ 2260630401189896 := by omega
  have d1 : y3 / 256 = Q1 := by rw [e3]; exact div_256 p0 Q1 (by omega)
  rw [d1]
  obtain ⟨L, hL⟩ : ∃ q, q = (p0 + p1) + 256 * (p1 + p2) := ⟨_, rfl⟩
  obtain ⟨g, hg⟩ : ∃ q, q = (p2 + p3) + 256 * (p3 + p4) := ⟨_, rfl⟩
  obtain ⟨r, hr⟩ : ∃ q, q = (p4 + p5) + 256 * (p5 + p6) := ⟨_, rfl⟩
  obtain ⟨R, hR⟩ : ∃ q, q = Q4 + Q5 := ⟨_, rfl⟩
  obtain ⟨S, hS⟩ : ∃ q, q = Q6 + p7 := ⟨_, rfl⟩
  have lL : L ≤ 4112 := by omega
  have lg : g ≤ 4112 := by omega
  have lr : r ≤ 4112 := by omega
  have eR : R = r + 65536 * S := by rw [hR, hr, hS, hQ4, hQ5, hQ6]; omega
  have e23 : Q2 + Q3 = g + 65536 * R := by rw [hQ2, hQ3, hg, hR, hQ4]; omega
  have e4 : y3 + Q1 = L + 65536 * (Q2 + Q3) := by rw [e3, hQ1, hQ2, hL]; omega
  have d2 : (y3 + Q1) / 65536 = Q2 + Q3 := by rw [e4]; exact div_65536 L _ (by omega)
  rw [d2]
  have lS : S ≤ 2064 := by omega
  have e5 : (y3 + Q1) + (Q2 + Q3) = (L + g + 65536 * (g + r)) + 4294967296 * (S + R) := by rw [e4, e23, eR]; omega
  have d3 : ((y3 + Q1) + (Q2 + Q3)) / 4294967296 = S + R := by rw [e5]; exact div_32 _ _ (by omega)
  rw [d3]
  have b3' : (y3 + Q1) + (Q2 + Q3) < 4611686018427387904 := by omega
  refine ⟨by omega, by omega, by omega, ?_⟩
  rw [e5, eR, hS, hQ6, hr, hL, hg]
  clear e5 d3 d2 d1 e4 e23 eR b3' e3 hQ1 hQ2 hQ3 hQ4 hQ5 hQ6 hR hS
  omega
/-- All the steps of a count, each below 2^64. -/
theorem swar (x : Nat) (hx : x < 18446744073709551616) : ∃ p1 q1 p2 q2 y3 : Nat, (x / 2) &&& 6148914691236517205 = p1 ∧ x &&& 6148914691236517205 = q1 ∧ p1 + q1 < 18446744073709551616 ∧
    ((p1 + q1) / 4) &&& 3689348814741910323 = p2 ∧ (p1 + q1) &&& 3689348814741910323 = q2 ∧ p2 + q2 < 18446744073709551616 ∧ (p2 + q2) / 16 + (p2 + q2) < 18446744073709551616 ∧
    ((p2 + q2) / 16 + (p2 + q2)) &&& 1085102592571150095 = y3 ∧ y3 + y3 / 256 < 9223372036854775808 ∧
    (y3 + y3 / 256) + (y3 + y3 / 256) / 65536 < 9223372036854775808 ∧
    ((y3 + y3 / 256) + (y3 + y3 / 256) / 65536) + ((y3 + y3 / 256) + (y3 + y3 / 256) / 65536) / 4294967296 < 9223372036854775808 ∧
    (((y3 + y3 / 256) + (y3 + y3 / 256) / 65536) + ((y3 + y3 / 256) + (y3 + y3 / 256) / 65536) / 4294967296) % 128 = cntB (fun j => x.testBit j) 64 := by
  obtain ⟨p0, p1, p2, p3, p4, p5, p6, p7, b0, b1, b2, b3, b4, b5, b6, b7, he, hc⟩ := y3_form x hx
  have e1 : rep8 85 8 = 6148914691236517205 := by decide
  have e2 : rep8 51 8 = 3689348814741910323 := by decide
  have e3 : rep8 15 8 = 1085102592571150095 := by decide
  unfold pw_s3 pw_s2 pw_s1 at he
  rw [e1, e2, e3] at he
  have l1 : (x / 2) &&& 6148914691236517205 ≤ 6148914691236517205 := Nat.and_le_right
  have l2 : x &&& 6148914691236517205 ≤ 6148914691236517205 := Nat.and_le_right
  refine ⟨_, _, _, _, _, rfl, rfl, by omega, rfl, rfl, ?_, ?_, rfl, ?_⟩
  · have l3 : (((x / 2) &&& 6148914691236517205) + (x &&& 6148914691236517205)) / 4 &&& 3689348814741910323 ≤ 3689348814741910323 := Nat.and_le_right
    have l4 : (((x / 2) &&& 6148914691236517205) + (x &&& 6148914691236517205)) &&& 3689348814741910323 ≤ 3689348814741910323 := Nat.and_le_right
    omega
  · have l3 : (((x / 2) &&& 6148914691236517205) + (x &&& 6148914691236517205)) / 4 &&& 3689348814741910323 ≤ 3689348814741910323 := Nat.and_le_right
    have l4 : (((x / 2) &&& 6148914691236517205) + (x &&& 6148914691236517205)) &&& 3689348814741910323 ≤ 3689348814741910323 := Nat.and_le_right
    omega
  · rw [he, hc]
    clear he hc e1 e2 e3 l1 l2 hx
    exact fold_bytes p0 p1 p2 p3 p4 p5 p6 p7 b0 b1 b2 b3 b4 b5 b6 b7
end Go.Proofs.Ytbendkndnojihaa
