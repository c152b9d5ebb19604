/-
  math/bits.OnesCount32, natural.Ones: contracts; bits and sums.
-/
import Derived.Test.YtlecjjcpidjmhaaShr
import Derived.Test.YtlecjjcpidjmhaaBw
import Derived.Test.YtlecjjcpidjmhaaLen
import Derived.Test.YtlecjjcpidjmhaaKar
namespace Go.Proofs.Ytlecjjcpidjmhaa
open Go.RowKit Go.Deep
set_option linter.unusedVariables false

theorem popAux_add : ∀ (a b x : Nat), Lib.popAux (a + b) x = Lib.popAux a x + Lib.popAux b (x / 2 ^ a)
  | 0, b, x => by simp [Lib.popAux]
  | a + 1, b, x => by
    rw [show a + 1 + b = (a + b) + 1 from by omega]
    simp only [Lib.popAux]
    rw [popAux_add a b (x / 2), Nat.div_div_eq_div_mul, Nat.pow_succ, Nat.mul_comm 2, Nat.add_assoc]
theorem popAux_mod : ∀ (a x : Nat), Lib.popAux a (x % 2 ^ a) = Lib.popAux a x
  | 0, x => rfl
  | a + 1, x => by
    simp only [Lib.popAux]
    have h1 : x % 2 ^ (a + 1) % 2 = x % 2 := by rw [Nat.pow_succ, Nat.mul_comm, Nat.mod_mul_right_mod]
    have h2 : x % 2 ^ (a + 1) / 2 = x / 2 % 2 ^ a := by rw [Nat.pow_succ, Nat.mul_comm, Nat.mod_mul_right_div_self]
    rw [h1, h2, popAux_mod a (x / 2)]
theorem popAux_le : ∀ (a x : Nat), Lib.popAux a x ≤ a
  | 0, x => Nat.le_refl _
  | a + 1, x => by
    simp only [Lib.popAux]
    have := popAux_le a (x / 2)
    omega
theorem popAux_zero : ∀ (a : Nat), Lib.popAux a 0 = 0
  | 0 => rfl
  | a + 1 => by simp only [Lib.popAux]; rw [show 0 / 2 = 0 from rfl, popAux_zero a]
theorem popAux_eq_zero : ∀ (a x : Nat), x < 2 ^ a → Lib.popAux a x = 0 → x = 0
  | 0, x, h, _ => by simp at h; exact h
  | a + 1, x, h, h0 => by
    simp only [Lib.popAux] at h0
    rw [Nat.pow_succ] at h
    have := popAux_eq_zero a (x / 2) (by omega) (by omega)
    omega

/-- How many bits of a limb are 1. -/
def pcount (x : Nat) : Nat := Lib.popAux 32 x
theorem pcount_le (x : Nat) : pcount x ≤ 32 := popAux_le _ _
theorem pcount_zero : pcount 0 = 0 := popAux_zero _
theorem pcount_bytes (x : Nat) : pcount x = Lib.popAux 8 (x % 256) + Lib.popAux 8 (x / 256 % 256) + Lib.popAux 8 (x / 65536 % 256) + Lib.popAux 8 (x / 16777216 % 256) := by
  unfold pcount
  rw [show 32 = 8 + (8 + (8 + 8)) from rfl, popAux_add, popAux_add, popAux_add, Nat.div_div_eq_div_mul, Nat.div_div_eq_div_mul]
  have h := fun y => popAux_mod 8 y
  rw [← h x, ← h (x / 2 ^ 8), ← h (x / (2 ^ 8 * 2 ^ 8)), ← h (x / (2 ^ 8 * 2 ^ 8 * 2 ^ 8))]
  simp only [show (2:Nat) ^ 8 = 256 from rfl, show (256:Nat) * 256 = 65536 from rfl, show (65536:Nat) * 256 = 16777216 from rfl]
  omega

theorem ptab_size : Lib.pop8tab.size = 256 := by decide +kernel
theorem ptab_all : ∀ n : Fin 256, (Lib.pop8tab[n.val]'(by rw [ptab_size]; exact n.isLt)).toNat = Lib.popAux 8 n.val := by decide +kernel
theorem ptab_at (n : Nat) (h : n < Lib.pop8tab.size) : (Lib.pop8tab[n]'h).toNat = Lib.popAux 8 n := ptab_all ⟨n, by rw [ptab_size] at h; exact h⟩

theorem pop8_pc : ∀ n : Fin 256, Lib.pop8 (n.val : Int) = (Lib.popAux 8 n.val : Int) := by decide +kernel

theorem and_255 (y : Nat) (hy : y < 4294967296) : bits .and .u32 (y : Int) 255 = ((y % 256 : Nat) : Int) := by
  have := u32_and_nat y 255 hy (by decide)
  rw [show (255 : Nat) = 2 ^ 8 - 1 from rfl, Nat.and_two_pow_sub_one_eq_mod] at this
  exact this

/-- How many bits of the first k limbs are 1. -/
def onesF (f : Nat → Nat) : Nat → Nat
  | 0 => 0
  | k + 1 => onesF f k + pcount (f k)
def onesN (xs : List Nat) : Nat := onesF (fun i => xs.getD i 0) xs.length
theorem onesF_le (f : Nat → Nat) : ∀ (k : Nat), onesF f k ≤ 32 * k
  | 0 => Nat.le_refl _
  | k + 1 => by
    have := onesF_le f k
    have := pcount_le (f k)
    simp only [onesF]
    omega

-- bits and sums
theorem and_m2 (x y : Nat) : (x &&& y) % 2 = (x % 2) * (y % 2) := by
  have h := @Nat.and_mod_two_eq_one x y
  rcases Nat.mod_two_eq_zero_or_one x with a | a <;> rcases Nat.mod_two_eq_zero_or_one y with b | b <;> rw [a, b] at h ⊢ <;> omega
theorem or_m2 (x y : Nat) : (x ||| y) % 2 + (x % 2) * (y % 2) = x % 2 + y % 2 := by
  have h := @Nat.or_mod_two_eq_one x y
  rcases Nat.mod_two_eq_zero_or_one x with a | a <;> rcases Nat.mod_two_eq_zero_or_one y with b | b <;> rw [a, b] at h ⊢ <;> omega
theorem xor_m2 (x y : Nat) : (x ^^^ y) % 2 + 2 * ((x % 2) * (y % 2)) = x % 2 + y % 2 := by
  have h := @Nat.xor_mod_two_eq_one x y
  rcases Nat.mod_two_eq_zero_or_one x with a | a <;> rcases Nat.mod_two_eq_zero_or_one y with b | b <;> rw [a, b] at h ⊢ <;> omega

theorem pop_and_or : ∀ (f x y : Nat), Lib.popAux f (x &&& y) + Lib.popAux f (x ||| y) = Lib.popAux f x + Lib.popAux f y
  | 0, _, _ => rfl
  | f + 1, x, y => by
    simp only [Lib.popAux]
    have h := pop_and_or f (x / 2) (y / 2)
    rw [← Nat.and_div_two, ← Nat.or_div_two] at h
    have a := and_m2 x y
    have b := or_m2 x y
    omega
theorem and_not_add : ∀ (f x y : Nat), x < 2 ^ f → y < 2 ^ f → (x &&& y) + (x &&& (2 ^ f - 1 - y)) = x
  | 0, x, y, hx, hy => by simp at hx hy; subst hx; subst hy; rfl
  | f + 1, x, y, hx, hy => by
    have hp : 2 ^ (f + 1) = 2 * 2 ^ f := by rw [Nat.pow_succ, Nat.mul_comm]
    have h0 := Nat.two_pow_pos f
    rw [hp] at hx hy ⊢
    have h := and_not_add f (x / 2) (y / 2) (by omega) (by omega)
    have e1 : (2 * 2 ^ f - 1 - y) / 2 = 2 ^ f - 1 - y / 2 := by omega
    have e2 : (2 * 2 ^ f - 1 - y) % 2 = 1 - y % 2 := by omega
    rw [← e1, ← Nat.and_div_two, ← Nat.and_div_two] at h
    have a := and_m2 x y
    have b := and_m2 x (2 * 2 ^ f - 1 - y)
    rw [e2] at b
    generalize 2 * 2 ^ f - 1 - y = z at *
    have c : (x % 2) * (y % 2) + (x % 2) * (1 - y % 2) = x % 2 := by
      rcases Nat.mod_two_eq_zero_or_one y with d | d <;> rw [d] <;> omega
    omega
theorem and_xor_add : ∀ (f x y : Nat), x < 2 ^ f → y < 2 ^ f → (x &&& y) + (x ^^^ y) = x ||| y
  | 0, x, y, hx, hy => by simp at hx hy; subst hx; subst hy; rfl
  | f + 1, x, y, hx, hy => by
    rw [Nat.pow_succ] at hx hy
    have h := and_xor_add f (x / 2) (y / 2) (by omega) (by omega)
    rw [← Nat.and_div_two, ← Nat.xor_div_two, ← Nat.or_div_two] at h
    have a := and_m2 x y
    have b := xor_m2 x y
    have c := or_m2 x y
    omega
theorem not_add_or : ∀ (f x y : Nat), x < 2 ^ f → y < 2 ^ f → (x &&& (2 ^ f - 1 - y)) + y = x ||| y
  | 0, x, y, hx, hy => by simp at hx hy; subst hx; subst hy; rfl
  | f + 1, x, y, hx, hy => by
    have hp : 2 ^ (f + 1) = 2 * 2 ^ f := by rw [Nat.pow_succ, Nat.mul_comm]
    have h0 := Nat.two_pow_pos f
    rw [hp] at hx hy ⊢
    have h := not_add_or f (x / 2) (y / 2) (by omega) (by omega)
    have e1 : (2 * 2 ^ f - 1 - y) / 2 = 2 ^ f - 1 - y / 2 := by omega
    have e2 : (2 * 2 ^ f - 1 - y) % 2 = 1 - y % 2 := by omega
    rw [← e1, ← Nat.and_div_two, ← Nat.or_div_two] at h
    have a := or_m2 x y
    have b := and_m2 x (2 * 2 ^ f - 1 - y)
    rw [e2] at b
    generalize 2 * 2 ^ f - 1 - y = z at *
    have c : (x % 2) * (1 - y % 2) + (x % 2) * (y % 2) = x % 2 := by
      rcases Nat.mod_two_eq_zero_or_one y with d | d <;> rw [d] <;> omega
    omega

theorem bw_and_not {x y : Nat} (hx : x < 4294967296) (hy : y < 4294967296) : bwAnd x y + bwNot x y = x := and_not_add 32 x y hx hy
theorem bw_and_xor {x y : Nat} (hx : x < 4294967296) (hy : y < 4294967296) : bwAnd x y + bwXor x y = bwOr x y := and_xor_add 32 x y hx hy
theorem bw_not_or {x y : Nat} (hx : x < 4294967296) (hy : y < 4294967296) : bwNot x y + y = bwOr x y := not_add_or 32 x y hx hy
theorem bw_pop (x y : Nat) : pcount (bwAnd x y) + pcount (bwOr x y) = pcount x + pcount y := pop_and_or 32 x y

theorem valF_plus (f g h : Nat → Nat) : ∀ (n : Nat), (∀ i, i < n → f i + g i = h i) → valF f n + valF g n = valF h n
  | 0, _ => rfl
  | n + 1, e => by
    simp only [valF]
    have := valF_plus f g h n (fun i hi => e i (by omega))
    have e2 := e n (by omega)
    rw [← e2, Nat.mul_add]
    omega
theorem onesF_plus (f g h k : Nat → Nat) : ∀ (n : Nat), (∀ i, i < n → pcount (f i) + pcount (g i) = pcount (h i) + pcount (k i)) → onesF f n + onesF g n = onesF h n + onesF k n
  | 0, _ => rfl
  | n + 1, e => by
    simp only [onesF]
    have := onesF_plus f g h k n (fun i hi => e i (by omega))
    have e2 := e n (by omega)
    omega

theorem getD_digit {xs : List Nat} (ox : Ok xs) (l : Nat) : xs.getD l 0 = val xs / 4294967296 ^ l % 4294967296 := by
  rw [← val_drop ox l, val_drop_step]
  have := ox.getD l
  omega
theorem valF_digit {f : Nat → Nat} {n l : Nat} (ok : ∀ i, i < n → f i < 4294967296) (hl : l < n) : f l = valF f n / 4294967296 ^ l % 4294967296 := by
  have := val_drop (lst_ok ok) l
  rw [lst_val] at this
  rw [← this, val_drop_step, lst_getD f n l hl]
  have := ok l hl
  omega
theorem onesF_congr {f g : Nat → Nat} : ∀ {n : Nat}, (∀ i, i < n → f i = g i) → onesF f n = onesF g n
  | 0, _ => rfl
  | n + 1, e => by simp only [onesF]; rw [onesF_congr (fun i hi => e i (by omega)), e n (by omega)]
theorem onesF_far (xs : List Nat) : ∀ (d : Nat), onesF (fun i => xs.getD i 0) (xs.length + d) = onesN xs
  | 0 => rfl
  | d + 1 => by
    rw [← Nat.add_assoc]
    simp only [onesF]
    rw [onesF_far xs d, getD_ge (by omega), pcount_zero, Nat.add_zero]
theorem onesN_at (xs : List Nat) (n : Nat) (h : xs.length ≤ n) : onesF (fun i => xs.getD i 0) n = onesN xs := by
  have := onesF_far xs (n - xs.length)
  rwa [show xs.length + (n - xs.length) = n from by omega] at this
theorem onesN_limbs {f : Nat → Nat} {n : Nat} (ok : ∀ i, i < n → f i < 4294967296) : onesN (limbs (valF f n)) = onesF f n := by
  have hr := limbs_rep (valF f n)
  have hl : (limbs (valF f n)).length ≤ n := rep_len_le hr (valF_lt ok)
  rw [← onesN_at _ n hl]
  refine onesF_congr (fun i hi => ?_)
  rw [getD_digit hr.ok, hr.val]
  exact (valF_digit ok hi).symm
theorem onesF_zero {f : Nat → Nat} (n : Nat) (ok : ∀ i, i < n → f i < 4294967296) (h : onesF f n = 0) : ∀ i, i < n → f i = 0 := by
  induction n with
  | zero => intro i hi; omega
  | succ n ih =>
    intro i hi
    rw [show onesF f (n + 1) = onesF f n + pcount (f n) from rfl] at h
    by_cases e : i = n
    · rw [e]
      exact popAux_eq_zero 32 _ (ok n (by omega)) (show pcount (f n) = 0 by omega)
    · exact ih (fun j hj => ok j (by omega)) (by omega) i (by omega)
theorem bw_at (F : Nat → Nat → Nat) (hF : ∀ x y, x < 4294967296 → y < 4294967296 → F x y < 4294967296) {xs ys : List Nat} (ox : Ok xs) (oy : Ok ys) (i : Nat) : bwF F xs ys i < 4294967296 := hF _ _ (ox.getD i) (oy.getD i)
theorem valF_max (xs ys : List Nat) : valF (fun i => xs.getD i 0) (max xs.length ys.length) = val xs ∧ valF (fun i => ys.getD i 0) (max xs.length ys.length) = val ys :=
  ⟨valF_ge xs _ (Nat.le_max_left _ _), valF_ge ys _ (Nat.le_max_right _ _)⟩

theorem boole_and_not {xs ys : List Nat} (ox : Ok xs) (oy : Ok ys) : bwV bwAnd xs ys + bwV bwNot xs ys = val xs := by
  rw [← (valF_max xs ys).1]
  exact valF_plus _ _ _ _ (fun i _ => bw_and_not (ox.getD i) (oy.getD i))
theorem boole_and_xor {xs ys : List Nat} (ox : Ok xs) (oy : Ok ys) : bwV bwAnd xs ys + bwV bwXor xs ys = bwV bwOr xs ys :=
  valF_plus _ _ _ _ (fun i _ => bw_and_xor (ox.getD i) (oy.getD i))
theorem boole_not_or {xs ys : List Nat} (ox : Ok xs) (oy : Ok ys) : bwV bwNot xs ys + val ys = bwV bwOr xs ys := by
  rw [← (valF_max xs ys).2]
  exact valF_plus _ _ _ _ (fun i _ => bw_not_or (ox.getD i) (oy.getD i))
theorem boole_ones {xs ys : List Nat} (ox : Ok xs) (oy : Ok ys) : onesN (limbs (bwV bwAnd xs ys)) + onesN (limbs (bwV bwOr xs ys)) = onesN xs + onesN ys := by
  unfold bwV
  rw [onesN_limbs (fun i _ => bw_at _ bwAnd_lt ox oy i), onesN_limbs (fun i _ => bw_at _ bwOr_lt ox oy i), ← onesN_at xs _ (Nat.le_max_left xs.length ys.length), ← onesN_at ys _ (Nat.le_max_right xs.length ys.length)]
  exact onesF_plus _ _ _ _ _ (fun i _ => bw_pop _ _)
theorem boole_same {xs ys : List Nat} (ox : Ok xs) (oy : Ok ys) (nx : Norm xs) (ny : Norm ys) : onesN (limbs (bwV bwXor xs ys)) = 0 ↔ xs = ys := by
  unfold bwV
  rw [onesN_limbs (fun i _ => bw_at _ bwXor_lt ox oy i)]
  constructor
  · intro h
    have hz := onesF_zero _ (fun i _ => bw_at _ bwXor_lt ox oy i) h
    refine rep_unique ox oy nx ny ?_
    rw [← (valF_max xs ys).1, ← (valF_max xs ys).2]
    refine valF_congr (fun i hi => ?_)
    have := hz i hi
    unfold bwF bwXor at this
    have h2 : xs.getD i 0 ^^^ (xs.getD i 0 ^^^ ys.getD i 0) = ys.getD i 0 := by rw [← Nat.xor_assoc, Nat.xor_self, Nat.zero_xor]
    rw [this, Nat.xor_zero] at h2
    exact h2
  · intro h
    subst h
    have : ∀ n, onesF (bwF bwXor xs xs) n = 0 := by
      intro n
      induction n with
      | zero => rfl
      | succ n ih => simp only [onesF]; rw [ih, show bwF bwXor xs xs n = 0 from Nat.xor_self _, pcount_zero]
    exact this _
theorem boole_len {F : Nat → Nat → Nat} (hF : ∀ x y, x < 4294967296 → y < 4294967296 → F x y < 4294967296) {xs ys : List Nat} (ox : Ok xs) (oy : Ok ys) (h1 : xs.length ≤ 2048) (h2 : ys.length ≤ 2048) : ¬ 2048 < (limbs (bwV F xs ys)).length := by
  have : (limbs (bwV F xs ys)).length ≤ max xs.length ys.length := rep_len_le (limbs_rep _) (valF_lt (fun i _ => bw_at F hF ox oy i))
  omega
end Go.Proofs.Ytlecjjcpidjmhaa
