/-
  natural.bitwise, And, Or, Xor, Not: contracts.
-/
import Derived.Test.YtcfefobgmhhfkaaGreatDoorMul
import Derived.Test.YtcfefobgmhhfkaaGreatDoorShr
import Derived.Test.YtcfefobgmhhfkaaGreatDoorNMul
import Derived.Test.YtcfefobgmhhfkaaGreatDoorKarS
namespace Go.Proofs.YtcfefobgmhhfkaaGreatDoor
open Go.RowKit Go.Deep
set_option linter.unusedVariables false

/-- Limb by limb. -/
def bwAnd (x y : Nat) : Nat := x &&& y
def bwOr (x y : Nat) : Nat := x ||| y
def bwXor (x y : Nat) : Nat := x ^^^ y
def bwNot (x y : Nat) : Nat := x &&& (4294967295 - y)

theorem bwAnd_lt (x y : Nat) (hx : x < 4294967296) (hy : y < 4294967296) : bwAnd x y < 4294967296 := by
  have : (x &&& y) < 2 ^ 32 := Nat.and_lt_two_pow _ (by omega)
  exact this
theorem bwOr_lt (x y : Nat) (hx : x < 4294967296) (hy : y < 4294967296) : bwOr x y < 4294967296 := by
  have : (x ||| y) < 2 ^ 32 := Nat.or_lt_two_pow (by omega) (by omega)
  exact this
theorem bwXor_lt (x y : Nat) (hx : x < 4294967296) (hy : y < 4294967296) : bwXor x y < 4294967296 := by
  have : (x ^^^ y) < 2 ^ 32 := Nat.xor_lt_two_pow (by omega) (by omega)
  exact this
theorem bwNot_lt (x y : Nat) (hx : x < 4294967296) (hy : y < 4294967296) : bwNot x y < 4294967296 := by
  have : (x &&& (4294967295 - y)) < 2 ^ 32 := Nat.and_lt_two_pow _ (by omega)
  exact this

def bwF (F : Nat → Nat → Nat) (xs ys : List Nat) (i : Nat) : Nat := F (xs.getD i 0) (ys.getD i 0)
def bwV (F : Nat → Nat → Nat) (xs ys : List Nat) : Nat := valF (bwF F xs ys) (max xs.length ys.length)
def bwL (F : Nat → Nat → Nat) (xs ys : List Nat) : List Nat × Int := if MayL xs && MayL ys then (limbs (bwV F xs ys), 0) else ([], 20)

theorem bw_step {F : Nat → Nat → Nat} {wr w : World} {m k : Nat} {xs ys : List Nat} (hf : Fn wr w.heap.size 0 m (fun i => if i < k then bwF F xs ys i else 0)) (hlt : k < m) (hb : Below w.heap.size w wr) :
    Fn (wr.setCell ⟨w.heap.size, k, none⟩ (.int .u32 (F (xs.getD k 0) (ys.getD k 0) : Nat))) w.heap.size 0 m (fun i => if i < k + 1 then bwF F xs ys i else 0) ∧ Below w.heap.size w (wr.setCell ⟨w.heap.size, k, none⟩ (.int .u32 (F (xs.getD k 0) (ys.getD k 0) : Nat))) := by
  refine ⟨?_, hb.setCell (Nat.le_refl _) _⟩
  have h := hf.set k (F (xs.getD k 0) (ys.getD k 0)) hlt
  simp only [Nat.zero_add] at h
  refine h.congr ?_
  intro i hi
  by_cases e : i = k
  · simp [e, bwF]
  · by_cases e2 : i < k
    · simp [e, e2, show i < k + 1 from by omega]
    · simp [e, e2, show ¬ i < k + 1 from by omega]

end Go.Proofs.YtcfefobgmhhfkaaGreatDoor

namespace Go.Proofs.YtcfefobgmhhfkaaGreatDoor
open Go.RowKit Go.Deep
set_option linter.unusedVariables false

theorem popAux_add : ∀ (a b x : Nat), Lib.popAux (a + b) x = Lib.popAux a x + Lib.popAux b (x / 2 ^ a)
  | 0, b, x => by simp [Lib.popAux]
  | a + 1, b, x => by
    rw [show a + 1 + b = (a + b) + 1 from by omega]
    simp only [Lib.popAux]
    rw [popAux_add a b (x / 2), Nat.div_div_eq_div_mul, Nat.pow_succ, Nat.mul_comm 2, Nat.add_assoc]
theorem popAux_mod : ∀ (a x : Nat), Lib.popAux a (x % 2 ^ a) = Lib.popAux a x
  | 0, x => rfl
  | a + 1, x => by
    simp only [Lib.popAux]
    have h1 : x % 2 ^ (a + 1) % 2 = x % 2 := by rw [Nat.pow_succ, Nat.mul_comm, Nat.mod_mul_right_mod]
    have h2 : x % 2 ^ (a + 1) / 2 = x / 2 % 2 ^ a := by rw [Nat.pow_succ, Nat.mul_comm, Nat.mod_mul_right_div_self]
    rw [h1, h2, popAux_mod a (x / 2)]
theorem popAux_le : ∀ (a x : Nat), Lib.popAux a x ≤ a
  | 0, x => Nat.le_refl _
  | a + 1, x => by
    simp only [Lib.popAux]
    have := popAux_le a (x / 2)
    omega
theorem popAux_zero : ∀ (a : Nat), Lib.popAux a 0 = 0
  | 0 => rfl
  | a + 1 => by simp only [Lib.popAux]; rw [show 0 / 2 = 0 from rfl, popAux_zero a]
theorem popAux_eq_zero : ∀ (a x : Nat), x < 2 ^ a → Lib.popAux a x = 0 → x = 0
  | 0, x, h, _ => by simp at h; exact h
  | a + 1, x, h, h0 => by
    simp only [Lib.popAux] at h0
    rw [Nat.pow_succ] at h
    have := popAux_eq_zero a (x / 2) (by omega) (by omega)
    omega

/-- How many bits of a limb are 1. -/
def pcount (x : Nat) : Nat := Lib.popAux 32 x
theorem pcount_le (x : Nat) : pcount x ≤ 32 := popAux_le _ _
theorem pcount_zero : pcount 0 = 0 := popAux_zero _
theorem pcount_bytes (x : Nat) : pcount x = Lib.popAux 8 (x % 256) + Lib.popAux 8 (x / 256 % 256) + Lib.popAux 8 (x / 65536 % 256) + Lib.popAux 8 (x / 16777216 % 256) := by
  unfold pcount
  rw [show 32 = 8 + (8 + (8 + 8)) from rfl, popAux_add, popAux_add, popAux_add, Nat.div_div_eq_div_mul, Nat.div_div_eq_div_mul]
  have h := fun y => popAux_mod 8 y
  rw [← h x, ← h (x / 2 ^ 8), ← h (x / (2 ^ 8 * 2 ^ 8)), ← h (x / (2 ^ 8 * 2 ^ 8 * 2 ^ 8))]
  simp only [show (2:Nat) ^ 8 = 256 from rfl, show (256:Nat) * 256 = 65536 from rfl, show (65536:Nat) * 256 = 16777216 from rfl]
  omega

theorem ptab_size : Lib.pop8tab.size = 256 := by decide +kernel
theorem ptab_all : ∀ n : Fin 256, (Lib.pop8tab[n.val]'(by rw [ptab_size]; exact n.isLt)).toNat = Lib.popAux 8 n.val := by decide +kernel
theorem ptab_at (n : Nat) (h : n < Lib.pop8tab.size) : (Lib.pop8tab[n]'h).toNat = Lib.popAux 8 n := ptab_all ⟨n, by rw [ptab_size] at h; exact h⟩

theorem pop8_pc : ∀ n : Fin 256, Lib.pop8 (n.val : Int) = (Lib.popAux 8 n.val : Int) := by decide +kernel

theorem and_255 (y : Nat) (hy : y < 4294967296) : bits .and .u32 (y : Int) 255 = ((y % 256 : Nat) : Int) := by
  have := u32_and_nat y 255 hy (by decide)
  rw [show (255 : Nat) = 2 ^ 8 - 1 from rfl, Nat.and_two_pow_sub_one_eq_mod] at this
  exact this

/-- How many bits of the first k limbs are 1. -/
def onesF (f : Nat → Nat) : Nat → Nat
  | 0 => 0
  | k + 1 => onesF f k + pcount (f k)
def onesN (xs : List Nat) : Nat := onesF (fun i => xs.getD i 0) xs.length
theorem onesF_le (f : Nat → Nat) : ∀ (k : Nat), onesF f k ≤ 32 * k
  | 0 => Nat.le_refl _
  | k + 1 => by
    have := onesF_le f k
    have := pcount_le (f k)
    simp only [onesF]
    omega

-- bits and sums
theorem and_m2 (x y : Nat) : (x &&& y) % 2 = (x % 2) * (y % 2) := by
  have h := @Nat.and_mod_two_eq_one x y
  rcases Nat.mod_two_eq_zero_or_one x with a | a <;> rcases Nat.mod_two_eq_zero_or_one y with b | b <;> rw [a, b] at h ⊢ <;> omega
theorem or_m2 (x y : Nat) : (x ||| y) % 2 + (x % 2) * (y % 2) = x % 2 + y % 2 := by
  have h := @Nat.or_mod_two_eq_one x y
  rcases Nat.mod_two_eq_zero_or_one x with a | a <;> rcases Nat.mod_two_eq_zero_or_one y with b | b <;> rw [a, b] at h ⊢ <;> omega
theorem xor_m2 (x y : Nat) : (x ^^^ y) % 2 + 2 * ((x % 2) * (y % 2)) = x % 2 + y % 2 := by
  have h := @Nat.xor_mod_two_eq_one x y
  rcases Nat.mod_two_eq_zero_or_one x with a | a <;> rcases Nat.mod_two_eq_zero_or_one y with b | b <;> rw [a, b] at h ⊢ <;> omega

theorem pop_and_or : ∀ (f x y : Nat), Lib.popAux f (x &&& y) + Lib.popAux f (x ||| y) = Lib.popAux f x + Lib.popAux f y
  | 0, _, _ => rfl
  | f + 1, x, y => by
    simp only [Lib.popAux]
    have h := pop_and_or f (x / 2) (y / 2)
    rw [← Nat.and_div_two, ← Nat.or_div_two] at h
    have a := and_m2 x y
    have b := or_m2 x y
    omega
theorem and_not_add : ∀ (f x y : Nat), x < 2 ^ f → y < 2 ^ f → (x &&& y) + (x &&& (2 ^ f - 1 - y)) = x
  | 0, x, y, hx, hy => by simp at hx hy; subst hx; subst hy; rfl
  | f + 1, x, y, hx, hy => by
    have hp : 2 ^ (f + 1) = 2 * 2 ^ f := by rw [Nat.pow_succ, Nat.mul_comm]
    have h0 := Nat.two_pow_pos f
    rw [hp] at hx hy ⊢
    have h := and_not_add f (x / 2) (y / 2) (by omega) (by omega)
    have e1 : (2 * 2 ^ f - 1 - y) / 2 = 2 ^ f - 1 - y / 2 := by omega
    have e2 : (2 * 2 ^ f - 1 - y) % 2 = 1 - y % 2 := by omega
    rw [← e1, ← Nat.and_div_two, ← Nat.and_div_two] at h
    have a := and_m2 x y
    have b := and_m2 x (2 * 2 ^ f - 1 - y)
    rw [e2] at b
    generalize 2 * 2 ^ f - 1 - y = z at *
    have c : (x % 2) * (y % 2) + (x % 2) * (1 - y % 2) = x % 2 := by
      rcases Nat.mod_two_eq_zero_or_one y with d | d <;> rw [d] <;> omega
    omega
theorem and_xor_add : ∀ (f x y : Nat), x < 2 ^ f → y < 2 ^ f → (x &&& y) + (x ^^^ y) = x ||| y
  | 0, x, y, hx, hy => by simp at hx hy; subst hx; subst hy; rfl
  | f + 1, x, y, hx, hy => by
    rw [Nat.pow_succ] at hx hy
    have h := and_xor_add f (x / 2) (y / 2) (by omega) (by omega)
    rw [← Nat.and_div_two, ← Nat.xor_div_two, ← Nat.or_div_two] at h
    have a := and_m2 x y
    have b := xor_m2 x y
    have c := or_m2 x y
    omega
theorem not_add_or : ∀ (f x y : Nat), x < 2 ^ f → y < 2 ^ f → (x &&& (2 ^ f - 1 - y)) + y = x ||| y
  | 0, x, y, hx, hy => by simp at hx hy; subst hx; subst hy; rfl
  | f + 1, x, y, hx, hy => by
    have hp : 2 ^ (f + 1) = 2 * 2 ^ f := by rw [Nat.pow_succ, Nat.mul_comm]
    have h0 := Nat.two_pow_pos f
    rw [hp] at hx hy ⊢
    have h := not_add_or f (x / 2) (y / 2) (by omega) (by omega)
    have e1 : (2 * 2 ^ f - 1 - y) / 2 = 2 ^ f - 1 - y / 2 := by omega
    have e2 : (2 * 2 ^ f - 1 - y) % 2 = 1 - y % 2 := by omega
    rw [← e1, ← Nat.and_div_two, ← Nat.or_div_two] at h
    have a := or_m2 x y
    have b := and_m2 x (2 * 2 ^ f - 1 - y)
    rw [e2] at b
    generalize 2 * 2 ^ f - 1 - y = z at *
    have c : (x % 2) * (1 - y % 2) + (x % 2) * (y % 2) = x % 2 := by
      rcases Nat.mod_two_eq_zero_or_one y with d | d <;> rw [d] <;> omega
    omega

theorem bw_and_not {x y : Nat} (hx : x < 4294967296) (hy : y < 4294967296) : bwAnd x y + bwNot x y = x := and_not_add 32 x y hx hy
theorem bw_and_xor {x y : Nat} (hx : x < 4294967296) (hy : y < 4294967296) : bwAnd x y + bwXor x y = bwOr x y := and_xor_add 32 x y hx hy
theorem bw_not_or {x y : Nat} (hx : x < 4294967296) (hy : y < 4294967296) : bwNot x y + y = bwOr x y := not_add_or 32 x y hx hy
theorem bw_pop (x y : Nat) : pcount (bwAnd x y) + pcount (bwOr x y) = pcount x + pcount y := pop_and_or 32 x y

theorem valF_plus (f g h : Nat → Nat) : ∀ (n : Nat), (∀ i, i < n → f i + g i = h i) → valF f n + valF g n = valF h n
  | 0, _ => rfl
  | n + 1, e => by
    simp only [valF]
    have := valF_plus f g h n (fun i hi => e i (by omega))
    have e2 := e n (by omega)
    rw [← e2, Nat.mul_add]
    omega
theorem onesF_plus (f g h k : Nat → Nat) : ∀ (n : Nat), (∀ i, i < n → pcount (f i) + pcount (g i) = pcount (h i) + pcount (k i)) → onesF f n + onesF g n = onesF h n + onesF k n
  | 0, _ => rfl
  | n + 1, e => by
    simp only [onesF]
    have := onesF_plus f g h k n (fun i hi => e i (by omega))
    have e2 := e n (by omega)
    omega

theorem getD_digit {xs : List Nat} (ox : Ok xs) (l : Nat) : xs.getD l 0 = val xs / 4294967296 ^ l % 4294967296 := by
  rw [← val_drop ox l, val_drop_step]
  have := ox.getD l
  omega
theorem valF_digit {f : Nat → Nat} {n l : Nat} (ok : ∀ i, i < n → f i < 4294967296) (hl : l < n) : f l = valF f n / 4294967296 ^ l % 4294967296 := by
  have := val_drop (lst_ok ok) l
  rw [lst_val] at this
  rw [← this, val_drop_step, lst_getD f n l hl]
  have := ok l hl
  omega
theorem onesF_congr {f g : Nat → Nat} : ∀ {n : Nat}, (∀ i, i < n → f i = g i) → onesF f n = onesF g n
  | 0, _ => rfl
  | n + 1, e => by simp only [onesF]; rw [onesF_congr (fun i hi => e i (by omega)), e n (by omega)]
theorem onesF_far (xs : List Nat) : ∀ (d : Nat), onesF (fun i => xs.getD i 0) (xs.length + d) = onesN xs
  | 0 => rfl
  | d + 1 => by
    rw [← Nat.add_assoc]
    simp only [onesF]
    rw [onesF_far xs d, getD_ge (by omega), pcount_zero, Nat.add_zero]
theorem onesN_at (xs : List Nat) (n : Nat) (h : xs.length ≤ n) : onesF (fun i => xs.getD i 0) n = onesN xs := by
  have := onesF_far xs (n - xs.length)
  rwa [show xs.length + (n - xs.length) = n from by omega] at this
theorem onesN_limbs {f : Nat → Nat} {n : Nat} (ok : ∀ i, i < n → f i < 4294967296) : onesN (limbs (valF f n)) = onesF f n := by
  have hr := limbs_rep (valF f n)
  have hl : (limbs (valF f n)).length ≤ n := rep_len_le hr (valF_lt ok)
  rw [← onesN_at _ n hl]
  refine onesF_congr (fun i hi => ?_)
  rw [getD_digit hr.ok, hr.val]
  exact (valF_digit ok hi).symm
theorem onesF_zero {f : Nat → Nat} (n : Nat) (ok : ∀ i, i < n → f i < 4294967296) (h : onesF f n = 0) : ∀ i, i < n → f i = 0 := by
  induction n with
  | zero => intro i hi; omega
  | succ n ih =>
    intro i hi
    rw [show onesF f (n + 1) = onesF f n + pcount (f n) from rfl] at h
    by_cases e : i = n
    · rw [e]
      exact popAux_eq_zero 32 _ (ok n (by omega)) (show pcount (f n) = 0 by omega)
    · exact ih (fun j hj => ok j (by omega)) (by omega) i (by omega)
theorem bw_at (F : Nat → Nat → Nat) (hF : ∀ x y, x < 4294967296 → y < 4294967296 → F x y < 4294967296) {xs ys : List Nat} (ox : Ok xs) (oy : Ok ys) (i : Nat) : bwF F xs ys i < 4294967296 := hF _ _ (ox.getD i) (oy.getD i)
theorem valF_max (xs ys : List Nat) : valF (fun i => xs.getD i 0) (max xs.length ys.length) = val xs ∧ valF (fun i => ys.getD i 0) (max xs.length ys.length) = val ys :=
  ⟨valF_ge xs _ (Nat.le_max_left _ _), valF_ge ys _ (Nat.le_max_right _ _)⟩

theorem boole_and_not {xs ys : List Nat} (ox : Ok xs) (oy : Ok ys) : bwV bwAnd xs ys + bwV bwNot xs ys = val xs := by
  rw [← (valF_max xs ys).1]
  exact valF_plus _ _ _ _ (fun i _ => bw_and_not (ox.getD i) (oy.getD i))
theorem boole_and_xor {xs ys : List Nat} (ox : Ok xs) (oy : Ok ys) : bwV bwAnd xs ys + bwV bwXor xs ys = bwV bwOr xs ys :=
  valF_plus _ _ _ _ (fun i _ => bw_and_xor (ox.getD i) (oy.getD i))
theorem boole_not_or {xs ys : List Nat} (ox : Ok xs) (oy : Ok ys) : bwV bwNot xs ys + val ys = bwV bwOr xs ys := by
  rw [← (valF_max xs ys).2]
  exact valF_plus _ _ _ _ (fun i _ => bw_not_or (ox.getD i) (oy.getD i))
theorem boole_ones {xs ys : List Nat} (ox : Ok xs) (oy : Ok ys) : onesN (limbs (bwV bwAnd xs ys)) + onesN (limbs (bwV bwOr xs ys)) = onesN xs + onesN ys := by
  unfold bwV
  rw [onesN_limbs (fun i _ => bw_at _ bwAnd_lt ox oy i), onesN_limbs (fun i _ => bw_at _ bwOr_lt ox oy i), ← onesN_at xs _ (Nat.le_max_left xs.length ys.length), ← onesN_at ys _ (Nat.le_max_right xs.length ys.length)]
  exact onesF_plus _ _ _ _ _ (fun i _ => bw_pop _ _)
theorem boole_same {xs ys : List Nat} (ox : Ok xs) (oy : Ok ys) (nx : Norm xs) (ny : Norm ys) : onesN (limbs (bwV bwXor xs ys)) = 0 ↔ xs = ys := by
  unfold bwV
  rw [onesN_limbs (fun i _ => bw_at _ bwXor_lt ox oy i)]
  constructor
  · intro h
    have hz := onesF_zero _ (fun i _ => bw_at _ bwXor_lt ox oy i) h
    refine rep_unique ox oy nx ny ?_
    rw [← (valF_max xs ys).1, ← (valF_max xs ys).2]
    refine valF_congr (fun i hi => ?_)
    have := hz i hi
    unfold bwF bwXor at this
    have h2 : xs.getD i 0 ^^^ (xs.getD i 0 ^^^ ys.getD i 0) = ys.getD i 0 := by rw [← Nat.xor_assoc, Nat.xor_self, Nat.zero_xor]
    rw [this, Nat.xor_zero] at h2
    exact h2
  · intro h
    subst h
    have : ∀ n, onesF (bwF bwXor xs xs) n = 0 := by
      intro n
      induction n with
      | zero => rfl
      | succ n ih => simp only [onesF]; rw [ih, show bwF bwXor xs xs n = 0 from Nat.xor_self _, pcount_zero]
    exact this _
theorem boole_len {F : Nat → Nat → Nat} (hF : ∀ x y, x < 4294967296 → y < 4294967296 → F x y < 4294967296) {xs ys : List Nat} (ox : Ok xs) (oy : Ok ys) (h1 : xs.length ≤ 2048) (h2 : ys.length ≤ 2048) : ¬ 2048 < (limbs (bwV F xs ys)).length := by
  have : (limbs (bwV F xs ys)).length ≤ max xs.length ys.length := rep_len_le (limbs_rep _) (valF_lt (fun i _ => bw_at F hF ox oy i))
  omega
end Go.Proofs.YtcfefobgmhhfkaaGreatDoor

namespace Go.Proofs.YtcfefobgmhhfkaaGreatDoor
open Go.RowKit Go.Deep
set_option linter.unusedVariables false

theorem tz_and : ∀ (f x : Nat), 0 < x → x < 2 ^ f → x &&& (2 ^ f - x) = 2 ^ Lib.ntzAux f x
  | 0, x, h0, h => by simp at h; omega
  | f + 1, x, h0, h => by
    have hp : 2 ^ (f + 1) = 2 * 2 ^ f := by rw [Nat.pow_succ, Nat.mul_comm]
    have hq := Nat.two_pow_pos f
    rw [hp] at h ⊢
    have hd := Nat.div_add_mod (x &&& (2 * 2 ^ f - x)) 2
    have hm := and_m2 x (2 * 2 ^ f - x)
    rw [Nat.and_div_two] at hd
    simp only [Lib.ntzAux]
    rcases Nat.mod_two_eq_zero_or_one x with e | e
    · rw [if_neg (by omega)]
      have e1 : (2 * 2 ^ f - x) / 2 = 2 ^ f - x / 2 := by omega
      rw [e1, tz_and f (x / 2) (by omega) (by omega)] at hd
      rw [e, Nat.zero_mul] at hm
      rw [show 1 + Lib.ntzAux f (x / 2) = Lib.ntzAux f (x / 2) + 1 from by omega, Nat.pow_succ]
      omega
    · rw [if_pos e]
      have e1 : (2 * 2 ^ f - x) / 2 = 2 ^ f - 1 - x / 2 := by omega
      have e2 : (2 * 2 ^ f - x) % 2 = 1 := by omega
      have e3 := and_not_add f (x / 2) (x / 2) (by omega) (by omega)
      rw [Nat.and_self] at e3
      rw [e1] at hd
      rw [e, e2] at hm
      simp only [Nat.pow_zero]
      omega

theorem tz_lt : ∀ (f x : Nat), 0 < x → x < 2 ^ f → Lib.ntzAux f x < f
  | 0, x, h0, h => by simp at h; omega
  | f + 1, x, h0, h => by
    rw [Nat.pow_succ] at h
    simp only [Lib.ntzAux]
    split
    · omega
    · have := tz_lt f (x / 2) (by omega) (by omega)
      omega

theorem tz_bit : ∀ (f x : Nat), 0 < x → x < 2 ^ f → x / 2 ^ Lib.ntzAux f x % 2 = 1 ∧ ∀ s, s < Lib.ntzAux f x → x / 2 ^ s % 2 = 0
  | 0, x, h0, h => by simp at h; omega
  | f + 1, x, h0, h => by
    rw [Nat.pow_succ] at h
    simp only [Lib.ntzAux]
    split
    · rename_i e
      exact ⟨by simpa using e, fun s hs => by omega⟩
    · rename_i e
      have := tz_bit f (x / 2) (by omega) (by omega)
      refine ⟨?_, ?_⟩
      · rw [show 1 + Lib.ntzAux f (x / 2) = Lib.ntzAux f (x / 2) + 1 from by omega, Nat.pow_succ, Nat.mul_comm, ← Nat.div_div_eq_div_mul]
        exact this.1
      · intro s hs
        cases s with
        | zero => simp; omega
        | succ s =>
          rw [Nat.pow_succ, Nat.mul_comm, ← Nat.div_div_eq_div_mul]
          exact this.2 s (by omega)

def tab32 : List Int := [0, 1, 28, 2, 29, 14, 24, 3, 30, 22, 20, 15, 25, 17, 4, 8, 31, 27, 13, 23, 21, 19, 16, 7, 26, 12, 18, 6, 11, 5, 10, 9]
theorem tz_index : ∀ k : Fin 32, tab32.getD (2 ^ k.val * 125613361 % 4294967296 / 134217728) 0 = (k.val : Int) ∧ 2 ^ k.val * 125613361 % 4294967296 / 134217728 < 32 := by decide +kernel

def tzN (x : Nat) : Nat := if x = 0 then 32 else Lib.ntzAux 32 x

theorem p32 : (2:Nat) ^ 32 = 4294967296 := by decide
theorem neg_nat {x : Nat} (h0 : 0 < x) (hx : x < 4294967296) : ∃ nx : Nat, nx < 4294967296 ∧ x + nx = 4294967296 ∧ (-(x:Int)) % 4294967296 = (nx : Int) := ⟨4294967296 - x, by omega, by omega, by omega⟩
theorem tz_facts {x : Nat} (h0 : 0 < x) (hx : x < 4294967296) : ∃ nx P ix : Nat, (-(x:Int)) % 4294967296 = (nx : Int) ∧ nx < 4294967296 ∧ P < 4294967296 ∧ bits .and .u32 (x : Int) (nx : Int) = (P : Int) ∧ ix < 32 ∧ (P : Int) * 125613361 % 4294967296 / 134217728 = (ix : Int) ∧ tab32.getD ix 0 = ((tzN x : Nat) : Int) ∧ tzN x < 32 := by
  have ht : tzN x = Lib.ntzAux 32 x := by unfold tzN; rw [if_neg (Nat.ne_of_gt h0)]
  obtain ⟨nx, n1, n2, n3⟩ := neg_nat h0 hx
  have hx' : x < 2 ^ 32 := by rw [p32]; exact hx
  have hl := tz_lt 32 x h0 hx'
  have ha := tz_and 32 x h0 hx'
  have e : 2 ^ 32 - x = nx := by rw [p32]; omega
  rw [e] at ha
  rw [← ht] at hl ha
  have e1 := u32_and_nat x nx hx n1
  rw [ha] at e1
  have hi := tz_index ⟨tzN x, hl⟩
  have hPb : 2 ^ tzN x < 2 ^ 32 := Nat.pow_lt_pow_right (by decide) hl
  rw [p32] at hPb
  refine ⟨nx, 2 ^ tzN x, _, n3, n1, hPb, e1, hi.2, ?_, hi.1, hl⟩
  simp only [Int.natCast_ediv, Int.natCast_emod, Int.natCast_mul]
  rfl

end Go.Proofs.YtcfefobgmhhfkaaGreatDoor

namespace Go.Proofs.YtcfefobgmhhfkaaGreatDoor
open Go.RowKit Go.Deep
set_option linter.unusedVariables false

theorem bl_lt : ∀ (n x : Nat), x ≤ n → x < 18446744073709551616 → x < 2 ^ Lib.bitLen x
  | 0, x, h, hx => by
    have e : x = 0 := by omega
    subst e
    decide +kernel
  | n + 1, x, h, hx => by
    by_cases h0 : x = 0
    · subst h0; decide +kernel
    · have ih := bl_lt n (x / 2) (by omega) (by omega)
      rw [Lib.bitLen_half x h0 hx, Nat.add_comm 1, Nat.pow_succ]
      omega

theorem take_lt_pow {xs : List Nat} (ox : Ok xs) (t : Nat) (h : t ≤ xs.length) : val (xs.take t) < 4294967296 ^ t := by
  have := val_lt (ox.take t)
  rwa [List.length_take, Nat.min_eq_left h] at this

/-- The binary digits of a number's limbs. -/
def bitsN (xs : List Nat) : Nat := if xs = [] then 0 else bitsL xs

theorem val_lt_bits {xs : List Nat} (ox : Ok xs) : val xs < 2 ^ bitsN xs := by
  unfold bitsN
  by_cases h0 : xs = []
  · subst h0; simp [val]
  · rw [if_neg h0]
    have hp : 0 < xs.length := List.length_pos_iff.2 h0
    have hb := ox.getD (xs.length - 1)
    have h2 := bl_lt _ _ (Nat.le_refl (xs.getD (xs.length - 1) 0)) (by omega)
    rw [val_split xs (xs.length - 1) (by omega), drop_cons (by omega)]
    have e : xs.drop (xs.length - 1 + 1) = [] := List.drop_eq_nil_of_le (by omega)
    rw [e]
    simp only [val]
    unfold bitsL
    rw [Nat.pow_add, Nat.mul_comm _ 32, ← pow_limb, Nat.mul_zero, Nat.add_zero]
    have h1 := take_lt_pow ox (xs.length - 1) (by omega)
    have h3 : 4294967296 ^ (xs.length - 1) * (xs.getD (xs.length - 1) 0 + 1) ≤ 4294967296 ^ (xs.length - 1) * 2 ^ Lib.bitLen (xs.getD (xs.length - 1) 0) := Nat.mul_le_mul_left _ h2
    rw [Nat.mul_add, Nat.mul_one] at h3
    omega

theorem bitsN_le {xs : List Nat} (ox : Ok xs) (h : xs.length ≤ 2048) : bitsN xs ≤ 100000 := by
  unfold bitsN
  split
  · omega
  · exact bitsL_le ox h

theorem bitsN_mono {xs ys : List Nat} (ox : Ok xs) (oy : Ok ys) (nx : Norm xs) (h : val xs ≤ val ys) : bitsN xs ≤ bitsN ys := by
  have h2 := val_lt_bits oy
  by_cases h0 : xs = []
  · simp [bitsN, h0]
  · have h1 := val_ge_bits ox nx h0
    have h3 : 2 ^ (bitsL xs - 1) < 2 ^ bitsN ys := by omega
    have h4 : bitsL xs - 1 < bitsN ys := (Nat.pow_lt_pow_iff_right (by decide)).1 h3
    have e : bitsN xs = bitsL xs := by simp [bitsN, h0]
    omega

set_option maxHeartbeats 800000 in
theorem bitLen_nil (a : Option Addr) (c : Nat) (w : World) :
    Calls Tryz.prog 112 #[.slice a 0 c] w fun e w' => e = .returned (.int .i64 0) ∧ w' = w := by
  go_enter Tryz.func112, Tryz.ntmps112
  go_wp2
  go_ret
  exact ⟨rfl, rfl⟩

/-- natural.bitLen. -/
theorem bitLen_all (a : Option Addr) (n c : Nat) (xs : List Nat) (w : World) (h : Sl w a n c xs) (ok : Ok xs) (hn : n ≤ 1000000000000) :
    Calls Tryz.prog 112 #[.slice a n c] w fun e w' => e = .returned (.int .i64 (bitsN xs : Nat)) ∧ w' = w := by
  by_cases h0 : xs = []
  · have hl := h.len
    subst h0
    simp at hl
    subst hl
    have : (bitsN [] : Nat) = 0 := by simp [bitsN]
    rw [this]
    exact bitLen_nil a c w
  · have e : bitsN xs = bitsL xs := by simp [bitsN, h0]
    rw [e]
    exact bitLen_any a n c xs w h ok h0 hn

set_option maxHeartbeats 800000 in
/-- natural.Bits. -/
theorem nbits_any (a : Option Addr) (n c : Nat) (xs : List Nat) (w : World) (h : Sl w a n c xs) (ok : Ok xs) (m : MayL xs = true) :
    Calls Tryz.prog 146 #[.slice a n c] w fun e w' => e = .returned (.int .i64 (bitsN xs : Nat)) ∧ w' = w := by
  have K1 := may_any a n c xs w h
  rw [m] at K1
  have K1' := hide K1
  have K2 := hide (bitLen_all a n c xs w h ok (by have := MayL.len m; have := h.len; omega))
  generalize bitsN xs = u at *
  clear K1 h ok m
  go_enter Tryz.func146, Tryz.ntmps146
  go_wp2_with fail
  refine (unhide K1').mono ?_
  rintro e w' ⟨rfl, hw⟩
  obtain rfl := hw.symm
  go_wp2_with fail
  refine (unhide K2).mono ?_
  rintro e w' ⟨rfl, hw⟩
  obtain rfl := hw.symm
  go_wp2
  go_ret
  exact ⟨rfl, rfl⟩
end Go.Proofs.YtcfefobgmhhfkaaGreatDoor

namespace Go.Proofs.YtcfefobgmhhfkaaGreatDoor
open Go.RowKit Go.Deep
set_option linter.unusedVariables false

/-- Bit i of a number. -/
def bitN (v i : Nat) : Nat := v / 2 ^ i % 2
theorem bitN_lt (v i : Nat) : bitN v i < 2 := Nat.mod_lt _ (by decide)

theorem bit_limb {xs : List Nat} (ox : Ok xs) {i l s : Nat} (hl : i / 32 = l) (hs : i % 32 = s) : bitN (val xs) i = xs.getD l 0 / 2 ^ s % 2 := by
  have hi : i = 32 * l + s := by omega
  have hs32 : s < 32 := by omega
  have hp := pow_split hs32
  have hpos := (pow_s hs32).1
  have e3 := val_drop ox l
  have e1 := val_drop_step xs l
  unfold bitN
  rw [hi, Nat.pow_add, ← pow_limb, ← Nat.div_div_eq_div_mul, ← e3, e1]
  generalize xs.getD l 0 = x
  generalize val (xs.drop (l + 1)) = r
  have e4 : x + 4294967296 * r = x + 2 ^ s * (2 * (2 ^ (31 - s) * r)) := by
    have : 2 ^ s * (2 * (2 ^ (31 - s) * r)) = 4294967296 * r := by
      rw [← hp, show 32 - s = 31 - s + 1 from by omega, Nat.pow_succ, Nat.mul_comm (2 ^ (31 - s)) 2, ← Nat.mul_assoc 2, Nat.mul_assoc (2 ^ s)]
    omega
  rw [e4, Nat.add_mul_div_left _ _ (by omega), Nat.add_mul_mod_self_left]

theorem and_one (y : Nat) (hy : y < 4294967296) : bits .and .u32 (y : Int) 1 = ((y % 2 : Nat) : Int) := by
  have := u32_and_nat y 1 hy (by decide)
  rw [Nat.and_one_is_mod] at this
  exact this

theorem shr_lt {x s : Nat} (hx : x < 4294967296) : x / 2 ^ s < 4294967296 := Nat.lt_of_le_of_lt (Nat.div_le_self _ _) hx

theorem bits_unique {xs : List Nat} (ox : Ok xs) (nx : Norm xs) {k : Nat} (h1 : 2 ^ k ≤ val xs) (h2 : val xs < 2 ^ (k + 1)) : bitsN xs = k + 1 := by
  have a := val_lt_bits ox
  have h0 : xs ≠ [] := by
    intro e; subst e
    have : 0 < 2 ^ k := Nat.pow_pos (by decide)
    simp [val] at h1
  have b := val_ge_bits ox nx h0
  have e : bitsN xs = bitsL xs := by simp [bitsN, h0]
  rw [e] at a ⊢
  have c1 : 2 ^ k < 2 ^ bitsL xs := by omega
  have c2 : 2 ^ (bitsL xs - 1) < 2 ^ (k + 1) := by omega
  have d1 : k < bitsL xs := (Nat.pow_lt_pow_iff_right (by decide)).1 c1
  have d2 : bitsL xs - 1 < k + 1 := (Nat.pow_lt_pow_iff_right (by decide)).1 c2
  omega

theorem bit_zero {v k : Nat} (h : v < 2 ^ (k + 1)) (hb : bitN v k = 0) : v < 2 ^ k := by
  unfold bitN at hb
  have hp : 0 < 2 ^ k := Nat.pow_pos (by decide)
  rw [Nat.pow_succ, Nat.mul_comm] at h
  have h1 : v / 2 ^ k < 2 := (Nat.div_lt_iff_lt_mul hp).2 h
  have h2 : v / 2 ^ k = 0 := by
    generalize v / 2 ^ k = t at *
    omega
  rcases Nat.lt_or_ge v (2 ^ k) with h3 | h3
  · exact h3
  · have := (Nat.le_div_iff_mul_le hp).2 (by rw [Nat.one_mul]; exact h3)
    omega

theorem bit_one {v k : Nat} (hb : bitN v k ≠ 0) : 2 ^ k ≤ v := by
  unfold bitN at hb
  have hp : 0 < 2 ^ k := Nat.pow_pos (by decide)
  rcases Nat.lt_or_ge v (2 ^ k) with h3 | h3
  · rw [Nat.div_eq_of_lt h3] at hb; exact absurd rfl hb
  · exact h3

end Go.Proofs.YtcfefobgmhhfkaaGreatDoor
