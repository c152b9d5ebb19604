/-
  sloperef1.Bit, Bits, twice: contracts.
-/
import Derived.Test.YtlecjjcpidjmhaaDoorNBits
import Derived.Test.YtlecjjcpidjmhaaDoorShr
namespace Go.Proofs.YtlecjjcpidjmhaaDoor
open Go.RowKit Go.Deep
set_option linter.unusedVariables false

/-- Bit i of a number. -/
def bitN (v i : Nat) : Nat := v / 2 ^ i % 2
theorem bitN_lt (v i : Nat) : bitN v i < 2 := Nat.mod_lt _ (by decide)

theorem bit_limb {xs : List Nat} (ox : Ok xs) {i l s : Nat} (hl : i / 32 = l) (hs : i % 32 = s) : bitN (val xs) i = xs.getD l 0 / 2 ^ s % 2 := by
  have hi : i = 32 * l + s := by omega
  have hs32 : s < 32 := by omega
  have hp := pow_split hs32
  have hpos := (pow_s hs32).1
  have e3 := val_drop ox l
  have e1 := val_drop_step xs l
  unfold bitN
  rw [hi, Nat.pow_add, ← pow_limb, ← Nat.div_div_eq_div_mul, ← e3, e1]
  generalize xs.getD l 0 = x
  generalize val (xs.drop (l + 1)) = r
  have e4 : x + 4294967296 * r = x + 2 ^ s * (2 * (2 ^ (31 - s) * r)) := by
    have : 2 ^ s * (2 * (2 ^ (31 - s) * r)) = 4294967296 * r := by
      rw [← hp, show 32 - s = 31 - s + 1 from by omega, Nat.pow_succ, Nat.mul_comm (2 ^ (31 - s)) 2, ← Nat.mul_assoc 2, Nat.mul_assoc (2 ^ s)]
    omega
  rw [e4, Nat.add_mul_div_left _ _ (by omega), Nat.add_mul_mod_self_left]

theorem and_one (y : Nat) (hy : y < 4294967296) : bits .and .u32 (y : Int) 1 = ((y % 2 : Nat) : Int) := by
  have := u32_and_nat y 1 hy (by decide)
  rw [Nat.and_one_is_mod] at this
  exact this

theorem shr_lt {x s : Nat} (hx : x < 4294967296) : x / 2 ^ s < 4294967296 := Nat.lt_of_le_of_lt (Nat.div_le_self _ _) hx

set_option maxHeartbeats 1000000 in
theorem rbit_in (b off n c : Nat) (x i l s : Nat) (w : World) (hn : n ≤ 2048) (hl : (i:Int) / 32 = (l:Int)) (hs : (i:Int) % 32 = (s:Int)) (hs32 : s < 32) (hln : l < n) (hi : i ≤ 9223372036854775807) (hx : x < 4294967296) (hc : w.cell? ⟨b, off + l, none⟩ = some (.int .u32 (x : Nat)))
    (KM : Calls Tryd.prog 20 #[.slice (some ⟨b, off, none⟩) n c] w fun e w' => e = .returned (.bool true) ∧ w' = w) :
    Calls Tryd.prog 52 #[.slice (some ⟨b, off, none⟩) n c, .int .i64 (i : Nat)] w fun e w' => e = .returned (.int .i64 ((x / 2 ^ s % 2 : Nat) : Int)) ∧ w' = w := by
  have KM' := hide KM
  have hl2 : (i:Int).tdiv 32 = (l:Int) := by rw [Int.tdiv_eq_ediv_of_nonneg (by omega)]; exact hl
  have hs2 : (i:Int).tmod 32 = (s:Int) := by rw [Int.tmod_eq_emod_of_nonneg (by omega)]; exact hs
  have t1 : (l:Int) < (n:Int) := by omega
  have t2 : ¬ (n:Int) ≤ (l:Int) := by omega
  have hy := shr_lt (s := s) hx
  have e1 : (x:Int) / 2 ^ s = ((x / 2 ^ s : Nat) : Int) := by rw [Int.natCast_ediv, Int.natCast_pow]; rfl
  have e2 := and_one _ hy
  generalize x / 2 ^ s = y at *
  have hy2 : y % 2 < 2 := Nat.mod_lt _ (by decide)
  generalize y % 2 = z at *
  clear KM
  go_enter Tryd.func52, Tryd.ntmps52
  go_wp2_with fail
  refine (unhide KM').mono ?_
  rintro e w' ⟨rfl, hw⟩
  obtain rfl := hw.symm
  go_wp2
  go_ret
  exact ⟨rfl, rfl⟩

set_option maxHeartbeats 1000000 in
theorem rbit_out (a : Option Addr) (n c i l : Nat) (w : World) (hl : (i:Int) / 32 = (l:Int)) (hi : i ≤ 9223372036854775807) (hn : n ≤ 2048) (hln : n ≤ l)
    (KM : Calls Tryd.prog 20 #[.slice a n c] w fun e w' => e = .returned (.bool true) ∧ w' = w) :
    Calls Tryd.prog 52 #[.slice a n c, .int .i64 (i : Nat)] w fun e w' => e = .returned (.int .i64 0) ∧ w' = w := by
  have KM' := hide KM
  have hl2 : (i:Int).tdiv 32 = (l:Int) := by rw [Int.tdiv_eq_ediv_of_nonneg (by omega)]; exact hl
  have t2 : (n:Int) ≤ (l:Int) := by omega
  clear KM
  go_enter Tryd.func52, Tryd.ntmps52
  go_wp2_with fail
  refine (unhide KM').mono ?_
  rintro e w' ⟨rfl, hw⟩
  obtain rfl := hw.symm
  go_wp2
  go_ret
  exact ⟨rfl, rfl⟩

/-- sloperef1.Bit. -/
theorem rbit_any (a : Option Addr) (n c : Nat) (xs : List Nat) (w : World) (i : Nat) (h : Sl w a n c xs) (ox : Ok xs) (m : MayL xs = true) (hi : i ≤ 9223372036854775807) :
    Calls Tryd.prog 52 #[.slice a n c, .int .i64 (i : Nat)] w fun e w' => e = .returned (.int .i64 (bitN (val xs) i : Nat)) ∧ w' = w := by
  have KM := rmay_any a n c xs w h
  rw [m] at KM
  have hl := h.len
  have hm := MayL.len m
  rw [bit_limb ox rfl rfl]
  by_cases hln : i / 32 < n
  · have hx : xs ≠ [] := by intro e; rw [e] at hl; simp at hl; omega
    obtain ⟨b, off, rfl, hc⟩ := h.cells.resolve_left hx
    exact rbit_in b off n c _ i (i / 32) (i % 32) w (by omega) (by omega) (by omega) (by omega) hln hi (ox.getD _) (hc _ (by omega)) KM
  · rw [getD_ge (by omega)]
    simp only [Nat.zero_div, Nat.zero_mod]
    exact rbit_out a n c i (i / 32) w (by omega) hi (by omega) (by omega) KM

theorem bits_unique {xs : List Nat} (ox : Ok xs) (nx : Norm xs) {k : Nat} (h1 : 2 ^ k ≤ val xs) (h2 : val xs < 2 ^ (k + 1)) : bitsN xs = k + 1 := by
  have a := val_lt_bits ox
  have h0 : xs ≠ [] := by
    intro e; subst e
    have : 0 < 2 ^ k := Nat.pow_pos (by decide)
    simp [val] at h1
  have b := val_ge_bits ox nx h0
  have e : bitsN xs = bitsL xs := by simp [bitsN, h0]
  rw [e] at a ⊢
  have c1 : 2 ^ k < 2 ^ bitsL xs := by omega
  have c2 : 2 ^ (bitsL xs - 1) < 2 ^ (k + 1) := by omega
  have d1 : k < bitsL xs := (Nat.pow_lt_pow_iff_right (by decide)).1 c1
  have d2 : bitsL xs - 1 < k + 1 := (Nat.pow_lt_pow_iff_right (by decide)).1 c2
  omega

theorem bit_zero {v k : Nat} (h : v < 2 ^ (k + 1)) (hb : bitN v k = 0) : v < 2 ^ k := by
  unfold bitN at hb
  have hp : 0 < 2 ^ k := Nat.pow_pos (by decide)
  rw [Nat.pow_succ, Nat.mul_comm] at h
  have h1 : v / 2 ^ k < 2 := (Nat.div_lt_iff_lt_mul hp).2 h
  have h2 : v / 2 ^ k = 0 := by
    generalize v / 2 ^ k = t at *
    omega
  rcases Nat.lt_or_ge v (2 ^ k) with h3 | h3
  · exact h3
  · have := (Nat.le_div_iff_mul_le hp).2 (by rw [Nat.one_mul]; exact h3)
    omega

theorem bit_one {v k : Nat} (hb : bitN v k ≠ 0) : 2 ^ k ≤ v := by
  unfold bitN at hb
  have hp : 0 < 2 ^ k := Nat.pow_pos (by decide)
  rcases Nat.lt_or_ge v (2 ^ k) with h3 | h3
  · rw [Nat.div_eq_of_lt h3] at hb; exact absurd rfl hb
  · exact h3

set_option maxHeartbeats 2000000 in
/-- sloperef1.Bits. -/
theorem rbits_any (a : Option Addr) (n c : Nat) (xs : List Nat) (w : World) (h : Sl w a n c xs) (ox : Ok xs) (m : MayL xs = true) :
    Calls Tryd.prog 49 #[.slice a n c] w fun e w' => e = .returned (.int .i64 (bitsN xs : Nat)) ∧ w' = w := by
  have KM := rmay_any a n c xs w h
  rw [m] at KM
  have hn : n ≤ 2048 := by have := h.len; have := MayL.len m; omega
  have KB := hide (fun i hi => rbit_any a n c xs w i h ox m hi)
  have KM' := hide KM
  have NX := hide (MayL.norm m)
  have h0 : val xs < 2 ^ (32 * n) := by
    have := val_lt ox
    rwa [h.len, pow_limb] at this
  have H0 := hide h0
  clear KM h m h0
  go_enter Tryd.func49, Tryd.ntmps49
  go_wp2_with fail
  refine (unhide KM').mono ?_
  rintro e w' ⟨rfl, hw⟩
  obtain rfl := hw.symm
  clear hw
  go_wp2_with fail
  go_loop [3] (fun i => ∃ k : Nat, k ≤ 32 * n ∧ i = .int .i64 ((k : Int) - 1) ∧ Hid (val xs < 2 ^ k)) (fun i => (intOf i + 1).toNat)
  case atStart => exact ⟨32 * n, Nat.le_refl _, by go_num, unhide H0⟩
  case round =>
    clear H0
    obtain ⟨k, hk, rfl, HV⟩ := hrel
    rcases k with _ | k
    · have t1 : ¬ (0:Int) ≤ ((0:Nat):Int) - 1 := by omega
      go_wp2
      go_ret
      refine ⟨?_, rfl⟩
      have hz : val xs = 0 := by have := unhide HV; simp at this; exact this
      have hx : xs = [] := by
        rcases Classical.em (xs = []) with e | e
        · exact e
        · exact absurd hz (val_ne (unhide NX) e)
      have : bitsN xs = 0 := by simp [bitsN, hx]
      rw [this]; rfl
    · have t0 : ((k + 1 : Nat) : Int) - 1 = (k : Int) := by omega
      rw [t0]
      have K := hide (unhide KB k (by omega))
      have hb2 := bitN_lt (val xs) k
      by_cases hb : bitN (val xs) k = 0
      · have HN := hide (bit_zero (unhide HV) hb)
        rw [hb] at K
        clear hb hb2
        go_wp2_with fail
        refine (unhide K).mono ?_
        rintro e w' ⟨rfl, hw⟩
        obtain rfl := hw.symm
        go_wp2
        exact ⟨⟨k, by omega, rfl, HN⟩, by simp [intOf]⟩
      · have HU := hide (bits_unique ox (unhide NX) (bit_one hb) (unhide HV))
        have hb1 : bitN (val xs) k = 1 := by omega
        rw [hb1] at K
        clear hb hb2 hb1
        go_wp2_with fail
        refine (unhide K).mono ?_
        rintro e w' ⟨rfl, hw⟩
        obtain rfl := hw.symm
        go_wp2
        go_ret
        rw [unhide HU]
        exact ⟨rfl, rfl⟩
end Go.Proofs.YtlecjjcpidjmhaaDoor
