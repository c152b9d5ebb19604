/-
  natural.add, its list one that may be written.
-/
import Derived.Test.YtpnhmaenmmelnaaDoorShr
namespace Go.Proofs.YtpnhmaenmmelnaaDoor
open Go.RowKit Go.Deep
set_option linter.unusedVariables false

set_option maxHeartbeats 1000000 in
theorem add_geF (a1 a2 : Option Addr) (n1 c1 n2 c2 : Nat) (xs ys : List Nat) (w : World) (h1 : Sl w a1 n1 c1 xs) (h2 : Sl w a2 n2 c2 ys) (ox : Ok xs) (oy : Ok ys) (hb1 : n1 ≤ 70368744170000) (hb2 : n2 ≤ 70368744170000) (hge : n2 ≤ n1) :
    Calls Tryd.prog 80 #[.slice a1 n1 c1, .slice a2 n2 c2] w fun e w' => NewRepF w w' (val xs + val ys) e := by
  have hl1 := h1.len
  have hl2 := h2.len
  have hmk := make_len1 n1 (by omega)
  have hcmp : ¬ (n1:Int) < (n2:Int) := by omega
  have bel0 := (Below.refl w.heap.size w).alloc (Nat.le_refl _) (.cells (madeCells #[.int .u32 0] (n1 + 1)) 64)
  have HF0 := Fn.made w (n1 + 1) 64
  have HF := hide HF0
  have HS := hide (h1.below bel0)
  have U := Upd.setCells w.heap.size 0 (n1 + 1) (vals xs) 0 (w.alloc (.cells (madeCells #[.int .u32 0] (n1 + 1)) 64)) (Nat.le_refl _) (by simp [vals, hl1])
  have bel1 : Below w.heap.size w _ := bel0.trans (U.below (Nat.le_refl _) (by simp))
  have F1 := HF0.copied xs (by omega)
  have S2 := h2.below bel1
  have KA := addTo_any w.heap.size 0 (n1 + 1) (n1 + 1) n2 c2 a2 _ ys _ S2 (fun x hx hne => by have := h2.block_lt hne x hx; omega) (by omega) (by unfold maxLen; omega) oy (fun i _ => getD_lt (f := fun _ => 0) ox i) F1
  have HV := hide (valF_pad xs (n1 + 1) (by omega))
  have KA' := hide KA
  have HB1 := hide bel1
  have HX := hide (val_lt ox)
  have HY := hide (val_lt oy)
  clear KA S2 F1 bel1 U HF0 bel0 h1 h2 ox oy
  go_enter Tryd.func80, Tryd.ntmps80
  go_wp2_with (refine wpList_copy_row rfl _ _ rfl w.heap.size 0 (n1 + 1) (n1 + 1) a1 n1 c1 rfl rfl _ (unhide HF) xs (unhide HS) (Nat.le_succ _) ?_)
  refine (unhide KA').mono ?_
  rintro e w2 ⟨f', c, rfl, hc, hF, hf, hval, hupd⟩
  have hz : valF f' (n1 + 1) = val xs + val ys := by
    have := hval
    rw [unhide HV, Nat.pow_succ] at this
    have r := add_fin this (by rw [← hl1]; exact unhide HX) (Nat.lt_of_lt_of_le (unhide HY) (pow_mono (by omega)))
    omega
  have KT := trim_any _ (n1 + 1) (n1 + 1) _ w2 (hF.sl (Nat.le_refl _) (by unfold maxLen; omega)) (lst_ok hf)
  rw [lst_val, hz] at KT
  have KT' := hide KT
  have HFF := hide hF
  have HVV := hide (show val xs + val ys < 4294967296 ^ (n1 + 1) from by rw [← hz]; exact valF_lt hf)
  have HB2 := hide ((unhide HB1).trans (hupd.below (Nat.le_refl _) (unhide HB1).size))
  clear KT hz hval hupd hF hf KA' HV HX HY
  go_wp2_with fail
  refine (unhide KT').mono ?_
  rintro e w3 ⟨a', m, zs, rfl, hs, hr, ha, rfl⟩
  go_wp2
  go_ret
  have hml : m ≤ n1 + 1 := by rw [← hs.len]; exact rep_len_leS hr (unhide HVV)
  refine ⟨a', m, zs, rfl, hs, hr, ?_, unhide HB2, ?_⟩
  · intro x hx
    rcases ha with rfl | rfl
    · cases hx; exact Nat.le_refl _
    · cases hx
  · intro x hx i hi
    rcases ha with rfl | rfl
    · cases hx; exact (unhide HFF i (by omega)).2
    · cases hx

set_option maxHeartbeats 1000000 in
theorem add_ltF (a1 a2 : Option Addr) (n1 c1 n2 c2 : Nat) (xs ys : List Nat) (w : World) (h1 : Sl w a1 n1 c1 xs) (h2 : Sl w a2 n2 c2 ys) (ox : Ok xs) (oy : Ok ys) (hb1 : n1 ≤ 70368744170000) (hb2 : n2 ≤ 70368744170000) (hlt : n1 < n2) :
    Calls Tryd.prog 80 #[.slice a1 n1 c1, .slice a2 n2 c2] w fun e w' => NewRepF w w' (val xs + val ys) e := by
  have hl1 := h1.len
  have hl2 := h2.len
  have hmk := make_len1 n2 (by omega)
  have hcmp : (n1:Int) < (n2:Int) := by omega
  have bel0 := (Below.refl w.heap.size w).alloc (Nat.le_refl _) (.cells (madeCells #[.int .u32 0] (n2 + 1)) 64)
  have HF0 := Fn.made w (n2 + 1) 64
  have HF := hide HF0
  have HS := hide (h2.below bel0)
  have U := Upd.setCells w.heap.size 0 (n2 + 1) (vals ys) 0 (w.alloc (.cells (madeCells #[.int .u32 0] (n2 + 1)) 64)) (Nat.le_refl _) (by simp [vals, hl2])
  have bel1 : Below w.heap.size w _ := bel0.trans (U.below (Nat.le_refl _) (by simp))
  have F1 := HF0.copied ys (by omega)
  have S2 := h1.below bel1
  have KA := addTo_any w.heap.size 0 (n2 + 1) (n2 + 1) n1 c1 a1 _ xs _ S2 (fun x hx hne => by have := h1.block_lt hne x hx; omega) (by omega) (by unfold maxLen; omega) ox (fun i _ => getD_lt (f := fun _ => 0) oy i) F1
  have HV := hide (valF_pad ys (n2 + 1) (by omega))
  have KA' := hide KA
  have HB1 := hide bel1
  have HX := hide (val_lt oy)
  have HY := hide (val_lt ox)
  clear KA S2 F1 bel1 U HF0 bel0 h1 h2 ox oy
  go_enter Tryd.func80, Tryd.ntmps80
  go_wp2_with (refine wpList_copy_row rfl _ _ rfl w.heap.size 0 (n2 + 1) (n2 + 1) a2 n2 c2 rfl rfl _ (unhide HF) ys (unhide HS) (Nat.le_succ _) ?_)
  refine (unhide KA').mono ?_
  rintro e w2 ⟨f', c, rfl, hc, hF, hf, hval, hupd⟩
  have hz : valF f' (n2 + 1) = val xs + val ys := by
    have := hval
    rw [unhide HV, Nat.pow_succ] at this
    have r := add_fin this (by rw [← hl2]; exact unhide HX) (Nat.lt_of_lt_of_le (unhide HY) (pow_mono (by omega)))
    omega
  have KT := trim_any _ (n2 + 1) (n2 + 1) _ w2 (hF.sl (Nat.le_refl _) (by unfold maxLen; omega)) (lst_ok hf)
  rw [lst_val, hz] at KT
  have KT' := hide KT
  have HFF := hide hF
  have HVV := hide (show val xs + val ys < 4294967296 ^ (n2 + 1) from by rw [← hz]; exact valF_lt hf)
  have HB2 := hide ((unhide HB1).trans (hupd.below (Nat.le_refl _) (unhide HB1).size))
  clear KT hz hval hupd hF hf KA' HV HX HY
  go_wp2_with fail
  refine (unhide KT').mono ?_
  rintro e w3 ⟨a', m, zs, rfl, hs, hr, ha, rfl⟩
  go_wp2
  go_ret
  have hml : m ≤ n2 + 1 := by rw [← hs.len]; exact rep_len_leS hr (unhide HVV)
  refine ⟨a', m, zs, rfl, hs, hr, ?_, unhide HB2, ?_⟩
  · intro x hx
    rcases ha with rfl | rfl
    · cases hx; exact Nat.le_refl _
    · cases hx
  · intro x hx i hi
    rcases ha with rfl | rfl
    · cases hx; exact (unhide HFF i (by omega)).2
    · cases hx

theorem add_anyF (a1 a2 : Option Addr) (n1 c1 n2 c2 : Nat) (xs ys : List Nat) (w : World) (h1 : Sl w a1 n1 c1 xs) (h2 : Sl w a2 n2 c2 ys) (ox : Ok xs) (oy : Ok ys) (hb1 : n1 ≤ 70368744170000) (hb2 : n2 ≤ 70368744170000) :
    Calls Tryd.prog 80 #[.slice a1 n1 c1, .slice a2 n2 c2] w fun e w' => NewRepF w w' (val xs + val ys) e := by
  by_cases h : n2 ≤ n1
  · exact add_geF a1 a2 n1 c1 n2 c2 xs ys w h1 h2 ox oy hb1 hb2 h
  · exact add_ltF a1 a2 n1 c1 n2 c2 xs ys w h1 h2 ox oy hb1 hb2 (by omega)

-- Newton's steps for roots: the arithmetic
theorem two_mul_le (r x : Nat) : 2 * (r * x) ≤ r * r + x * x := by
  rcases Nat.le_total r x with h | h
  · obtain ⟨d, rfl⟩ := Nat.exists_eq_add_of_le h
    simp only [Nat.mul_add, Nat.add_mul, Nat.mul_comm d r]
    omega
  · obtain ⟨d, rfl⟩ := Nat.exists_eq_add_of_le h
    simp only [Nat.mul_add, Nat.add_mul, Nat.mul_comm d x]
    omega
theorem bern (r x : Nat) : ∀ (k : Nat), (k + 1) * (r * x ^ k) ≤ r ^ (k + 1) + k * x ^ (k + 1)
  | 0 => by simp
  | k + 1 => by
    have ih := bern r x k
    have h2 := Nat.mul_le_mul_left (x ^ k) (two_mul_le r x)
    have ih2 := Nat.mul_le_mul_left r ih
    -- u = r x T, v = r r T, y = x x T
    have e1 : r * x ^ (k + 1) = x ^ k * (r * x) := by rw [Nat.pow_succ, ← Nat.mul_assoc, Nat.mul_comm r, Nat.mul_assoc]
    have e2 : x ^ (k + 1 + 1) = x ^ k * (x * x) := by rw [Nat.pow_succ, Nat.pow_succ, Nat.mul_assoc]
    have e3 : r * ((k + 1) * (r * x ^ k)) = (k + 1) * (x ^ k * (r * r)) := by
      rw [← Nat.mul_assoc, Nat.mul_comm r (k + 1), Nat.mul_assoc]
      congr 1
      rw [← Nat.mul_assoc, Nat.mul_comm]
    have e4 : r * (r ^ (k + 1) + k * x ^ (k + 1)) = r ^ (k + 1 + 1) + k * (x ^ k * (r * x)) := by
      rw [Nat.mul_add, Nat.pow_succ r (k + 1), Nat.mul_comm r, ← Nat.mul_assoc, Nat.mul_comm r k, Nat.mul_assoc, e1]
    rw [e3, e4] at ih2
    rw [e1, e2]
    have e5 : x ^ k * (2 * (r * x)) = 2 * (x ^ k * (r * x)) := by rw [← Nat.mul_assoc, Nat.mul_comm (x ^ k) 2, Nat.mul_assoc]
    rw [e5, Nat.mul_add] at h2
    generalize x ^ k * (r * x) = u at *
    generalize x ^ k * (r * r) = v at *
    generalize x ^ k * (x * x) = y at *
    generalize r ^ (k + 1 + 1) = A at *
    have h3 : (k + 1) * (2 * u) ≤ (k + 1) * (v + y) := Nat.mul_le_mul_left _ h2
    have f1 : (k + 1) * (2 * u) = 2 * (k * u) + 2 * u := by rw [Nat.add_mul, Nat.one_mul, ← Nat.mul_assoc, Nat.mul_comm k 2, Nat.mul_assoc]
    have f2 : (k + 1) * (v + y) = k * v + v + (k * y + y) := by rw [Nat.mul_add, Nat.add_mul, Nat.add_mul, Nat.one_mul, Nat.one_mul]
    have f3 : (k + 1) * v = k * v + v := by rw [Nat.add_mul, Nat.one_mul]
    have f4 : (k + 1 + 1) * u = k * u + 2 * u := by rw [Nat.add_assoc, Nat.add_mul]
    have f5 : (k + 1) * y = k * y + y := by rw [Nat.add_mul, Nat.one_mul]
    rw [f1, f2] at h3
    rw [f3] at ih2
    rw [f4, f5]
    omega

/-- The greatest number whose power k is not above n. -/
def IsRoot (n k r : Nat) : Prop := r ^ k ≤ n ∧ n < (r + 1) ^ k
theorem pow_mono_left {a b : Nat} (h : a ≤ b) (k : Nat) : a ^ k ≤ b ^ k := Nat.pow_le_pow_left h k
theorem IsRoot.unique {n k r s : Nat} (h : IsRoot n k r) (g : IsRoot n k s) : r = s := by
  rcases Nat.lt_trichotomy r s with e | e | e
  · have := pow_mono_left (show r + 1 ≤ s from e) k
    have := h.2; have := g.1; omega
  · exact e
  · have := pow_mono_left (show s + 1 ≤ r from e) k
    have := g.2; have := h.1; omega
theorem IsRoot.le {n k r x : Nat} (h : IsRoot n k r) (hx : x ^ k ≤ n) : x ≤ r := by
  rcases Nat.lt_or_ge r x with e | e
  · have := pow_mono_left (show r + 1 ≤ x from e) k
    have := h.2; omega
  · exact e
theorem IsRoot.gt {n k r x : Nat} (h : IsRoot n k r) (hx : r < x) : n < x ^ k := Nat.lt_of_lt_of_le h.2 (pow_mono_left hx k)

theorem newton_ge {n j r x : Nat} (h : r ^ (j + 1) ≤ n) (hx : 0 < x) : r ≤ (x * j + n / x ^ j) / (j + 1) := by
  rw [Nat.le_div_iff_mul_le (by omega)]
  have hb := bern r x j
  have hp : 0 < x ^ j := Nat.pow_pos hx
  rcases Nat.le_total (r * (j + 1)) (x * j) with e | e
  · exact Nat.le_trans e (Nat.le_add_right _ _)
  · obtain ⟨d, hd⟩ := Nat.exists_eq_add_of_le e
    have h1 : d ≤ n / x ^ j := by
      rw [Nat.le_div_iff_mul_le hp]
      have e1 : (j + 1) * (r * x ^ j) = (r * (j + 1)) * x ^ j := by rw [← Nat.mul_assoc, Nat.mul_comm (j + 1) r]
      have e2 : j * x ^ (j + 1) = (x * j) * x ^ j := by rw [Nat.pow_succ, Nat.mul_comm (x ^ j) x, ← Nat.mul_assoc, Nat.mul_comm j x]
      rw [e1, e2, hd, Nat.add_mul] at hb
      omega
    rw [hd]
    exact Nat.add_le_add_left h1 _
theorem newton_lt {n j x : Nat} (h : n < x ^ (j + 1)) (hx : 0 < x) : (x * j + n / x ^ j) / (j + 1) < x := by
  have hp : 0 < x ^ j := Nat.pow_pos hx
  have h1 : n / x ^ j < x := by
    rw [Nat.div_lt_iff_lt_mul hp, Nat.mul_comm, ← Nat.pow_succ]
    exact h
  rw [Nat.div_lt_iff_lt_mul (by omega), Nat.mul_add, Nat.mul_one]
  omega
end Go.Proofs.YtpnhmaenmmelnaaDoor
