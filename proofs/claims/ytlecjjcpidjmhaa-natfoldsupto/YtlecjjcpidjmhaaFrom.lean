/-
  natural.word, fromWord, From, Uint; sloperef1.From: contracts. The law NatFrom's walk.
-/
import Derived.Test.YtlecjjcpidjmhaaRef1
namespace Go.Proofs.Ytlecjjcpidjmhaa
open Go.RowKit Go.Deep
set_option linter.unusedVariables false

theorem or_halves (a b : Nat) (ha : a < 4294967296) (hb : b < 4294967296) : bits .or .u64 ((a : Int) * 4294967296) (b : Int) = ((b + 4294967296 * a : Nat) : Int) := by
  have e : (a : Int) * 4294967296 = ((a * 4294967296 : Nat) : Int) := by omega
  rw [e, u64_or_nat _ _ (by omega) (by omega)]
  congr 1
  have h := Nat.shiftLeft_add_eq_or_of_lt (i := 32) (b := b) (by simpa using hb) a
  rw [Nat.shiftLeft_eq] at h
  have e2 : (2:Nat) ^ 32 = 4294967296 := by decide
  rw [e2] at h
  rw [← h]; omega

theorem two_sl (w : World) (x y : Nat) (e : TypeId) : Sl (w.alloc (.cells #[.int .u32 (x : Nat), .int .u32 (y : Nat)] e)) (some ⟨w.heap.size, 0, none⟩) 2 2 [x, y] := by
  refine ⟨rfl, Nat.le_refl _, by decide, .inr ⟨_, _, rfl, ?_⟩⟩
  intro i hi
  match i, hi with
  | 0, _ => simp
  | 1, _ => simp

theorem two_val (v : Nat) : val [v % 4294967296, v / 4294967296] = v := by
  simp only [val]; omega

theorem two_ok (v : Nat) (hv : v < 18446744073709551616) : Ok [v % 4294967296, v / 4294967296] :=
  Ok.cons (by omega) (Ok.cons (by omega) Ok.nil)

set_option maxHeartbeats 400000 in
/-- natural.fromWord. -/
theorem fromWord_any (v : Nat) (w : World) (hv : v < 18446744073709551616) :
    Calls Try.prog 70 #[.int .u64 (v : Nat)] w fun e w' => ∃ a' m ys, e = .returned (.slice a' m m) ∧ Sl w' a' m m ys ∧ Rep v ys ∧ NewAt w.heap.size a' ∧ Below w.heap.size w w' := by
  have K := hide (trim_any _ 2 2 _ _ (two_sl w (v % 4294967296) (v / 4294967296) 77) (two_ok v hv))
  go_enter Try.func70, Try.ntmps70
  go_wp2_with fail
  refine (unhide K).mono ?_
  rintro e w' ⟨a', m, ys, rfl, hs, hr, ha, rfl⟩
  go_wp2
  go_ret
  rw [two_val] at hr
  refine ⟨a', m, ys, rfl, hs, hr, ?_, (Below.refl _ _).alloc (Nat.le_refl _) _⟩
  intro x hx
  rcases ha with rfl | rfl
  · cases hx; exact Nat.le_refl _
  · cases hx

set_option maxHeartbeats 400000 in
/-- natural.From. -/
theorem from_any (v : Nat) (w : World) (hv : v < 18446744073709551616) :
    Calls Try.prog 47 #[.int .u64 (v : Nat)] w fun e w' => ∃ a' m ys, e = .returned (.slice a' m m) ∧ Sl w' a' m m ys ∧ Rep v ys ∧ NewAt w.heap.size a' ∧ Below w.heap.size w w' := by
  have K := hide (fromWord_any v w hv)
  go_enter Try.func47, Try.ntmps47
  go_wp2_with fail
  refine (unhide K).mono ?_
  rintro e w' ⟨a', m, ys, rfl, hs, hr, ha, hb⟩
  go_wp2
  go_ret
  exact ⟨a', m, ys, rfl, hs, hr, ha, hb⟩

set_option maxHeartbeats 400000 in
/-- sloperef1.From. -/
theorem rfrom_any (v : Nat) (w : World) (hv : v < 18446744073709551616) :
    Calls Try.prog 34 #[.int .u64 (v : Nat)] w fun e w' => ∃ a' m ys, e = .returned (.slice a' m m) ∧ Sl w' a' m m ys ∧ Rep v ys ∧ NewAt w.heap.size a' ∧ Below w.heap.size w w' := by
  have K := hide (rtrim_any _ 2 2 _ _ (two_sl w (v % 4294967296) (v / 4294967296) 77) (two_ok v hv) (by decide))
  go_enter Try.func34, Try.ntmps34
  go_wp2_with fail
  refine (unhide K).mono ?_
  rintro e w' ⟨a', m, ys, rfl, hs, hr, ha, hb⟩
  have hz : (w.alloc (.cells #[.int .u32 (v % 4294967296 : Nat), .int .u32 (v / 4294967296 : Nat)] 77)).heap.size = w.heap.size + 1 := by simp
  rw [hz] at ha hb
  have HB := hide (((Below.refl w.heap.size w).alloc (Nat.le_refl _) _).trans (hb.mono (by omega)))
  have HA := hide ha
  clear ha hb hz
  go_wp2
  go_ret
  rw [two_val] at hr
  exact ⟨a', m, ys, rfl, hs, hr, fun x hx => by have := unhide HA x hx; omega, unhide HB⟩

theorem rep_len {v : Nat} {ys : List Nat} (h : Rep v ys) (hv : v < 18446744073709551616) : ys.length ≤ 2 := by
  match ys, h with
  | [], _ => simp
  | [_], _ => simp
  | [_, _], _ => simp
  | x :: y :: z :: zs, h =>
    exfalso
    have h1 : val (z :: zs) ≠ 0 := val_ne (norm_tail (norm_tail h.norm)) (by simp)
    have h2 := h.val
    simp only [val] at h1 h2
    omega

theorem rep_two {v : Nat} {ys : List Nat} (h : Rep v ys) (hv : v < 18446744073709551616) : ys.getD 0 0 + 4294967296 * ys.getD 1 0 = v := by
  have hl := rep_len h hv
  have h2 := h.val
  match ys, hl with
  | [], _ => simpa [val] using h2
  | [_], _ => simpa [val] using h2
  | [_, _], _ => simpa [val] using h2

end Go.Proofs.Ytlecjjcpidjmhaa
