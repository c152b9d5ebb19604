/-
  natural.add, subtract, fit, Add, Sub, Diff: contracts.
-/
import Derived.Test.YtlecjjcpidjmhaaCopy
import Derived.Test.YtlecjjcpidjmhaaCmp
namespace Go.Proofs.Ytlecjjcpidjmhaa
open Go.RowKit Go.Deep
set_option linter.unusedVariables false

/-- A new slice that holds the number v, in its one way. -/
def NewRep (w w' : World) (v : Nat) (e : Ending) : Prop :=
  ∃ a' m ys, e = .returned (.slice a' m m) ∧ Sl w' a' m m ys ∧ Rep v ys ∧ NewAt w.heap.size a' ∧ Below w.heap.size w w'

theorem make_len1 (n : Nat) (hn : n ≤ 70368744177000) (w : World) : (Instr.makeSlice 22 (.int .i64 ((n : Int) + 1)) (.int .i64 ((n : Int) + 1))).run Try.prog w = .ok (.slice (some ⟨w.heap.size, 0, none⟩) (n + 1) (n + 1)) (w.alloc (.cells (madeCells #[.int .u32 0] (n + 1)) 77)) := by
  have := make_len (n + 1) (by omega) w
  rw [show ((n + 1 : Nat) : Int) = (n : Int) + 1 from by omega] at this
  exact this

theorem add_fin {x y z c P : Nat} (hz : z + P * 4294967296 * c = x + y) (hx : x < P) (hy : y < P) : z = x + y := by
  rcases Nat.eq_zero_or_pos c with h | h
  · subst h
    rw [Nat.mul_zero] at hz
    exact hz
  · exfalso
    have h1 : P * 4294967296 * 1 ≤ P * 4294967296 * c := Nat.mul_le_mul_left _ h
    rw [Nat.mul_one] at h1
    have h2 : P * 2 ≤ P * 4294967296 := Nat.mul_le_mul_left _ (by decide)
    omega

theorem pow_mono {a b : Nat} (h : a ≤ b) : 4294967296 ^ a ≤ 4294967296 ^ b := Nat.pow_le_pow_right (by decide) h

/-- What a call with two results answers: limbs in new memory, and an error's number. -/
def Res2 (w w' : World) (r : List Nat × Int) (e : Ending) : Prop :=
  ∃ a m c, e = .returned (.tuple #[.slice a m c, .int .i64 r.2]) ∧ Sl w' a m c r.1 ∧ NewAt w.heap.size a ∧ Below w.heap.size w w'

/-- A result, or ErrBig. -/
def fitL (v : Nat) : List Nat × Int := if 2048 < (limbs v).length then ([], 2) else (limbs v, 0)

theorem fitL_big {v : Nat} (h : 2048 < (limbs v).length) : fitL v = ([], 2) := by simp [fitL, h]
theorem fitL_ok {v : Nat} (h : ¬ 2048 < (limbs v).length) : fitL v = (limbs v, 0) := by simp [fitL, h]

theorem sl_nil (w : World) : Sl w none 0 0 [] := ⟨rfl, Nat.le_refl _, Nat.zero_le _, .inl rfl⟩
theorem newAt_nil (B : Nat) : NewAt B none := fun x hx => by cases hx

set_option maxHeartbeats 400000 in
/-- natural.fit. -/
theorem fit_any (a : Option Addr) (m c v : Nat) (ys : List Nat) (w : World) (h : Sl w a m c ys) (hr : Rep v ys) :
    Calls Try.prog 52 #[.slice a m c] w fun e w' => ∃ a' m' c', e = .returned (.tuple #[.slice a' m' c', .int .i64 (fitL v).2]) ∧ Sl w' a' m' c' (fitL v).1 ∧ (a' = a ∨ a' = none) ∧ w' = w := by
  have hl := h.len
  have e := hr.eq
  by_cases hb : 2048 < m
  · have hf := fitL_big (v := v) (by rw [← e, hl]; exact hb)
    have hb' : (2048:Int) < (m:Int) := by omega
    rw [hf]
    clear hf e hl hr h
    go_enter Try.func52, Try.ntmps52
    go_wp2
    go_ret2
    exact ⟨none, 0, 0, rfl, sl_nil _, .inr rfl, rfl⟩
  · have hf := fitL_ok (v := v) (by rw [← e, hl]; exact hb)
    have hb' : ¬ (2048:Int) < (m:Int) := by omega
    rw [hf, ← e]
    have H := hide h
    clear hf e hl hr h
    go_enter Try.func52, Try.ntmps52
    go_wp2
    go_ret2
    exact ⟨a, m, c, rfl, unhide H, .inl rfl, rfl⟩

def addL (xs ys : List Nat) : List Nat × Int := if MayL xs && MayL ys then fitL (val xs + val ys) else ([], 20)
def subL (xs ys : List Nat) : List Nat × Int := if MayL xs && MayL ys then (if val xs < val ys then ([], 21) else (limbs (val xs - val ys), 0)) else ([], 20)


end Go.Proofs.Ytlecjjcpidjmhaa
