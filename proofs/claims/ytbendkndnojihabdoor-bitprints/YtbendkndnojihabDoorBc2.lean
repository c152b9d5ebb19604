/-
  THE NUMBERS OF A SET ONE AFTER THE OTHER, as the iterator that rises hands them out: plain.
-/
import Derived.Test.YtbendkndnojihabDoorBz1
import Derived.RangeFuncNested
import Derived.RangeFuncBound
import Derived.RangeFuncCalls
import Derived.RangeFuncLeaves
import Derived.Shelf.Abstract
import Derived.OwnWalkIn
import Derived.TacticsInMore
import Derived.LoopNIn
import Derived.LoopIn
import Derived.Test.YtbendkndnojihabDoorBt2
namespace Go.Proofs.YtbendkndnojihabDoor
set_option linter.unusedVariables false

/-- The numbers below n, rising. -/
def elN (P : Nat → Bool) : Nat → List Nat
  | 0 => []
  | n + 1 => elN P n ++ (if P n then [n] else [])
theorem elN_len (P : Nat → Bool) : ∀ n, (elN P n).length = cntB P n
  | 0 => rfl
  | n + 1 => by simp only [elN, cntB, List.length_append]; rw [elN_len P n]; split <;> simp_all
theorem elN_skip {P : Nat → Bool} {a : Nat} : ∀ {b : Nat}, a ≤ b → (∀ x, a ≤ x → x < b → P x = false) → elN P b = elN P a
  | 0, h, _ => by rw [show a = 0 from by omega]
  | b + 1, h, hz => by
    by_cases e : a = b + 1
    · rw [e]
    · simp only [elN]
      rw [elN_skip (b := b) (by omega) (fun x h1 h2 => hz x h1 (by omega)), hz b (by omega) (by omega)]
      simp
theorem elN_succ {P : Nat → Bool} {t : Nat} (h : P t = true) : elN P (t + 1) = elN P t ++ [t] := by simp [elN, h]
theorem elN_mem {P : Nat → Bool} : ∀ {n x : Nat}, x ∈ elN P n ↔ x < n ∧ P x = true
  | 0, x => by simp [elN]
  | n + 1, x => by
    simp only [elN, List.mem_append]
    rw [elN_mem (n := n)]
    constructor
    · rintro (h | h)
      · exact ⟨by omega, h.2⟩
      · split at h
        · simp at h; subst h; rename_i hp; exact ⟨by omega, hp⟩
        · simp at h
    · rintro ⟨h1, h2⟩
      by_cases e : x = n
      · subst e; right; simp [h2]
      · left; exact ⟨by omega, h2⟩
/-- y is x's bits from p on. -/
def FromB (x p y : Nat) : Prop := y < 18446744073709551616 ∧ ∀ j, y.testBit j = (x.testBit j && decide (p ≤ j))
theorem FromB.start {x : Nat} (h : x < 18446744073709551616) : FromB x 0 x := ⟨h, fun j => by simp⟩
theorem FromB.low {x p y : Nat} (h : FromB x p y) (h0 : 0 < y) : p ≤ tz64 y ∧ tz64 y < 64 ∧ x.testBit (tz64 y) = true ∧ (∀ j, p ≤ j → j < tz64 y → x.testBit j = false) := by
  obtain ⟨k1, k2⟩ := tz64_tb h0 h.1
  have k3 := k1
  rw [h.2] at k3
  simp only [Bool.and_eq_true, decide_eq_true_eq] at k3
  refine ⟨k3.2, tz64_lt h0 h.1, k3.1, fun j h1 h2 => ?_⟩
  have := k2 j h2
  rw [h.2, decide_eq_true h1, Bool.and_true] at this
  exact this
theorem FromB.step {x p y : Nat} (h : FromB x p y) (h0 : 0 < y) : FromB x (tz64 y + 1) (y &&& (y - 1)) := by
  obtain ⟨a1, a2, a3, a4⟩ := h.low h0
  refine ⟨and_lt64 h.1, fun j => ?_⟩
  rw [tz64_drop h0 h.1, h.2]
  cases hj : x.testBit j
  · rfl
  · simp only [Bool.true_and]
    rw [Bool.eq_iff_iff]
    simp only [Bool.and_eq_true, decide_eq_true_eq, Bool.not_eq_true', beq_eq_false_iff_ne, ne_eq]
    constructor
    · rintro ⟨b1, b2⟩
      rcases Nat.lt_or_ge j (tz64 y) with c | c
      · rw [a4 j b1 c] at hj; cases hj
      · omega
    · intro b
      exact ⟨by omega, by omega⟩
theorem FromB.zero {x p : Nat} (h : FromB x p 0) (j : Nat) (hj : p ≤ j) : x.testBit j = false := by
  have := h.2 j
  rw [decide_eq_true hj, Bool.and_true] at this
  rw [← this]; simp
/-- Word k: its number handed out; its end. -/
theorem elN_word {f : Nat → Nat} {k p y : Nat} (h : FromB (f k) p y) (h0 : 0 < y) : elN (hasB f) (64 * k + tz64 y + 1) = elN (hasB f) (64 * k + p) ++ [64 * k + tz64 y] ∧ hasB f (64 * k + tz64 y) = true := by
  obtain ⟨a1, a2, a3, a4⟩ := h.low h0
  have hb : ∀ j, j < 64 → hasB f (64 * k + j) = (f k).testBit j := fun j hj => by
    unfold hasB
    rw [show (64 * k + j) / 64 = k from by omega, show (64 * k + j) % 64 = j from by omega]
  have hp : hasB f (64 * k + tz64 y) = true := by rw [hb _ a2]; exact a3
  refine ⟨?_, hp⟩
  rw [elN_succ hp, elN_skip (a := 64 * k + p) (b := 64 * k + tz64 y) (by omega) (fun x h1 h2 => ?_)]
  have := hb (x - 64 * k) (by omega)
  rw [show 64 * k + (x - 64 * k) = x from by omega] at this
  rw [this]
  exact a4 _ (by omega) (by omega)
theorem elN_end {f : Nat → Nat} {k p : Nat} (h : FromB (f k) p 0) (hp : p ≤ 64) : elN (hasB f) (64 * (k + 1)) = elN (hasB f) (64 * k + p) := by
  refine elN_skip (by omega) (fun x h1 h2 => ?_)
  unfold hasB
  rw [show x / 64 = k from by omega]
  exact h.zero _ (by omega)
end Go.Proofs.YtbendkndnojihabDoor

namespace Go.Proofs.YtbendkndnojihabDoor
open Go.RowKit Go.Deep Go.Shelf
set_option linter.unusedVariables false
attribute [local go_sem] Oper.semAt_some

/-- What is handed out: a number and its word. -/
def encB (N : Nat) (xs : List Nat) (x : Fin N) : Array Value := #[.int .i64 ((x.val : Nat) : Int), .int .u64 ((xs[x.val]?.getD 0 : Nat) : Int)]

end Go.Proofs.YtbendkndnojihabDoor
