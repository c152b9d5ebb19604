/-
  bitset.or, and, andNot, xor: contracts.
-/
import Derived.Test.YtbendkndnojihaaBti
import Derived.Test.YtbendkndnojihaaBtc
namespace Go.Proofs.Ytbendkndnojihaa
open Go.RowKit Go.Deep
set_option linter.unusedVariables false

/-- What two words are joined to. -/
def jOr (x y : Nat) : Nat := x ||| y
def jAnd (x y : Nat) : Nat := x &&& y
def jAndNot (x y : Nat) : Nat := anot x y
def jXor (x y : Nat) : Nat := x ^^^ y
theorem jOr_lt {x y : Nat} (hx : x < 18446744073709551616) (hy : y < 18446744073709551616) : jOr x y < 18446744073709551616 := or_lt64 hx hy
theorem jAnd_lt {x y : Nat} (hx : x < 18446744073709551616) (hy : y < 18446744073709551616) : jAnd x y < 18446744073709551616 := and_lt64 hx
theorem jAndNot_lt {x y : Nat} (hx : x < 18446744073709551616) (hy : y < 18446744073709551616) : jAndNot x y < 18446744073709551616 := anot_lt hx
theorem jXor_lt {x y : Nat} (hx : x < 18446744073709551616) (hy : y < 18446744073709551616) : jXor x y < 18446744073709551616 := xor_lt64 hx hy

set_option maxHeartbeats 400000 in
theorem or_fn (x y : Nat) (w : World) (hx : x < 18446744073709551616) (hy : y < 18446744073709551616) :
    Calls Try.prog 66 #[.int .u64 (x : Nat), .int .u64 (y : Nat)] w fun e w' => e = .returned (.int .u64 (jOr x y : Nat)) ∧ w' = w := by
  have H := hide (u64_or_nat x y hx hy)
  go_enter Try.func66, Try.ntmps66
  go_wp2
  go_ret
  refine ⟨?_, rfl⟩
  show Ending.returned (Value.int IntKind.u64 (bits .or .u64 (x : Int) (y : Int))) = _
  rw [unhide H]; rfl

set_option maxHeartbeats 400000 in
theorem and_fn (x y : Nat) (w : World) (hx : x < 18446744073709551616) (hy : y < 18446744073709551616) :
    Calls Try.prog 68 #[.int .u64 (x : Nat), .int .u64 (y : Nat)] w fun e w' => e = .returned (.int .u64 (jAnd x y : Nat)) ∧ w' = w := by
  have H := hide (u64_and_nat x y hx hy)
  go_enter Try.func68, Try.ntmps68
  go_wp2
  go_ret
  refine ⟨?_, rfl⟩
  show Ending.returned (Value.int IntKind.u64 (bits .and .u64 (x : Int) (y : Int))) = _
  rw [unhide H]; rfl

set_option maxHeartbeats 400000 in
theorem andNot_fn (x y : Nat) (w : World) (hx : x < 18446744073709551616) (hy : y < 18446744073709551616) :
    Calls Try.prog 64 #[.int .u64 (x : Nat), .int .u64 (y : Nat)] w fun e w' => e = .returned (.int .u64 (jAndNot x y : Nat)) ∧ w' = w := by
  have H := hide (u64_andNot_nat x y hx hy)
  go_enter Try.func64, Try.ntmps64
  go_wp2
  go_ret
  refine ⟨?_, rfl⟩
  show Ending.returned (Value.int IntKind.u64 (bits .andNot .u64 (x : Int) (y : Int))) = _
  rw [unhide H]; rfl

set_option maxHeartbeats 400000 in
theorem xor_fn (x y : Nat) (w : World) (hx : x < 18446744073709551616) (hy : y < 18446744073709551616) :
    Calls Try.prog 63 #[.int .u64 (x : Nat), .int .u64 (y : Nat)] w fun e w' => e = .returned (.int .u64 (jXor x y : Nat)) ∧ w' = w := by
  have H := hide (u64_xor_nat x y hx hy)
  go_enter Try.func63, Try.ntmps63
  go_wp2
  go_ret
  refine ⟨?_, rfl⟩
  show Ending.returned (Value.int IntKind.u64 (bits .xor .u64 (x : Int) (y : Int))) = _
  rw [unhide H]; rfl

/-- Joined up to k. -/
def jnF (F : Nat → Nat → Nat) (f : Nat → Nat) (xs : List Nat) (k i : Nat) : Nat := if i < k then F (f i) (xs.getD i 0) else f i
theorem jnF_zero (F : Nat → Nat → Nat) (f : Nat → Nat) (xs : List Nat) : jnF F f xs 0 = f := by funext i; simp [jnF]
theorem jnF_step {F : Nat → Nat → Nat} {f : Nat → Nat} {xs : List Nat} {w : World} {b N k : Nat} (h : FnW w b 0 N (jnF F f xs k)) (hk : k < N) :
    FnW (w.setCell ⟨b, k, none⟩ (.int .u64 ((F (f k) (xs.getD k 0) : Nat) : Int))) b 0 N (jnF F f xs (k + 1)) := by
  have := h.set k (F (f k) (xs.getD k 0)) hk
  rw [Nat.zero_add] at this
  refine this.congr (fun i hi => ?_)
  unfold jnF
  by_cases e : i = k
  · subst e; simp
  · by_cases e2 : i < k
    · simp [e, e2, show i < k + 1 from by omega]
    · simp [e, e2, show ¬ i < k + 1 from by omega]
/-- In the loop. -/
structure JnLp (w wr : World) (b N : Nat) (g : Nat → Nat) : Prop where
  row : FnW wr b 0 N g
  chg : Chg (fun j => j = b) w wr
end Go.Proofs.Ytbendkndnojihaa
