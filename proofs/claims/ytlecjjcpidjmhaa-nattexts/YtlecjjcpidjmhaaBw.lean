/-
  natural.bitwise, And, Or, Xor, Not: contracts.
-/
import Derived.Test.YtlecjjcpidjmhaaSub
namespace Go.Proofs.Ytlecjjcpidjmhaa
open Go.RowKit Go.Deep
set_option linter.unusedVariables false

/-- Limb by limb. -/
def bwAnd (x y : Nat) : Nat := x &&& y
def bwOr (x y : Nat) : Nat := x ||| y
def bwXor (x y : Nat) : Nat := x ^^^ y
def bwNot (x y : Nat) : Nat := x &&& (4294967295 - y)

theorem bwAnd_lt (x y : Nat) (hx : x < 4294967296) (hy : y < 4294967296) : bwAnd x y < 4294967296 := by
  have : (x &&& y) < 2 ^ 32 := Nat.and_lt_two_pow _ (by omega)
  exact this
theorem bwOr_lt (x y : Nat) (hx : x < 4294967296) (hy : y < 4294967296) : bwOr x y < 4294967296 := by
  have : (x ||| y) < 2 ^ 32 := Nat.or_lt_two_pow (by omega) (by omega)
  exact this
theorem bwXor_lt (x y : Nat) (hx : x < 4294967296) (hy : y < 4294967296) : bwXor x y < 4294967296 := by
  have : (x ^^^ y) < 2 ^ 32 := Nat.xor_lt_two_pow (by omega) (by omega)
  exact this
theorem bwNot_lt (x y : Nat) (hx : x < 4294967296) (hy : y < 4294967296) : bwNot x y < 4294967296 := by
  have : (x &&& (4294967295 - y)) < 2 ^ 32 := Nat.and_lt_two_pow _ (by omega)
  exact this

def bwF (F : Nat → Nat → Nat) (xs ys : List Nat) (i : Nat) : Nat := F (xs.getD i 0) (ys.getD i 0)
def bwV (F : Nat → Nat → Nat) (xs ys : List Nat) : Nat := valF (bwF F xs ys) (max xs.length ys.length)
def bwL (F : Nat → Nat → Nat) (xs ys : List Nat) : List Nat × Int := if MayL xs && MayL ys then (limbs (bwV F xs ys), 0) else ([], 20)

theorem bw_step {F : Nat → Nat → Nat} {wr w : World} {m k : Nat} {xs ys : List Nat} (hf : Fn wr w.heap.size 0 m (fun i => if i < k then bwF F xs ys i else 0)) (hlt : k < m) (hb : Below w.heap.size w wr) :
    Fn (wr.setCell ⟨w.heap.size, k, none⟩ (.int .u32 (F (xs.getD k 0) (ys.getD k 0) : Nat))) w.heap.size 0 m (fun i => if i < k + 1 then bwF F xs ys i else 0) ∧ Below w.heap.size w (wr.setCell ⟨w.heap.size, k, none⟩ (.int .u32 (F (xs.getD k 0) (ys.getD k 0) : Nat))) := by
  refine ⟨?_, hb.setCell (Nat.le_refl _) _⟩
  have h := hf.set k (F (xs.getD k 0) (ys.getD k 0)) hlt
  simp only [Nat.zero_add] at h
  refine h.congr ?_
  intro i hi
  by_cases e : i = k
  · simp [e, bwF]
  · by_cases e2 : i < k
    · simp [e, e2, show i < k + 1 from by omega]
    · simp [e, e2, show ¬ i < k + 1 from by omega]

end Go.Proofs.Ytlecjjcpidjmhaa
