/-
  COLOURS: slices.Max of whole numbers; colour.number: contracts.
-/
import Derived.Test.YtppdpdkldokacaaCg5
import Derived.Lib.MinMax
namespace Go.Proofs.Ytppdpdkldokacaa
open Go.RowKit Go.Deep
set_option linter.unusedVariables false

/-- The greatest of the first k. -/
structure MaxTo (xs : List Int) (k : Nat) (v : Int) : Prop where
  at_ : ∃ i, i < k ∧ xs.getD i 0 = v
  le : ∀ i, i < k → xs.getD i 0 ≤ v
theorem MaxTo.next {xs : List Int} {k : Nat} {v x : Int} (h : MaxTo xs k v) (hx : xs.getD k 0 = x) : MaxTo xs (k + 1) (max v x) := by
  obtain ⟨i, hi, he⟩ := h.at_
  refine ⟨?_, fun j hj => ?_⟩
  · by_cases c : v ≤ x
    · exact ⟨k, by omega, by rw [hx]; omega⟩
    · exact ⟨i, by omega, by rw [he]; omega⟩
  · by_cases e : j = k
    · subst e; rw [hx]; omega
    · have := h.le j (by omega); omega
theorem MaxTo.one {xs : List Int} {k : Nat} {v u : Int} (h : MaxTo xs k v) (g : MaxTo xs k u) : v = u := by
  obtain ⟨i, hi, he⟩ := h.at_
  obtain ⟨j, hj, hf⟩ := g.at_
  have := h.le j hj
  have := g.le i hi
  omega
set_option maxRecDepth 20000 in
set_option maxHeartbeats 8000000 in
/-- slices.Max of whole numbers. -/
theorem smax_any (a : Option Addr) (n c : Nat) (xs : List Int) (w : World) (h : SlI w a n c xs) (hn : n ≤ 1000000) (h0 : 0 < n) :
    Calls Try.prog 47 #[.slice a n c] w fun e w' => ∃ v : Int, e = .returned (.int .i64 v) ∧ MaxTo xs n v ∧ Below w.heap.size w w' := by
  have HS := hide h
  obtain ⟨b, off, rfl, hc⟩ := h.at (by omega)
  have s0 := hc 0 h0
  rw [Nat.add_zero] at s0
  obtain ⟨x, hx⟩ : ∃ x, xs.getD 0 0 = x := ⟨_, rfl⟩
  rw [hx] at s0
  have HX := hide hx
  have hn1 : ¬ (n : Int) < 1 := by omega
  have hn2 : (0 : Int) < (n : Int) := by omega
  clear h hc hx
  go_enter Try.func47, Try.ntmps47
  go_wp2_with fail
  go_loopw [3, 4] (fun mv iv wr => ∃ (u : Int) (k : Nat), 1 ≤ k ∧ k ≤ n ∧ mv = .int .i64 u ∧ iv = .int .i64 (k : Int) ∧ Hid (MaxTo xs k u) ∧ Hid (Below w.heap.size w wr)) (fun _ iv _ => n - (intOf iv).toNat)
  case atStart => exact ⟨x, 1, Nat.le_refl _, by omega, rfl, rfl, hide ⟨⟨0, by omega, unhide HX⟩, fun i hi => by rw [show i = 0 by omega, unhide HX]; exact Int.le_refl _⟩, hide (Below.refl _ _)⟩
  case round =>
    obtain ⟨u, k, hk1, hk, rfl, rfl, HM, HW⟩ := hrel
    clear s0
    by_cases hlt : k < n
    · have hlt' : (k : Int) < (n : Int) := by omega
      obtain ⟨b', off', e1, hc⟩ := ((unhide HS).below (unhide HW)).at (by omega)
      cases e1
      have sk := hc k hlt
      obtain ⟨y, hy⟩ : ∃ y, xs.getD k 0 = y := ⟨_, rfl⟩
      rw [hy] at sk
      have HN := hide ((unhide HM).next hy)
      obtain ⟨z, hz⟩ : ∃ z, max u y = z := ⟨_, rfl⟩
      rw [hz] at HN
      clear hc hy
      go_wp2_with fail
      exact ⟨⟨z, k + 1, by omega, by omega, by (first | rfl | simp [hz]), by (first | rfl | go_num), HN, HW⟩, by simp [intOf]; omega⟩
    · obtain rfl : k = n := by omega
      have hlt' : ¬ (k : Int) < (k : Int) := by omega
      go_wp2_with fail
      try go_ret
      exact ⟨u, rfl, unhide HM, unhide HW⟩
theorem wrap_i64n (x : Int) : IntKind.i64.wrap x = (x + 9223372036854775808) % 18446744073709551616 - 9223372036854775808 := by
  simp [IntKind.wrap, IntKind.bits, IntKind.signed]
  split <;> omega
/-- How many colours there are. -/
def NumC (cs : List Int) (z : Int) : Prop := MaxTo (-1 :: cs) (cs.length + 1) (z - 1)
end Go.Proofs.Ytppdpdkldokacaa

namespace Go.Proofs.Ytppdpdkldokacaa
open Go.RowKit Go.Deep
set_option linter.unusedVariables false

def fz0 : List Value := [.bool false, .bool false, .bool false, .bool false, .bool false, .bool false, .bool false, .bool false, .bool false, .bool false, .bool false, .bool false, .bool false, .bool false, .bool false, .bool false, .bool false, .bool false, .bool false, .bool false, .bool false, .bool false, .bool false, .bool false, .bool false, .bool false, .bool false, .bool false, .bool false, .bool false, .bool false, .bool false, .bool false, .bool false, .bool false, .bool false, .bool false, .bool false, .bool false, .bool false, .bool false, .bool false, .bool false, .bool false, .bool false, .bool false, .bool false, .bool false, .bool false, .bool false, .bool false, .bool false, .bool false, .bool false, .bool false, .bool false, .bool false, .bool false, .bool false, .bool false, .bool false, .bool false, .bool false, .bool false]
def fz1 : List Value := fz0.append fz0
def fz2 : List Value := fz1.append fz1
def fz3 : List Value := fz2.append fz2
def fz4 : List Value := fz3.append fz3
def fz5 : List Value := fz4.append fz4
def fz6 : List Value := fz5.append fz5
def fz7 : List Value := fz6.append fz6
def fz8 : List Value := fz7.append fz7
theorem fz_two {l : List Value} {n m : Nat} (h : l = List.replicate n (.bool false)) (hm : n + n = m) : l.append l = List.replicate m (.bool false) := by
  subst h hm
  exact List.replicate_append_replicate
theorem fz0_is : fz0 = List.replicate 64 (.bool false) := rfl
theorem fz1_is : fz1 = List.replicate 128 (.bool false) := fz_two fz0_is rfl
theorem fz2_is : fz2 = List.replicate 256 (.bool false) := fz_two fz1_is rfl
theorem fz3_is : fz3 = List.replicate 512 (.bool false) := fz_two fz2_is rfl
theorem fz4_is : fz4 = List.replicate 1024 (.bool false) := fz_two fz3_is rfl
theorem fz5_is : fz5 = List.replicate 2048 (.bool false) := fz_two fz4_is rfl
theorem fz6_is : fz6 = List.replicate 4096 (.bool false) := fz_two fz5_is rfl
theorem fz7_is : fz7 = List.replicate 8192 (.bool false) := fz_two fz6_is rfl
theorem fz8_is : fz8 = List.replicate 16384 (.bool false) := fz_two fz7_is rfl
theorem rep_at (l : List Value) (n i : Nat) (v : Value) (h : l = List.replicate n v) (hi : i < n) : l.toArray[i]? = some v := by subst h; simp [hi]
end Go.Proofs.Ytppdpdkldokacaa

namespace Go.Proofs.Ytppdpdkldokacaa
open Go.RowKit Go.Deep
set_option linter.unusedVariables false

/-- A list of lists, as it lies. -/
def LsI (w : World) (L m : Nat) (ls : Nat → List Int) : Prop := ∀ i, i < m → ∃ a n c, w.cell? ⟨L, i, none⟩ = some (.slice a n c) ∧ SlI w a n c (ls i) ∧ n ≤ 17592186044416
/-- Two things meet in one of the first k lists. -/
def MtP (ls : Nat → List Int) (k x : Nat) : Prop := ∃ i, i < k ∧ MeP (ls i) (ls i).length 0 x
end Go.Proofs.Ytppdpdkldokacaa

namespace Go.Proofs.Ytppdpdkldokacaa
open Go.RowKit Go.Deep
set_option linter.unusedVariables false

/-- A row's columns. -/
def rowL (st cols : List Int) (i : Nat) : List Int := (cols.drop (st.getD i 0).toNat).take ((st.getD (i + 1) 0).toNat - (st.getD i 0).toNat)
/-- Neighbours and those that have one in common, of the first k rows. -/
def NrP (st cols : List Int) (k x : Nat) : Prop := ∃ i, i < k ∧ (MeP (rowL st cols i) (rowL st cols i).length 0 x ∨ ∃ t, t < (rowL st cols i).length ∧ (i : Int) * 128 + (rowL st cols i).getD t 0 = (x : Int))
end Go.Proofs.Ytppdpdkldokacaa
