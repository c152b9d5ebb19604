/-
  Texts of sets: Parse in one form for each of its two answers.
-/
import Derived.Test.YtbendkndnojihaaByk
import Derived.Test.YtbendkndnojihaaByw
namespace Go.Proofs.Ytbendkndnojihaa
open Go.RowKit Go.Deep
set_option linter.unusedVariables false

theorem paR_small {s : ByteArray} {z : Nat × (Nat → Bool)} (h : paR s = .inl z) : s.size ≤ 65536 := by
  unfold paR at h
  split at h
  · cases h
  · omega
theorem parse_yes (s : ByteArray) (sz : Nat) (P : Nat → Bool) (w : World) (hmax : s.size ≤ 9223372036854775807) (h : paR s = .inl (sz, P)) :
    Calls Try.prog 18 #[.string s] w fun r w' => ∃ a n c, r = .returned (.tuple #[setV (sz : Int) a n c, .int .i64 0, .int .i64 0]) ∧ SlW w' a n c (wordsL sz P) ∧ Below w.heap.size w w' := by
  refine (parse_any s w hmax).mono ?_
  rintro r w' (⟨sz', P', e, _, a, n, c, hr, hs, hb⟩ | ⟨p, er, e, hr, hb⟩)
  · rw [h] at e
    cases e
    exact ⟨a, n, c, hr, hs, hb⟩
  · rw [h] at e
    cases e
theorem parse_no (s : ByteArray) (p : Nat) (er : Int) (w : World) (hmax : s.size ≤ 9223372036854775807) (h : paR s = .inr (p, er)) :
    Calls Try.prog 18 #[.string s] w fun r w' => r = .returned (.tuple #[.agg #[.int .i64 0, .slice none 0 0], .int .i64 (p : Int), .int .i64 er]) ∧ Below w.heap.size w w' := by
  refine (parse_any s w hmax).mono ?_
  rintro r w' (⟨sz', P', e, _, a, n, c, hr, hs, hb⟩ | ⟨p', er', e, hr, hb⟩)
  · rw [h] at e
    cases e
  · rw [h] at e
    cases e
    exact ⟨hr, hb⟩
end Go.Proofs.Ytbendkndnojihaa

namespace Go.Proofs.Ytbendkndnojihaa
open Go.RowKit Go.Deep
set_option linter.unusedVariables false

theorem rparse_yes (s : ByteArray) (sz : Nat) (P : Nat → Bool) (w : World) (hmax : s.size ≤ 9223372036854775807) (h : paR s = .inl (sz, P)) :
    Calls Try.prog 19 #[.string s] w fun r w' => ∃ a n c, r = .returned (.tuple #[setV (sz : Int) a n c, .int .i64 0, .int .i64 0]) ∧ SlW w' a n c (wordsL sz P) ∧ Below w.heap.size w w' := by
  refine (rparse_any s w hmax).mono ?_
  rintro r w' (⟨sz', P', e, _, a, n, c, hr, hs, hb⟩ | ⟨p, er, e, hr, hb⟩)
  · rw [h] at e
    cases e
    exact ⟨a, n, c, hr, hs, hb⟩
  · rw [h] at e
    cases e
theorem rparse_no (s : ByteArray) (p : Nat) (er : Int) (w : World) (hmax : s.size ≤ 9223372036854775807) (h : paR s = .inr (p, er)) :
    Calls Try.prog 19 #[.string s] w fun r w' => r = .returned (.tuple #[.agg #[.int .i64 0, .slice none 0 0], .int .i64 (p : Int), .int .i64 er]) ∧ Below w.heap.size w w' := by
  refine (rparse_any s w hmax).mono ?_
  rintro r w' (⟨sz', P', e, _, a, n, c, hr, hs, hb⟩ | ⟨p', er', e, hr, hb⟩)
  · rw [h] at e
    cases e
  · rw [h] at e
    cases e
    exact ⟨hr, hb⟩
end Go.Proofs.Ytbendkndnojihaa
