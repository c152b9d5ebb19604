/-
  Texts of sets, plain: what BitRound asks.
-/
import Derived.Test.YtbendkndnojihabDoorBtr
import Derived.Test.YtbendkndnojihabDoorBv1
import Derived.Test.YtbendkndnojihabDoorBz1
namespace Go.Proofs.YtbendkndnojihabDoor
open Go.RowKit Go.Deep
set_option linter.unusedVariables false

theorem gaR_zero (sz : Nat) : ∀ (l : List Nu) (b : Int) (P0 P : Nat → Bool), gaR sz l b P0 = .inl P → (∀ x, sz ≤ x → P0 x = false) → ∀ x, sz ≤ x → P x = false
  | [], b, P0, P, h, h0, x, hx => by unfold gaR at h; cases h; exact h0 x hx
  | (v, a, lst) :: l, b, P0, P, h, h0, x, hx => by
    obtain ⟨k1, k2, k3⟩ := gaR_cons h
    exact gaR_zero sz l _ _ P k3 (fun y hy => by rw [h0 y hy, show decide (y ≤ v) = false from by simp; omega]; simp) x hx
theorem paR_zero {s : ByteArray} {sz : Nat} {P : Nat → Bool} (h : paR s = .inl (sz, P)) : ∀ x, sz ≤ x → P x = false := by
  unfold paR at h
  split at h
  · cases h
  · split at h
    · split at h
      · cases h
      · split at h
        · rename_i P' hg
          cases h
          exact gaR_zero _ _ _ _ _ hg (fun _ _ => rfl)
        · cases h
    · cases h
theorem pcT_congr {P Q : Nat → Bool} {N : Nat} (h : ∀ x, x < N → P x = Q x) {e : Nat} (he : e < N) : pcT P N e = pcT Q N e := by
  have h1 : bgB P e = bgB Q e := by unfold bgB; rw [h (e - 1) (by omega)]
  have h2 : enB P N e = enB Q N e := by
    unfold enB
    by_cases hn : e + 1 < N
    · rw [h (e + 1) hn]
    · simp [hn]
  unfold pcT
  rw [h e he, h1, h2, cntB_congr (P := P) (Q := Q) (fun x hx => h x (by omega))]
theorem rnT_congr {P Q : Nat → Bool} {N : Nat} (h : ∀ x, x < N → P x = Q x) : ∀ e, e ≤ N → rnT P N e = rnT Q N e
  | 0, _ => rfl
  | e + 1, he => by
    simp only [rnT]
    rw [rnT_congr h e (by omega), pcT_congr h (by omega)]
/-- Print of what Parse takes gives the text. -/
theorem round_text {t : ByteArray} {sz : Nat} {P : Nat → Bool} (h : paR t = .inl (sz, P)) : Good sz (wordsL sz P) P ∧ (prT sz (wordsL sz P)).2 = 0 ∧ strL (prT sz (wordsL sz P)).1 = t := by
  obtain ⟨h1, h2⟩ := paR_text h
  have g : Good sz (wordsL sz P) P := Good.mk' (paR_zero h) h1
  have hw : sz ≤ 64 * nW sz := by unfold nW; omega
  refine ⟨g, ?_, ?_⟩
  · simp [prT, g.may]
  · rw [h2]
    unfold prT
    rw [if_pos g.may]
    simp only [Int.toNat_natCast]
    rw [rnT_congr (Q := P) (fun x hx => g.has x (by omega)) sz (Nat.le_refl _)]
/-- Parse of Print gives the set. -/
theorem round_set {sz : Nat} {X : List Nat} {Q : Nat → Bool} (g : Good sz X Q) : ∃ P, paR (strL (prT sz X).1) = .inl (sz, P) ∧ wordsL sz P = X ∧ (prT sz X).2 = 0 := by
  have hw : sz ≤ 64 * nW sz := by unfold nW; omega
  have he : (prT sz X).1 = Lib.decDigits sz ++ [58] ++ rnT Q sz sz := by
    unfold prT
    rw [if_pos g.may]
    simp only [Int.toNat_natCast]
    rw [rnT_congr (Q := Q) (fun x hx => g.has x (by omega)) sz (Nat.le_refl _)]
  have hle := g.le
  have hd := dec_len sz (by omega)
  have hl := rnT_len Q sz sz hle
  obtain ⟨P, k1, k2, k3⟩ := paR_back (s := strL (prT sz X).1) (P := Q) g.le (by rw [he]) (by rw [strL_size, he]; simp only [List.length_append, List.length_singleton]; omega)
  refine ⟨P, k1, ?_, by simp [prT, g.may]⟩
  rw [g.eq]
  refine words_eq (fun x _ => ?_)
  by_cases hx : x < sz
  · exact k2 x hx
  · rw [k3 x (by omega), g.zero x (by omega)]
end Go.Proofs.YtbendkndnojihabDoor

namespace Go.Proofs.YtbendkndnojihabDoor
set_option linter.unusedVariables false

/-- The numbers below n, rising. -/
def elN (P : Nat → Bool) : Nat → List Nat
  | 0 => []
  | n + 1 => elN P n ++ (if P n then [n] else [])
theorem elN_len (P : Nat → Bool) : ∀ n, (elN P n).length = cntB P n
  | 0 => rfl
  | n + 1 => by simp only [elN, cntB, List.length_append]; rw [elN_len P n]; split <;> simp_all
theorem elN_skip {P : Nat → Bool} {a : Nat} : ∀ {b : Nat}, a ≤ b → (∀ x, a ≤ x → x < b → P x = false) → elN P b = elN P a
  | 0, h, _ => by rw [show a = 0 from by omega]
  | b + 1, h, hz => by
    by_cases e : a = b + 1
    · rw [e]
    · simp only [elN]
      rw [elN_skip (b := b) (by omega) (fun x h1 h2 => hz x h1 (by omega)), hz b (by omega) (by omega)]
      simp
theorem elN_succ {P : Nat → Bool} {t : Nat} (h : P t = true) : elN P (t + 1) = elN P t ++ [t] := by simp [elN, h]
theorem elN_mem {P : Nat → Bool} : ∀ {n x : Nat}, x ∈ elN P n ↔ x < n ∧ P x = true
  | 0, x => by simp [elN]
  | n + 1, x => by
    simp only [elN, List.mem_append]
    rw [elN_mem (n := n)]
    constructor
    · rintro (h | h)
      · exact ⟨by omega, h.2⟩
      · split at h
        · simp at h; subst h; rename_i hp; exact ⟨by omega, hp⟩
        · simp at h
    · rintro ⟨h1, h2⟩
      by_cases e : x = n
      · subst e; right; simp [h2]
      · left; exact ⟨by omega, h2⟩
/-- y is x's bits from p on. -/
def FromB (x p y : Nat) : Prop := y < 18446744073709551616 ∧ ∀ j, y.testBit j = (x.testBit j && decide (p ≤ j))
theorem FromB.start {x : Nat} (h : x < 18446744073709551616) : FromB x 0 x := ⟨h, fun j => by simp⟩
theorem FromB.low {x p y : Nat} (h : FromB x p y) (h0 : 0 < y) : p ≤ tz64 y ∧ tz64 y < 64 ∧ x.testBit (tz64 y) = true ∧ (∀ j, p ≤ j → j < tz64 y → x.testBit j = false) := by
  obtain ⟨k1, k2⟩ := tz64_tb h0 h.1
  have k3 := k1
  rw [h.2] at k3
  simp only [Bool.and_eq_true, decide_eq_true_eq] at k3
  refine ⟨k3.2, tz64_lt h0 h.1, k3.1, fun j h1 h2 => ?_⟩
  have := k2 j h2
  rw [h.2, decide_eq_true h1, Bool.and_true] at this
  exact this
theorem FromB.step {x p y : Nat} (h : FromB x p y) (h0 : 0 < y) : FromB x (tz64 y + 1) (y &&& (y - 1)) := by
  obtain ⟨a1, a2, a3, a4⟩ := h.low h0
  refine ⟨and_lt64 h.1, fun j => ?_⟩
  rw [tz64_drop h0 h.1, h.2]
  cases hj : x.testBit j
  · rfl
  · simp only [Bool.true_and]
    rw [Bool.eq_iff_iff]
    simp only [Bool.and_eq_true, decide_eq_true_eq, Bool.not_eq_true', beq_eq_false_iff_ne, ne_eq]
    constructor
    · rintro ⟨b1, b2⟩
      rcases Nat.lt_or_ge j (tz64 y) with c | c
      · rw [a4 j b1 c] at hj; cases hj
      · omega
    · intro b
      exact ⟨by omega, by omega⟩
theorem FromB.zero {x p : Nat} (h : FromB x p 0) (j : Nat) (hj : p ≤ j) : x.testBit j = false := by
  have := h.2 j
  rw [decide_eq_true hj, Bool.and_true] at this
  rw [← this]; simp
/-- Word k: its number handed out; its end. -/
theorem elN_word {f : Nat → Nat} {k p y : Nat} (h : FromB (f k) p y) (h0 : 0 < y) : elN (hasB f) (64 * k + tz64 y + 1) = elN (hasB f) (64 * k + p) ++ [64 * k + tz64 y] ∧ hasB f (64 * k + tz64 y) = true := by
  obtain ⟨a1, a2, a3, a4⟩ := h.low h0
  have hb : ∀ j, j < 64 → hasB f (64 * k + j) = (f k).testBit j := fun j hj => by
    unfold hasB
    rw [show (64 * k + j) / 64 = k from by omega, show (64 * k + j) % 64 = j from by omega]
  have hp : hasB f (64 * k + tz64 y) = true := by rw [hb _ a2]; exact a3
  refine ⟨?_, hp⟩
  rw [elN_succ hp, elN_skip (a := 64 * k + p) (b := 64 * k + tz64 y) (by omega) (fun x h1 h2 => ?_)]
  have := hb (x - 64 * k) (by omega)
  rw [show 64 * k + (x - 64 * k) = x from by omega] at this
  rw [this]
  exact a4 _ (by omega) (by omega)
theorem elN_end {f : Nat → Nat} {k p : Nat} (h : FromB (f k) p 0) (hp : p ≤ 64) : elN (hasB f) (64 * (k + 1)) = elN (hasB f) (64 * k + p) := by
  refine elN_skip (by omega) (fun x h1 h2 => ?_)
  unfold hasB
  rw [show x / 64 = k from by omega]
  exact h.zero _ (by omega)
end Go.Proofs.YtbendkndnojihabDoor
