/-
  COVERS, plain. No Go here.
-/
import Derived.Test.YtbendkndnojihabDoorBn1
import Derived.Test.YtbendkndnojihabDoorBti
import Derived.Test.YtbendkndnojihabDoorBtc
namespace Go.Proofs.YtbendkndnojihabDoor
set_option linter.unusedVariables false

theorem cntB_mono {P Q : Nat → Bool} : ∀ {n : Nat}, (∀ x, x < n → P x = true → Q x = true) → cntB P n ≤ cntB Q n
  | 0, _ => Nat.le_refl _
  | n + 1, h => by
    have ih := cntB_mono (P := P) (Q := Q) (n := n) (fun x hx => h x (by omega))
    have := h n (by omega)
    simp only [cntB]
    rcases Bool.eq_false_or_eq_true (P n) with hp | hp <;> rcases Bool.eq_false_or_eq_true (Q n) with hq | hq <;> simp [hp, hq] at this ⊢ <;> omega
theorem cnt_split (P S : Nat → Bool) : ∀ n, cntB (fun x => P x && !S x) n + cntB (fun x => P x && S x) n = cntB P n
  | 0 => rfl
  | n + 1 => by
    have ih := cnt_split P S n
    simp only [cntB]
    rcases Bool.eq_false_or_eq_true (P n) with hp | hp <;> rcases Bool.eq_false_or_eq_true (S n) with hq | hq <;> simp [hp, hq] <;> omega
theorem cntB_zero {P : Nat → Bool} : ∀ {n : Nat}, cntB P n = 0 → ∀ x, x < n → P x = false
  | 0, _, x, hx => by omega
  | n + 1, h, x, hx => by
    simp only [cntB] at h
    by_cases e : x = n
    · subst e
      rcases Bool.eq_false_or_eq_true (P x) with hp | hp
      · simp [hp] at h
      · exact hp
    · exact cntB_zero (n := n) (by omega) x (by omega)
/-- The first of the greatest; -1: all are 0. -/
def pkR (c : Nat → Nat) : Nat → Int × Nat
  | 0 => (-1, 0)
  | n + 1 => if (pkR c n).2 < c n then ((n : Int), c n) else pkR c n
theorem pkR_at (c : Nat → Nat) : ∀ n, ((pkR c n).1 = -1 ∧ (pkR c n).2 = 0) ∨ (∃ i : Nat, (pkR c n).1 = (i : Int) ∧ i < n ∧ (pkR c n).2 = c i ∧ 0 < c i)
  | 0 => .inl ⟨rfl, rfl⟩
  | n + 1 => by
    simp only [pkR]
    split
    · rename_i h
      exact .inr ⟨n, rfl, by omega, rfl, by omega⟩
    · rcases pkR_at c n with h | ⟨i, h1, h2, h3, h4⟩
      · exact .inl h
      · exact .inr ⟨i, h1, by omega, h3, h4⟩
theorem pkR_le (c : Nat → Nat) : ∀ n i, i < n → c i ≤ (pkR c n).2
  | 0, i, h => by omega
  | n + 1, i, h => by
    simp only [pkR]
    by_cases e : i = n
    · subst e
      split
      · exact Nat.le_refl _
      · omega
    · have := pkR_le c n i (by omega)
      split
      · rename_i hh
        show c i ≤ c n
        omega
      · exact this
theorem pkR_congr {c d : Nat → Nat} : ∀ {n : Nat}, (∀ i, i < n → c i = d i) → pkR c n = pkR d n
  | 0, _ => rfl
  | n + 1, h => by simp only [pkR]; rw [pkR_congr (fun i hi => h i (by omega)), h n (by omega)]
theorem pkR_skip {c : Nat → Nat} {n : Nat} (h : c n ≤ (pkR c n).2) : pkR c (n + 1) = pkR c n := by
  simp only [pkR]; rw [if_neg (by omega)]
theorem pkR_take {c : Nat → Nat} {n : Nat} (h : (pkR c n).2 < c n) : pkR c (n + 1) = ((n : Int), c n) := by
  simp only [pkR]; rw [if_pos h]
/-- What set i has of what is left. -/
def covC (sz : Nat) (S : Nat → Nat → Bool) (P : Nat → Bool) (i : Nat) : Nat := cntB (fun e => P e && S i e) sz
/-- The picks; none: nothing has what is left. -/
def covR (sz n : Nat) (S : Nat → Nat → Bool) : Nat → (Nat → Bool) → List Int → Option (List Int)
  | 0, _, acc => some acc
  | f + 1, P, acc => if cntB P sz = 0 then some acc else if (pkR (covC sz S P) n).1 < 0 then none else covR sz n S f (fun e => P e && !S (pkR (covC sz S P) n).1.toNat e) (acc ++ [(pkR (covC sz S P) n).1])
theorem covR_end {sz n : Nat} {S : Nat → Nat → Bool} {P : Nat → Bool} {acc : List Int} (h : cntB P sz = 0) : ∀ f, covR sz n S f P acc = some acc
  | 0 => rfl
  | f + 1 => by simp only [covR]; rw [if_pos h]
theorem covR_none {sz n : Nat} {S : Nat → Nat → Bool} {P : Nat → Bool} {acc : List Int} {f : Nat} (h : cntB P sz ≠ 0) (hf : cntB P sz ≤ f) (hp : (pkR (covC sz S P) n).1 < 0) : covR sz n S f P acc = none := by
  cases f with
  | zero => omega
  | succ f => simp only [covR]; rw [if_neg h, if_pos hp]
theorem covR_step {sz n : Nat} {S : Nat → Nat → Bool} {P : Nat → Bool} {acc : List Int} {f i : Nat} (h : cntB P sz ≠ 0) (hf : cntB P sz ≤ f) (hp : (pkR (covC sz S P) n).1 = (i : Int)) : covR sz n S f P acc = covR sz n S (f - 1) (fun e => P e && !S i e) (acc ++ [(i : Int)]) := by
  cases f with
  | zero => omega
  | succ f => simp only [covR]; rw [if_neg h, if_neg (by omega), hp]; rfl
theorem cov_less {sz : Nat} {S : Nat → Nat → Bool} {P : Nat → Bool} {i : Nat} (h : 0 < covC sz S P i) : cntB (fun e => P e && !S i e) sz < cntB P sz := by
  have := cnt_split P (S i) sz
  unfold covC at h
  omega
theorem cov_left {sz : Nat} {S : Nat → Nat → Bool} {P : Nat → Bool} {i : Nat} : cntB (fun e => P e && !S i e) sz = cntB P sz - covC sz S P i := by
  have := cnt_split P (S i) sz
  unfold covC
  omega
theorem cov_mono {sz : Nat} {S : Nat → Nat → Bool} {P : Nat → Bool} {i j : Nat} : covC sz S (fun e => P e && !S i e) j ≤ covC sz S P j :=
  cntB_mono (fun x _ h => by simp at h ⊢; exact ⟨h.1.1, h.2⟩)
end Go.Proofs.YtbendkndnojihabDoor

namespace Go.Proofs.YtbendkndnojihabDoor
open Go.RowKit Go.Deep
set_option linter.unusedVariables false

/-- What two words are joined to. -/
def jOr (x y : Nat) : Nat := x ||| y
def jAnd (x y : Nat) : Nat := x &&& y
def jAndNot (x y : Nat) : Nat := anot x y
def jXor (x y : Nat) : Nat := x ^^^ y
theorem jOr_lt {x y : Nat} (hx : x < 18446744073709551616) (hy : y < 18446744073709551616) : jOr x y < 18446744073709551616 := or_lt64 hx hy
theorem jAnd_lt {x y : Nat} (hx : x < 18446744073709551616) (hy : y < 18446744073709551616) : jAnd x y < 18446744073709551616 := and_lt64 hx
theorem jAndNot_lt {x y : Nat} (hx : x < 18446744073709551616) (hy : y < 18446744073709551616) : jAndNot x y < 18446744073709551616 := anot_lt hx
theorem jXor_lt {x y : Nat} (hx : x < 18446744073709551616) (hy : y < 18446744073709551616) : jXor x y < 18446744073709551616 := xor_lt64 hx hy

set_option maxHeartbeats 400000 in
theorem or_fn (x y : Nat) (w : World) (hx : x < 18446744073709551616) (hy : y < 18446744073709551616) :
    Calls Tryd.prog 46 #[.int .u64 (x : Nat), .int .u64 (y : Nat)] w fun e w' => e = .returned (.int .u64 (jOr x y : Nat)) ∧ w' = w := by
  have H := hide (u64_or_nat x y hx hy)
  go_enter Tryd.func46, Tryd.ntmps46
  go_wp2
  go_ret
  refine ⟨?_, rfl⟩
  show Ending.returned (Value.int IntKind.u64 (bits .or .u64 (x : Int) (y : Int))) = _
  rw [unhide H]; rfl

set_option maxHeartbeats 400000 in
theorem andNot_fn (x y : Nat) (w : World) (hx : x < 18446744073709551616) (hy : y < 18446744073709551616) :
    Calls Tryd.prog 48 #[.int .u64 (x : Nat), .int .u64 (y : Nat)] w fun e w' => e = .returned (.int .u64 (jAndNot x y : Nat)) ∧ w' = w := by
  have H := hide (u64_andNot_nat x y hx hy)
  go_enter Tryd.func48, Tryd.ntmps48
  go_wp2
  go_ret
  refine ⟨?_, rfl⟩
  show Ending.returned (Value.int IntKind.u64 (bits .andNot .u64 (x : Int) (y : Int))) = _
  rw [unhide H]; rfl

/-- Joined up to k. -/
def jnF (F : Nat → Nat → Nat) (f : Nat → Nat) (xs : List Nat) (k i : Nat) : Nat := if i < k then F (f i) (xs.getD i 0) else f i
theorem jnF_zero (F : Nat → Nat → Nat) (f : Nat → Nat) (xs : List Nat) : jnF F f xs 0 = f := by funext i; simp [jnF]
theorem jnF_step {F : Nat → Nat → Nat} {f : Nat → Nat} {xs : List Nat} {w : World} {b N k : Nat} (h : FnW w b 0 N (jnF F f xs k)) (hk : k < N) :
    FnW (w.setCell ⟨b, k, none⟩ (.int .u64 ((F (f k) (xs.getD k 0) : Nat) : Int))) b 0 N (jnF F f xs (k + 1)) := by
  have := h.set k (F (f k) (xs.getD k 0)) hk
  rw [Nat.zero_add] at this
  refine this.congr (fun i hi => ?_)
  unfold jnF
  by_cases e : i = k
  · subst e; simp
  · by_cases e2 : i < k
    · simp [e, e2, show i < k + 1 from by omega]
    · simp [e, e2, show ¬ i < k + 1 from by omega]
/-- In the loop. -/
structure JnLp (w wr : World) (b N : Nat) (g : Nat → Nat) : Prop where
  row : FnW wr b 0 N g
  chg : Chg (fun j => j = b) w wr
end Go.Proofs.YtbendkndnojihabDoor
