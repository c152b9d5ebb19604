/-
  bitset.or, and, andNot, xor: contracts.
-/
import Derived.Test.YtbendkndnojihabDoorBtb
import Derived.Test.YtbendkndnojihabDoorBtc
namespace Go.Proofs.YtbendkndnojihabDoor
open Go.RowKit Go.Deep
set_option linter.unusedVariables false

/-- What two words are joined to. -/
def jOr (x y : Nat) : Nat := x ||| y
def jAnd (x y : Nat) : Nat := x &&& y
def jAndNot (x y : Nat) : Nat := anot x y
def jXor (x y : Nat) : Nat := x ^^^ y
theorem jOr_lt {x y : Nat} (hx : x < 18446744073709551616) (hy : y < 18446744073709551616) : jOr x y < 18446744073709551616 := or_lt64 hx hy
theorem jAnd_lt {x y : Nat} (hx : x < 18446744073709551616) (hy : y < 18446744073709551616) : jAnd x y < 18446744073709551616 := and_lt64 hx
theorem jAndNot_lt {x y : Nat} (hx : x < 18446744073709551616) (hy : y < 18446744073709551616) : jAndNot x y < 18446744073709551616 := anot_lt hx
theorem jXor_lt {x y : Nat} (hx : x < 18446744073709551616) (hy : y < 18446744073709551616) : jXor x y < 18446744073709551616 := xor_lt64 hx hy

set_option maxHeartbeats 400000 in
theorem or_fn (x y : Nat) (w : World) (hx : x < 18446744073709551616) (hy : y < 18446744073709551616) :
    Calls Tryd.prog 46 #[.int .u64 (x : Nat), .int .u64 (y : Nat)] w fun e w' => e = .returned (.int .u64 (jOr x y : Nat)) ∧ w' = w := by
  have H := hide (u64_or_nat x y hx hy)
  go_enter Tryd.func46, Tryd.ntmps46
  go_wp2
  go_ret
  refine ⟨?_, rfl⟩
  show Ending.returned (Value.int IntKind.u64 (bits .or .u64 (x : Int) (y : Int))) = _
  rw [unhide H]; rfl

set_option maxHeartbeats 400000 in
theorem andNot_fn (x y : Nat) (w : World) (hx : x < 18446744073709551616) (hy : y < 18446744073709551616) :
    Calls Tryd.prog 48 #[.int .u64 (x : Nat), .int .u64 (y : Nat)] w fun e w' => e = .returned (.int .u64 (jAndNot x y : Nat)) ∧ w' = w := by
  have H := hide (u64_andNot_nat x y hx hy)
  go_enter Tryd.func48, Tryd.ntmps48
  go_wp2
  go_ret
  refine ⟨?_, rfl⟩
  show Ending.returned (Value.int IntKind.u64 (bits .andNot .u64 (x : Int) (y : Int))) = _
  rw [unhide H]; rfl

/-- Joined up to k. -/
def jnF (F : Nat → Nat → Nat) (f : Nat → Nat) (xs : List Nat) (k i : Nat) : Nat := if i < k then F (f i) (xs.getD i 0) else f i
theorem jnF_zero (F : Nat → Nat → Nat) (f : Nat → Nat) (xs : List Nat) : jnF F f xs 0 = f := by funext i; simp [jnF]
theorem jnF_step {F : Nat → Nat → Nat} {f : Nat → Nat} {xs : List Nat} {w : World} {b N k : Nat} (h : FnW w b 0 N (jnF F f xs k)) (hk : k < N) :
    FnW (w.setCell ⟨b, k, none⟩ (.int .u64 ((F (f k) (xs.getD k 0) : Nat) : Int))) b 0 N (jnF F f xs (k + 1)) := by
  have := h.set k (F (f k) (xs.getD k 0)) hk
  rw [Nat.zero_add] at this
  refine this.congr (fun i hi => ?_)
  unfold jnF
  by_cases e : i = k
  · subst e; simp
  · by_cases e2 : i < k
    · simp [e, e2, show i < k + 1 from by omega]
    · simp [e, e2, show ¬ i < k + 1 from by omega]
/-- In the loop. -/
structure JnLp (w wr : World) (b N : Nat) (g : Nat → Nat) : Prop where
  row : FnW wr b 0 N g
  chg : Chg (fun j => j = b) w wr
end Go.Proofs.YtbendkndnojihabDoor

namespace Go.Proofs.YtbendkndnojihabDoor
open Go.RowKit Go.Deep
set_option linter.unusedVariables false

set_option maxHeartbeats 4000000 in
/-- bitset.unite: the words lie apart. -/
theorem unite_any (b N cb : Nat) (f : Nat → Nat) (a : Option Addr) (c : Nat) (xs : List Nat) (w : World) (hf : FnW w b 0 N f) (hlt : ∀ i, i < N → f i < 18446744073709551616)
    (h : SlW w a N c xs) (hok : OkW xs) (hN : N ≤ 64) (hne : 0 < N → ∀ x, a = some x → x.block ≠ b) (hcb : cb ≤ maxLen) (hNc : N ≤ cb) :
    Calls Tryd.prog 41 #[.slice (some ⟨b, 0, none⟩) N cb, .slice a N c] w fun r w' => r = .returned (.tuple #[]) ∧ FnW w' b 0 N (jnF jOr f xs N) ∧ Chg (fun j => j = b) w w' := by
  have hle := h.le
  have hcap := h.cap
  unfold maxLen at hcap hcb
  have HA := hide h
  have HF := hide (show JnLp w w b N (jnF jOr f xs 0) from ⟨by rw [jnF_zero]; exact hf, Chg.refl _ _⟩)
  have HLt := hide hlt
  have HOk := hide hok
  have HNe := hide hne
  have HLn := hide h.len
  clear hf hlt h hok hne
  go_enter Tryd.func41, Tryd.ntmps41
  go_wp2_with fail
  go_loopw [12, 4, 5] (fun i _ _ wr => ∃ k : Nat, k ≤ N ∧ i = .int .i64 k ∧ JnLp w wr b N (jnF jOr f xs k)) (fun i _ _ _ => N - (intOf i).toNat)
  case atStart => exact ⟨0, Nat.zero_le _, rfl, unhide HF⟩
  case round =>
    obtain ⟨k, hk, rfl, hst⟩ := hrel
    by_cases hlt : k < N
    · have hlt' : (k : Int) < (N : Int) := by omega
      have hS2 := (unhide HA).chg hst.chg (fun x hx _ => unhide HNe (by omega) x hx)
      obtain ⟨b2, o2, rfl, hc2⟩ := hS2.at (by omega)
      have g1 := hc2 k hlt
      have g2 := (hst.row k (by omega)).1
      have g3 := (hst.row k (by omega)).2
      rw [Nat.zero_add] at g2 g3
      have HS := hide (show JnLp w (wr.setCell ⟨b, k, none⟩ (.int .u64 ((jOr (f k) (xs.getD k 0) : Nat) : Int))) b N (jnF jOr f xs (k + 1)) from ⟨jnF_step hst.row (by omega), hst.chg.trans (Chg.of_set (S := fun j => j = b) _ _ _ _ rfl)⟩)
      have hfk : jnF jOr f xs k k = f k := by simp [jnF]
      rw [hfk] at g2
      have hx := unhide HLt k (by omega)
      have hy : xs.getD k 0 < 18446744073709551616 := by
        have hkl : k < xs.length := by rw [unhide HLn]; exact hlt
        have : xs.getD k 0 = xs[k] := by simp [List.getD, hkl]
        rw [this]; exact unhide HOk _ (List.getElem_mem hkl)
      have ho := u64_or_nat (f k) (xs.getD k 0) hx hy
      unfold vU at g1 g2
      unfold jOr at HS
      generalize f k = x at *
      generalize xs.getD k 0 = y at *
      generalize (x ||| y) = z at *
      clear hc2 hst hS2 hfk hx hy
      go_wp2_with fail
      exact ⟨⟨k + 1, by omega, by go_num, unhide HS⟩, by simp [intOf]; omega⟩
    · have hlt' : ¬ (k : Int) < (N : Int) := by omega
      have hkn : k = N := by omega
      subst hkn
      go_wp2_with fail
      refine bodyPost_end (results_none rfl _ _ _) rfl ?_
      exact ⟨rfl, hst.row, hst.chg⟩
set_option maxHeartbeats 4000000 in
/-- bitset.unite, of the very same words. -/
theorem unite_self (b N cb : Nat) (f : Nat → Nat) (w : World) (hf : FnW w b 0 N f) (hlt : ∀ i, i < N → f i < 18446744073709551616)
    (hN : N ≤ 64) (hcb : cb ≤ maxLen) (hNc : N ≤ cb) :
    Calls Tryd.prog 41 #[.slice (some ⟨b, 0, none⟩) N cb, .slice (some ⟨b, 0, none⟩) N cb] w fun r w' => r = .returned (.tuple #[]) ∧ FnW w' b 0 N f ∧ Chg (fun j => j = b) w w' := by
  unfold maxLen at hcb
  have HF := hide (show JnLp w w b N f from ⟨hf, Chg.refl _ _⟩)
  have HLt := hide hlt
  clear hf hlt
  go_enter Tryd.func41, Tryd.ntmps41
  go_wp2_with fail
  go_loopw [12, 4, 5] (fun i _ _ wr => ∃ k : Nat, k ≤ N ∧ i = .int .i64 k ∧ JnLp w wr b N f) (fun i _ _ _ => N - (intOf i).toNat)
  case atStart => exact ⟨0, Nat.zero_le _, rfl, unhide HF⟩
  case round =>
    obtain ⟨k, hk, rfl, hst⟩ := hrel
    by_cases hlt : k < N
    · have hlt' : (k : Int) < (N : Int) := by omega
      have g2 := (hst.row k (by omega)).1
      have g3 := (hst.row k (by omega)).2
      have HS := hide (show JnLp w (wr.setCell ⟨b, 0 + k, none⟩ (vU (f k))) b N f from ⟨(hst.row.set k (f k) hlt).congr (fun i _ => by split <;> simp_all), hst.chg.trans (Chg.of_set (S := fun j => j = b) _ _ _ _ rfl)⟩)
      have hx := unhide HLt k (by omega)
      have ho := u64_or_nat (f k) (f k) hx hx
      rw [Nat.or_self] at ho
      rw [Nat.zero_add] at g2 g3 HS
      unfold vU at g2 HS
      generalize f k = x at *
      clear hst hx
      go_wp2_with fail
      exact ⟨⟨k + 1, by omega, by go_num, unhide HS⟩, by simp [intOf]; omega⟩
    · have hlt' : ¬ (k : Int) < (N : Int) := by omega
      have hkn : k = N := by omega
      subst hkn
      go_wp2_with fail
      refine bodyPost_end (results_none rfl _ _ _) rfl ?_
      exact ⟨rfl, hst.row, hst.chg⟩
end Go.Proofs.YtbendkndnojihabDoor
