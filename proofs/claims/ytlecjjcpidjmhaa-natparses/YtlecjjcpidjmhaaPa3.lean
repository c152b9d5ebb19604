/-
  natural.allDigits: contract.
-/
import Derived.Test.YtlecjjcpidjmhaaPa2
namespace Go.Proofs.Ytlecjjcpidjmhaa
open Go.RowKit Go.Deep
set_option linter.unusedVariables false

/-- The digit at a place. -/
def dig (s : ByteArray) (i : Nat) : Nat := digitN (s.get! i).toNat

theorem dig_of {s : ByteArray} {i : Nat} (h : i < s.size) : digitN (s[i]'h).toNat = dig s i := by
  unfold dig
  have e : s.get! i = s[i]'h := by
    cases s with
    | mk d =>
      have h' : i < d.size := h
      show d[i]! = d[i]
      simp [h']
  rw [e]
theorem dig_le (s : ByteArray) (i : Nat) : dig s i ≤ 36 := digitN_le _

/-- The place of the first byte that is no digit. -/
structure AtDigit (s : ByteArray) (b i : Nat) : Prop where
  le : i ≤ s.size
  all : ∀ j, j < i → dig s j < b
  stop : i = s.size ∨ b ≤ dig s i

def AdPost (s : ByteArray) (b : Nat) (w : World) (e : Ending) (w' : World) : Prop :=
  ∃ i, AtDigit s b i ∧ w' = w ∧ ((i < s.size ∧ e = .returned (.tuple #[.int .i64 (i : Nat), .bool false])) ∨ (i = s.size ∧ e = .returned (.tuple #[.int .i64 0, .bool (decide (0 < s.size))])))

set_option maxHeartbeats 4000000 in
theorem allDigits_any (s : ByteArray) (b : Nat) (hs : s.size ≤ 1000000000000) (hb2 : b ≤ 36) (w : World) :
    Calls Try.prog 28 #[.string s, .int .i64 (b : Nat)] w fun e w' => AdPost s b w e w' := by
  have HS := hs
  go_enter Try.func28, Try.ntmps28
  go_wp2_with fail
  generalize hn : s.size = n at *
  go_loop [9] (fun iv => ∃ i : Nat, i ≤ n ∧ iv = .int .i64 (i : Nat) ∧ Hid (∀ j, j < i → dig s j < b)) (fun iv => n - (intOf iv).toNat)
  case atStart => exact ⟨0, Nat.zero_le _, rfl, fun j hj => by omega⟩
  case round =>
    obtain ⟨i, hi, rfl, HA⟩ := hrel
    by_cases hlt : i < n
    · have hlt' : (i:Int) < (n:Int) := by omega
      go_wp2_with fail
      refine (ndigit_any _ (by have := (s[i]'(by omega)).toNat_lt; omega) _).mono ?_
      rintro e w' ⟨rfl, hw⟩
      obtain rfl := hw.symm
      clear hw
      rw [dig_of (by omega)]
      by_cases hd : dig s i < b
      · have HA2 := hide (show ∀ j, j < i + 1 → dig s j < b from fun j hj => by
          by_cases e : j = i
          · rw [e]; exact hd
          · exact unhide HA j (by omega))
        have hd' : ¬ (b:Int) ≤ (dig s i : Int) := by omega
        generalize dig s i = D at hd hd' ⊢
        clear HA
        go_wp2_with fail
        exact ⟨⟨i + 1, by omega, by go_num, unhide HA2⟩, by simp [intOf]; omega⟩
      · have hd' : (b:Int) ≤ (dig s i : Int) := by omega
        have HD := hide hd
        generalize hg : dig s i = D at hd hd' ⊢
        clear hg
        go_wp2_with fail
        go_ret2
        exact ⟨i, ⟨by omega, unhide HA, .inr (by have := unhide HD; omega)⟩, rfl, .inl ⟨by omega, rfl⟩⟩
    · have hin : i = n := by omega
      subst hin
      have hlt' : ¬ (i:Int) < (i:Int) := by omega
      by_cases h0 : 0 < i
      · have h0' : (0:Int) < (i:Int) := by omega
        go_wp2_with fail
        go_ret2
        exact ⟨i, ⟨by omega, unhide HA, .inl hn.symm⟩, rfl, .inr ⟨hn.symm, by rw [hn]; simp [h0]⟩⟩
      · have h0' : i = 0 := by omega
        subst h0'
        go_wp2_with fail
        go_ret2
        exact ⟨0, ⟨by omega, unhide HA, .inl hn.symm⟩, rfl, .inr ⟨hn.symm, by rw [hn]; simp⟩⟩
end Go.Proofs.Ytlecjjcpidjmhaa
