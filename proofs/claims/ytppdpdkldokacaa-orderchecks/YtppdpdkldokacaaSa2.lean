/-
  PATTERNS: slices.IsSorted: contract.
-/
import Derived.Test.YtppdpdkldokacaaSa1
namespace Go.Proofs.Ytppdpdkldokacaa
open Go.RowKit Go.Deep
set_option linter.unusedVariables false

theorem wrapJ (x : Int) (h0 : -9223372036854775808 ≤ x) (h1 : x < 9223372036854775808) : IntKind.i64.wrap x = x := by
  have e : IntKind.i64.wrap x = (x + 9223372036854775808) % 18446744073709551616 - 9223372036854775808 := by
    simp [IntKind.wrap, IntKind.bits, IntKind.signed]
    split <;> omega
  rw [e]
  omega
theorem nan_int (x : Int) (w : World) : Calls Try.prog 71 #[.int .i64 x] w fun e w' => e = .returned (.bool false) ∧ w' = w := by
  go_enter Try.func71, Try.ntmps71
  go_wp2_with fail
  go_ret
  exact ⟨by simp, rfl⟩
theorem less_int (x y : Int) (w : World) : Calls Try.prog 79 #[.int .i64 x, .int .i64 y] w fun e w' => e = .returned (.bool (decide (x < y))) ∧ w' = w := by
  have H1 := hide (nan_int x w)
  go_enter Try.func79, Try.ntmps79
  go_wp2_with fail
  refine (unhide H1).mono ?_
  rintro _ _ ⟨rfl, hw⟩
  obtain rfl := hw.symm
  clear hw
  go_wp2_with fail
  go_ret
  exact ⟨rfl, rfl⟩
set_option maxRecDepth 20000 in
set_option maxHeartbeats 8000000 in
/-- slices.IsSorted of whole numbers. -/
theorem isSorted_any (a : Option Addr) (n c : Nat) (xs : List Int) (w : World) (h : SlI w a n c xs) (hn : n ≤ 140737488355328) (ok : Bool) (hok : ok = true ↔ SortP xs 0) : Calls Try.prog 77 #[.slice a n c] w fun e w' => QI ok w w' e := by
  have HL := hide h.len
  have HS := hide h
  have HOK := hide hok
  have KL := hide (fun (x y : Int) (W : World) => less_int x y W)
  clear h hok
  go_enter Try.func77, Try.ntmps77
  go_wp2_with fail
  go_loopw [3] (fun iv wr => ∃ q : Nat, q ≤ n ∧ iv = .int .i64 ((q : Int) - 1) ∧ Hid (SortP xs (q - 1)) ∧ Hid (Dr w wr)) (fun iv _ => ((intOf iv) + 1).toNat)
  case atStart => exact ⟨n, Nat.le_refl _, rfl, hide (fun i h1 h2 => by have := unhide HL; omega), Dr.refl _⟩
  case round =>
    obtain ⟨q, hq, rfl, HK, HW⟩ := hrel
    by_cases h2 : 2 ≤ q
    · obtain ⟨j, hj⟩ : ∃ j, q = j + 2 := ⟨q - 2, by omega⟩
      subst hj
      have ej : ((j + 2 : Nat) : Int) - 1 = (j : Int) + 1 := by omega
      rw [ej]
      have HEJ := hide ej
      obtain ⟨b, off, rfl, hc⟩ := ((unhide HS).below (unhide HW).below).at (by omega)
      have hx := hc (j + 1) (by omega)
      have hy := hc j (by omega)
      obtain ⟨x, hxx⟩ : ∃ x, xs.getD (j + 1) 0 = x := ⟨_, rfl⟩
      obtain ⟨y, hyy⟩ : ∃ y, xs.getD j 0 = y := ⟨_, rfl⟩
      rw [hxx] at hx
      rw [hyy] at hy
      have HX := hide (And.intro hxx hyy)
      have hlt2 : (j:Int) + 1 < (n:Int) := by omega
      have h0 : (0:Int) < (j:Int) + 1 := by omega
      have hjj : IntKind.i64.wrap ((j:Int) + 1 - 1) = (j:Int) := by rw [wrapJ _ (by omega) (by omega)]; omega
      have hlt3 : (j:Int) < (n:Int) := by omega
      have hj0 : (0:Int) ≤ (j:Int) := by omega
      clear hc hxx hyy ej h2
      by_cases hl : x < y
      · have KX := hide (fun (W : World) => (show Calls Try.prog 79 #[.int .i64 x, .int .i64 y] W fun e w' => e = .returned (.bool true) ∧ w' = W from by have := less_int x y W; rwa [decide_eq_true hl] at this))
        have HLL := hide hl
        clear hl
        go_wp2_with fail
        go_quiet ((go_at_call 79; exact Calls.quiet_of_same (unhide KX _)))
        all_goals go_wp2_with fail
        all_goals go_ret
        all_goals exact QI.no (unhide HOK) (fun z => by have h8 := z j (Nat.zero_le _) (by have := unhide HL; omega); have h9 := unhide HX; rw [h9.1, h9.2] at h8; have := unhide HLL; omega) ((unhide HW).n _)
      · have KX := hide (fun (W : World) => (show Calls Try.prog 79 #[.int .i64 x, .int .i64 y] W fun e w' => e = .returned (.bool false) ∧ w' = W from by have := less_int x y W; rwa [decide_eq_false hl] at this))
        have HLL := hide hl
        clear hl
        go_wp2_with fail
        go_quiet ((go_at_call 79; exact Calls.quiet_of_same (unhide KX _)))
        all_goals go_wp2_with fail
        all_goals refine ⟨⟨j + 1, by omega, by (first | rfl | go_num | (congr 1; omega)), hide fun i hi hi2 => ?_, hide ((unhide HW).n _)⟩, by simp [intOf]; omega⟩
        all_goals by_cases e : i = j
        · subst e
          have h9 := unhide HX
          rw [h9.1, h9.2]
          have := unhide HLL
          omega
        · exact unhide HK i (by omega) hi2
    · have h0 : ¬ (0:Int) < (q:Int) - 1 := by omega
      go_wp2_with fail
      go_ret
      exact QI.yes (unhide HOK) (fun i _ hi => unhide HK i (by omega) hi) (unhide HW)
end Go.Proofs.Ytppdpdkldokacaa
