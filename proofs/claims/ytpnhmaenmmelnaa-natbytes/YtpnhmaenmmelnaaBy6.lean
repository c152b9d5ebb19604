/-
  slopelaw1.sameBytes: contract.
-/
import Derived.Test.YtpnhmaenmmelnaaBy5
import Derived.Laws.BytesArg
namespace Go.Proofs.Ytpnhmaenmmelnaa
open Go.RowKit Go.Deep
set_option linter.unusedVariables false

/-- The string of bytes. -/
def strB (bs : List Nat) : ByteArray := strOfNums (bs.map (fun x : Nat => (x : Int)))

theorem SlB.conv {w : World} {a : Option Addr} {n c : Nat} {bs : List Nat} (h : SlB w a n c bs) :
    (convert 53 9 (.slice a n c)).run Try.prog w = .ok (.string (strB bs)) w := by
  have hl := h.len
  cases a with
  | none =>
    rcases h.cells with e | ⟨b, off, e, _⟩
    · subst e
      exact run_convert_bytes_nil w 53 5 Try.underlying53 Try.underlying5 n c 9 Try.underlying9
    · cases e
  | some x =>
    rcases h.cells with e | ⟨b, off, e, hc⟩
    · subst e
      simp at hl
      subst hl
      rw [run_convert_bytes_string w 53 9 5 _ 0 c Try.underlying53 Try.underlying5 Try.underlying9, run_bytesToString w x 0 c [] (by simpa using run_loadCells_list (P := Try.prog) w x [] (by simp))]
      rfl
    · cases e
      refine run_convert_bytes_arg w 53 5 Try.underlying53 Try.underlying5 b off n c (bs.map (fun x : Nat => (x : Int))) (by simpa using hl) (fun i hi => ?_) 9 Try.underlying9
      rw [hc i (by omega)]
      congr 2
      simp only [List.getD_eq_getElem?_getD, List.getElem?_map]
      cases bs[i]? <;> rfl

set_option maxHeartbeats 4000000 in
/-- slopelaw1.sameBytes, of two lists that are the same. -/
theorem sameB_any (a1 a2 : Option Addr) (n c1 c2 : Nat) (bs : List Nat) (w : World) (h1 : SlB w a1 n c1 bs) (h2 : SlB w a2 n c2 bs) :
    Calls Try.prog 26 #[.slice a1 n c1, .slice a2 n c2] w fun e w' => e = .returned (.bool true) ∧ ∃ k, w' = w.drewN k := by
  have k1 := h1.conv
  have k2 := h2.conv
  generalize strB bs = s at k1 k2
  clear h1 h2
  go_enter Try.func26, Try.ntmps26
  go_wp2_with fail
  go_ret
  exact ⟨rfl, 0, rfl⟩
end Go.Proofs.Ytpnhmaenmmelnaa
