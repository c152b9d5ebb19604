/-
  slopelaw1.sameBytes: contract.
-/
import Derived.Test.YtlecjjcpidjmhaaBy5
import Derived.Laws.BytesArg
namespace Go.Proofs.Ytlecjjcpidjmhaa
open Go.RowKit Go.Deep
set_option linter.unusedVariables false

/-- The string of bytes. -/
def strB (bs : List Nat) : ByteArray := strOfNums (bs.map (fun x : Nat => (x : Int)))

theorem SlB.conv {w : World} {a : Option Addr} {n c : Nat} {bs : List Nat} (h : SlB w a n c bs) :
    (convert 53 9 (.slice a n c)).run Try.prog w = .ok (.string (strB bs)) w := by
  have hl := h.len
  cases a with
  | none =>
    rcases h.cells with e | ⟨b, off, e, _⟩
    · subst e
      exact run_convert_bytes_nil w 53 5 Try.underlying53 Try.underlying5 n c 9 Try.underlying9
    · cases e
  | some x =>
    rcases h.cells with e | ⟨b, off, e, hc⟩
    · subst e
      simp at hl
      subst hl
      rw [run_convert_bytes_string w 53 9 5 _ 0 c Try.underlying53 Try.underlying5 Try.underlying9, run_bytesToString w x 0 c [] (by simpa using run_loadCells_list (P := Try.prog) w x [] (by simp))]
      rfl
    · cases e
      refine run_convert_bytes_arg w 53 5 Try.underlying53 Try.underlying5 b off n c (bs.map (fun x : Nat => (x : Int))) (by simpa using hl) (fun i hi => ?_) 9 Try.underlying9
      rw [hc i (by omega)]
      congr 2
      simp only [List.getD_eq_getElem?_getD, List.getElem?_map]
      cases bs[i]? <;> rfl

end Go.Proofs.Ytlecjjcpidjmhaa
