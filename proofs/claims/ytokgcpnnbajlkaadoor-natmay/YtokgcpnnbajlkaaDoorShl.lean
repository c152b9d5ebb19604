/-
  natural.shiftLeft, Shl; sloperef1.Shl: contracts.
-/
import Derived.Test.YtokgcpnnbajlkaaDoorShN
import Derived.Test.YtokgcpnnbajlkaaDoorRAdd
namespace Go.Proofs.YtokgcpnnbajlkaaDoor
open Go.RowKit Go.Deep
set_option linter.unusedVariables false

theorem make_nl (n l : Nat) (h : n + l + 1 ≤ 70368744177600) (w : World) : (Instr.makeSlice 22 (.int .i64 ((n : Int) + (l : Int) + 1)) (.int .i64 ((n : Int) + (l : Int) + 1))).run Tryd.prog w = .ok (.slice (some ⟨w.heap.size, 0, none⟩) (n + l + 1) (n + l + 1)) (w.alloc (.cells (madeCells #[.int .u32 0] (n + l + 1)) 47)) := by
  have := make_len (n + l + 1) h w
  rw [show ((n + l + 1 : Nat) : Int) = (n : Int) + (l : Int) + 1 from by omega] at this
  exact this

def chk (xs : List Nat) (k : Int) : Int := if MayL xs then (if 0 ≤ k ∧ k ≤ 65536 then 0 else 1) else 20

def shlL (xs : List Nat) (k : Int) : List Nat × Int := if MayL xs then (if 0 ≤ k ∧ k ≤ 65536 then fitL (val xs * 2 ^ k.toNat) else ([], 1)) else ([], 20)
def shrL (xs : List Nat) (k : Int) : List Nat × Int := if MayL xs then (if 0 ≤ k ∧ k ≤ 65536 then (limbs (val xs / 2 ^ k.toNat), 0) else ([], 1)) else ([], 20)

theorem shlL_bad {xs : List Nat} {k : Int} (h : chk xs k ≠ 0) : shlL xs k = ([], chk xs k) := by
  unfold shlL chk at *
  cases hm : MayL xs <;> simp [hm] at h ⊢
  by_cases hk : 0 ≤ k ∧ k ≤ 65536
  · have := h hk.1
    omega
  · simp [hk]
theorem shrL_bad {xs : List Nat} {k : Int} (h : chk xs k ≠ 0) : shrL xs k = ([], chk xs k) := by
  unfold shrL chk at *
  cases hm : MayL xs <;> simp [hm] at h ⊢
  by_cases hk : 0 ≤ k ∧ k ≤ 65536
  · have := h hk.1
    omega
  · simp [hk]
theorem chk_ok {xs : List Nat} {k : Int} (h : chk xs k = 0) : MayL xs = true ∧ 0 ≤ k ∧ k ≤ 65536 := by
  unfold chk at h
  cases hm : MayL xs
  · simp [hm] at h
  · by_cases hk : 0 ≤ k ∧ k ≤ 65536
    · exact ⟨rfl, hk⟩
    · simp [hm, hk] at h

end Go.Proofs.YtokgcpnnbajlkaaDoor
