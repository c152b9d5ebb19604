/-
  sloperef1.FromBytes: contract.
-/
import Derived.Test.YtlecjjcpidjmhaaBy4
namespace Go.Proofs.Ytlecjjcpidjmhaa
open Go.RowKit Go.Deep
set_option linter.unusedVariables false

theorem fit_lt {v M : Nat} (h : v < 4294967296 ^ M) (hM : M ≤ 2048) : fitL v = (limbs v, 0) := by
  apply fitL_ok
  intro hb
  have hr := limbs_rep v
  have h2 := val_ge_of_norm hr.norm (by intro e; rw [e] at hb; simp at hb)
  have h4 : 4294967296 ^ M ≤ 4294967296 ^ ((limbs v).length - 1) := pow_mono (by omega)
  rw [hr.val] at h2
  omega

end Go.Proofs.Ytlecjjcpidjmhaa
