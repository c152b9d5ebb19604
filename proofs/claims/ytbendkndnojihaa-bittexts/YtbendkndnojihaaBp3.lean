/-
  bitset.Rest, sloperef3.Rest: contracts.
-/
import Derived.Test.YtbendkndnojihaaBp0
import Derived.Test.YtbendkndnojihaaBtr
import Derived.Test.YtbendkndnojihaaBt6
namespace Go.Proofs.Ytbendkndnojihaa
open Go.RowKit Go.Deep
set_option linter.unusedVariables false

def restR (s : Int) (x : List Nat) : Int × List Nat × Int := if MayS s x then (s, wordsL s.toNat (fun e => decide (e < s.toNat) && !hasB (gW x) e), 0) else (0, [], 61)
theorem rest_joined (s : Int) (a : Option Addr) (n c : Nat) (x : List Nat) : joinedR op_andNot true s [⟨s, a, n, c, x⟩] = restR s x := by
  unfold joinedR restR
  cases h : MayS s x
  · have : alikeE s [⟨s, a, n, c, x⟩] = 61 := by simp [alikeE, notMay, h]
    rw [this]; simp
  · have : alikeE s [⟨s, a, n, c, x⟩] = 0 := by simp [alikeE, notMay, offS, h, MayS.fits h]
    rw [this]
    simp only [if_true]
    congr 2

end Go.Proofs.Ytbendkndnojihaa
