/-
  bitset.joined, by andNot: its contract.
-/
import Derived.Test.YtbendkndnojihaaDoorBto
import Derived.Test.YtbendkndnojihaaDoorBtm
import Derived.Test.YtbendkndnojihaaDoorBp0
import Derived.Test.YtbendkndnojihaaDoorBt6
import Derived.Test.YtbendkndnojihaaDoorBti
namespace Go.Proofs.YtbendkndnojihaaDoor
open Go.RowKit Go.Deep
set_option linter.unusedVariables false

def op_andNot (x y : Bool) : Bool := x && !y

end Go.Proofs.YtbendkndnojihaaDoor

namespace Go.Proofs.YtbendkndnojihaaDoor
open Go.RowKit Go.Deep
set_option linter.unusedVariables false

def restR (s : Int) (x : List Nat) : Int × List Nat × Int := if MayS s x then (s, wordsL s.toNat (fun e => decide (e < s.toNat) && !hasB (gW x) e), 0) else (0, [], 61)
theorem rest_joined (s : Int) (a : Option Addr) (n c : Nat) (x : List Nat) : joinedR op_andNot true s [⟨s, a, n, c, x⟩] = restR s x := by
  unfold joinedR restR
  cases h : MayS s x
  · have : alikeE s [⟨s, a, n, c, x⟩] = 61 := by simp [alikeE, notMay, h]
    rw [this]; simp
  · have : alikeE s [⟨s, a, n, c, x⟩] = 0 := by simp [alikeE, notMay, offS, h, MayS.fits h]
    rw [this]
    simp only [if_true]
    congr 2

end Go.Proofs.YtbendkndnojihaaDoor

namespace Go.Proofs.YtbendkndnojihaaDoor
open Go.RowKit Go.Deep
set_option linter.unusedVariables false

end Go.Proofs.YtbendkndnojihaaDoor
