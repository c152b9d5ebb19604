/-
  WHAT BitLattice ASKS, plain.
-/
import Derived.Test.YtbendkndnojihabBv1
namespace Go.Proofs.Ytbendkndnojihab
set_option linter.unusedVariables false

def opX' (x y : Bool) : Bool := x != y
def opN' (x y : Bool) : Bool := x && !y
def opA' (x y : Bool) : Bool := x && y
theorem lat_make {sz : Nat} {l : List Int} (hsz : sz ≤ 4096) (hb : l.any (badE sz) = false) : ∃ X P, mkR (sz : Int) l = ((sz : Int), X, 0) ∧ Good sz X P := by
  have hf : fitsI (sz : Int) = true := by simp [fitsI]; omega
  have g := make_good hf hb
  rw [Int.toNat_natCast] at g
  exact ⟨_, _, by simp [mkR, hf, hb], g⟩
theorem Good.new {sz : Nat} (P : Nat → Bool) (hz : ∀ x, sz ≤ x → P x = false) (hl : sz ≤ 4096) : ∃ X, Good sz X P := ⟨_, Good.mk' hz hl⟩
theorem id_both (d p q : Bool) : ((d && !p) && (d && !q)) = (d && !(p || q)) := by cases d <;> cases p <;> cases q <;> rfl
theorem id_mb (d p q : Bool) (h : d = false → p = false) : (p && (d && !q)) = mOp false p q := by
  cases d
  · rw [h rfl]; cases q <;> rfl
  · cases p <;> cases q <;> rfl
theorem id_du (p q : Bool) : mOp false (p || q) (p && q) = mOp true p q := by cases p <;> cases q <;> rfl
theorem id_sum (p q r : Bool) : ((p && q) || (p && r)) = (p && (q || r)) := by cases p <;> cases q <;> cases r <;> rfl
theorem id_dis (d p : Bool) : opA' p (d && !p) = false := by cases d <;> cases p <;> rfl
theorem id_dis2 (p q : Bool) : opA' (mOp false p q) q = false := by cases p <;> cases q <;> rfl
theorem id_sub1 (p q : Bool) : opN' (p && q) p = false := by cases p <;> cases q <;> rfl
theorem id_sub2 (p q : Bool) : opN' p (p || q) = false := by cases p <;> cases q <;> rfl
theorem id_eq (p : Bool) : opX' p p = false := by cases p <;> rfl
end Go.Proofs.Ytbendkndnojihab
