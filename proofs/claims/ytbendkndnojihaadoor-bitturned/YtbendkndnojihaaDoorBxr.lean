/-
  REGIONS THAT DRAW THEIR ORDER, INSIDE A ROUND of a range over a function, whose operations defer nothing.
-/
import Derived.Test.YtbendkndnojihaaDoorBm5
namespace Go.Proofs.YtbendkndnojihaaDoor
open Go.RowKit Go.Deep Go.Shelf
set_option linter.unusedVariables false

theorem wpOpIn_round {F : Fence} {l n : Nat} {P : Program} {ops : Array Oper} {Q : Exit → Act → World → Prop} (hro : F.round = none) {i : Nat} {o : Oper} (ho : ops[i]? = some o) (hno : ∀ c, o.op ≠ .defer c) {K : Act → World → Prop} {a : Act} {w : World}
    (h : wpOpIn F n P ops Q i K a w) : wpOpIn (F.inRound l) n P ops Q i K a w := by
  unfold wpOpIn at *
  simp only [ho] at *
  split
  · rename_i hw
    simp only [hw, if_true] at h
    unfold Oper.wpIn at *
    refine ⟨h.1, ?_⟩
    have h := h.2
    rw [hro, Oper.semAt_none] at h
    rw [show (F.inRound l).round = some l from rfl, Oper.semAt_some _ _ _ hno]
    generalize (execOp a.eval o).run P w = r at *
    cases r with
    | ok x w' => cases x <;> exact h
    | halt x w' => cases x <;> exact h
  · rename_i hw
    simp only [hw] at h
    exact h
theorem wpAnyIn_round {F : Fence} {l n : Nat} {P : Program} {md : Region.Mode} {ops : Array Oper} {Q : Exit → Act → World → Prop} (hro : F.round = none) (hno : ∀ (i : Nat) (o : Oper), ops[i]? = some o → ∀ c, o.op ≠ .defer c) :
    ∀ (fuel : Nat) (listed : Array Bool) (a : Act) (w : World), wpAnyIn F n P md ops Q fuel listed a w → wpAnyIn (F.inRound l) n P md ops Q fuel listed a w
  | 0, listed, a, w, h => h
  | fuel + 1, listed, a, w, h => by
    refine ⟨h.1, fun i hi => ?_⟩
    have h2 := h.2 i hi
    obtain ⟨_, o, ho, _⟩ := mem_ready.1 hi
    exact wpOpIn_round hro ho (hno i o ho) (wpOpIn_mono (fun a w => wpAnyIn_round hro hno fuel _ a w) h2)
def plainO (o : Oper) : Bool := match o.op with | .defer _ => false | _ => true
theorem plain_all {ops : Array Oper} (h : ops.toList.all plainO = true) : ∀ (i : Nat) (o : Oper), ops[i]? = some o → ∀ c, o.op ≠ .defer c := by
  intro i o ho c e
  have hm : o ∈ ops.toList := by
    rw [← Array.getElem?_toList] at ho
    exact List.mem_of_getElem? ho
  have := List.all_eq_true.1 h o hm
  simp [plainO, e] at this
end Go.Proofs.YtbendkndnojihaaDoor
