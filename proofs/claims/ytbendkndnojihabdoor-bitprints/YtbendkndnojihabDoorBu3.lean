/-
  TABLES THAT ARE HANDED IN; the law BitMay.
-/
import Derived.Test.YtbendkndnojihabDoorBu1
import Derived.Test.YtbendkndnojihabDoorBtw
import Derived.Test.YtbendkndnojihabDoorBtx
import Derived.Test.YtbendkndnojihabDoorBty
namespace Go.Proofs.YtbendkndnojihabDoor
open Go.ChangeShapes Go.WideShapes Go.ChangeAt Go.RowKit Go.Deep
set_option linter.unusedVariables false

theorem law_cellsT : Tryd.prog.cellsOf 24 = 2 := by kernel_rfl
theorem law_cellsSs : Tryd.prog.cellsOf 22 = 1 := by kernel_rfl
set_option maxRecDepth 100000 in
theorem arg_table {H : Type} {enc : TypeId × Value → H} {W : World} {v : Value} {d : DataW H} {p : List MemPlace} {r : Reach} {b0 : Nat}
    (hv : Value.okWide Tryd.prog W r b0 24 v) (h : DataW.Trod enc Tryd.prog W 0 (fun _ => true) true 24 v d p) (hz : ∀ k ∈ d.weights Tryd.prog 24, k ≤ reachBytes) :
    ∃ s a n c L, v = setV s a n c ∧ -9223372036854775808 ≤ s ∧ s ≤ 9223372036854775807 ∧ SlS W a n c L ∧ (∀ e ∈ L, e.Arg) ∧ n ≤ 4398046510976 ∧ (a = none → n = 0 ∧ c = 0) := by
  obtain ⟨cs, rfl, hsz⟩ := okWide_struct Tryd.underlying24 hv
  obtain ⟨fuel, hf⟩ := h
  obtain ⟨y0, y1, m, hx, hl, h0, h1⟩ := trod_struct2 Tryd.underlying24 hf
  simp only [Prod.mk.injEq] at hx
  obtain ⟨rfl, rfl⟩ := hx
  rw [law_cellsT] at hl
  obtain ⟨cl, hcl⟩ : ∃ cl, (Value.agg cs).cells.toList = cl := ⟨_, rfl⟩
  rw [hcl] at hl h0 h1
  match cl, hl, hcl with
  | [c0, c1], _, hcl =>
    simp only [List.drop_zero, List.drop_succ_cons, law_cellsI, law_cellsSs, List.take_succ_cons, List.take_zero] at h0 h1
    obtain ⟨s, e0, rfl, hw⟩ := DataW.trod_int Tryd.underlying3 h0
    obtain ⟨a, n, c, L, e1, k1, k2, k3, k4⟩ := trod_sets h1 (fun k hk => hz k (by simp [DataW.weights, DataW.weightsEach, Tryd.underlying24, hk]))
    cases e0
    cases e1
    refine ⟨s, a, n, c, L, ?_, (bounds_i64 hw).1, (bounds_i64 hw).2, k1, k2, k3, k4⟩
    unfold setV
    congr 1
    apply Array.ext'
    simpa [Value.cells] using hcl
theorem mayT_key {s : Int} {L T : List SetC} (h : T.map SetC.key = L.map SetC.key) : MayT s T = MayT s L := by
  have hl : T.length = L.length := by simpa using congrArg List.length h
  unfold MayT
  rw [hl, any_key (p := badT s) (q := fun k => (!MayS k.1 k.2) || decide (k.1 ≠ s)) (fun _ => rfl) T, any_key (p := badT s) (q := fun k => (!MayS k.1 k.2) || decide (k.1 ≠ s)) (fun _ => rfl) L, h]
end Go.Proofs.YtbendkndnojihabDoor
