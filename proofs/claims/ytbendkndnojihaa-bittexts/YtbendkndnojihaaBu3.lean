/-
  WHAT HANGS ON THE CONTENTS OF SETS ALONE; facts on lists of sets.
-/
import Derived.Test.YtbendkndnojihaaBtu
import Derived.Test.YtbendkndnojihaaBtw
import Derived.Test.YtbendkndnojihaaBtx
import Derived.Test.YtbendkndnojihaaBu1
namespace Go.Proofs.Ytbendkndnojihaa
open Go.RowKit Go.Deep
set_option linter.unusedVariables false

def SetC.key (e : SetC) : Int × List Nat := (e.s, e.xs)
theorem any_key {p : SetC → Bool} {q : Int × List Nat → Bool} (h : ∀ e, p e = q e.key) (L : List SetC) : L.any p = (L.map SetC.key).any q := by
  rw [List.any_map]
  congr 1
  funext e
  exact h e
theorem all_key {p : SetC → Bool} {q : Int × List Nat → Bool} (h : ∀ e, p e = q e.key) (L : List SetC) : L.all p = (L.map SetC.key).all q := by
  rw [List.all_map]
  congr 1
  funext e
  exact h e
theorem alike_key {size : Int} {L T : List SetC} (h : T.map SetC.key = L.map SetC.key) : alikeE size T = alikeE size L := by
  unfold alikeE
  rw [any_key (p := notMay) (q := fun k => !MayS k.1 k.2) (fun _ => rfl) T, any_key (p := notMay) (q := fun k => !MayS k.1 k.2) (fun _ => rfl) L,
    any_key (p := offS size) (q := fun k => decide (k.1 ≠ size)) (fun _ => rfl) T, any_key (p := offS size) (q := fun k => decide (k.1 ≠ size)) (fun _ => rfl) L, h]
theorem many_key {size : Int} {L T : List SetC} (all : Bool) (h : T.map SetC.key = L.map SetC.key) : manyR size T all = manyR size L all := by
  have hm : ∀ x, manyB all T x = manyB all L x := by
    intro x
    unfold manyB
    rw [any_key (p := hasS x) (q := fun k => hasB (fun i => k.2.getD i 0) x) (fun _ => rfl) T, any_key (p := hasS x) (q := fun k => hasB (fun i => k.2.getD i 0) x) (fun _ => rfl) L,
      all_key (p := hasS x) (q := fun k => hasB (fun i => k.2.getD i 0) x) (fun _ => rfl) T, all_key (p := hasS x) (q := fun k => hasB (fun i => k.2.getD i 0) x) (fun _ => rfl) L, h]
  unfold manyR
  rw [alike_key h, show manyB all T = manyB all L from funext hm]
theorem Twins.key {w : World} {g cap n : Nat} {L T : List SetC} (h : Twins w g cap n L T) (hl : L.length = n) : T.map SetC.key = L.map SetC.key := by
  have hT := h.sl.len
  apply List.ext_getElem (by simp; omega)
  intro i h1 h2
  simp at h1 h2
  have t := h.tw i (by omega)
  rw [show T.getD i .nul = T[i] from by simp [List.getD, h1], show L.getD i .nul = L[i] from by simp [List.getD, h2]] at t
  simp [SetC.key, t.s, t.xs]

def fS (a : Option Addr) (n c : Nat) (L : List SetC) : Fact := ⟨fun w => SlS w a n c L, fun k h => h.below k⟩
def fTw (g cap n : Nat) (L T : List SetC) : Fact := ⟨fun w => Twins w g cap n L T, fun k h => h.below k⟩
theorem Facts.ss {w0 w : World} {F : List Fact} (h : Facts w0 w F) (a : Option Addr) (n c : Nat) (L : List SetC) (hm : fS a n c L ∈ F) : SlS w a n c L := h.all _ hm
theorem Facts.tw {w0 w : World} {F : List Fact} (h : Facts w0 w F) (g cap n : Nat) (L T : List SetC) (hm : fTw g cap n L T ∈ F) : Twins w g cap n L T := h.all _ hm
end Go.Proofs.Ytbendkndnojihaa

namespace Go.Proofs.Ytbendkndnojihaa
open Go.ChangeShapes Go.WideShapes Go.ChangeAt Go.RowKit Go.Deep
set_option linter.unusedVariables false

theorem law_cellsT : Try.prog.cellsOf 27 = 2 := by kernel_rfl
theorem law_cellsSs : Try.prog.cellsOf 25 = 1 := by kernel_rfl
set_option maxRecDepth 100000 in
theorem arg_table {H : Type} {enc : TypeId × Value → H} {W : World} {v : Value} {d : DataW H} {p : List MemPlace} {r : Reach} {b0 : Nat}
    (hv : Value.okWide Try.prog W r b0 27 v) (h : DataW.Trod enc Try.prog W 0 (fun _ => true) true 27 v d p) (hz : ∀ k ∈ d.weights Try.prog 27, k ≤ reachBytes) :
    ∃ s a n c L, v = setV s a n c ∧ -9223372036854775808 ≤ s ∧ s ≤ 9223372036854775807 ∧ SlS W a n c L ∧ (∀ e ∈ L, e.Arg) ∧ n ≤ 4398046510976 ∧ (a = none → n = 0 ∧ c = 0) := by
  obtain ⟨cs, rfl, hsz⟩ := okWide_struct Try.underlying27 hv
  obtain ⟨fuel, hf⟩ := h
  obtain ⟨y0, y1, m, hx, hl, h0, h1⟩ := trod_struct2 Try.underlying27 hf
  simp only [Prod.mk.injEq] at hx
  obtain ⟨rfl, rfl⟩ := hx
  rw [law_cellsT] at hl
  obtain ⟨cl, hcl⟩ : ∃ cl, (Value.agg cs).cells.toList = cl := ⟨_, rfl⟩
  rw [hcl] at hl h0 h1
  match cl, hl, hcl with
  | [c0, c1], _, hcl =>
    simp only [List.drop_zero, List.drop_succ_cons, law_cellsI, law_cellsSs, List.take_succ_cons, List.take_zero] at h0 h1
    obtain ⟨s, e0, rfl, hw⟩ := DataW.trod_int Try.underlying3 h0
    obtain ⟨a, n, c, L, e1, k1, k2, k3, k4⟩ := trod_sets h1 (fun k hk => hz k (by simp [DataW.weights, DataW.weightsEach, Try.underlying27, hk]))
    cases e0
    cases e1
    refine ⟨s, a, n, c, L, ?_, (bounds_i64 hw).1, (bounds_i64 hw).2, k1, k2, k3, k4⟩
    unfold setV
    congr 1
    apply Array.ext'
    simpa [Value.cells] using hcl
theorem mayT_key {s : Int} {L T : List SetC} (h : T.map SetC.key = L.map SetC.key) : MayT s T = MayT s L := by
  have hl : T.length = L.length := by simpa using congrArg List.length h
  unfold MayT
  rw [hl, any_key (p := badT s) (q := fun k => (!MayS k.1 k.2) || decide (k.1 ≠ s)) (fun _ => rfl) T, any_key (p := badT s) (q := fun k => (!MayS k.1 k.2) || decide (k.1 ≠ s)) (fun _ => rfl) L, h]
end Go.Proofs.Ytbendkndnojihaa
