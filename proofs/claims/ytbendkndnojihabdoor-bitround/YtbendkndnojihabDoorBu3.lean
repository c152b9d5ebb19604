/-
  bitset.join, by and: its contract.
-/
import Derived.Test.YtbendkndnojihabDoorBtj
import Derived.Test.YtbendkndnojihabDoorBto
import Derived.Test.YtbendkndnojihabDoorBp0
import Derived.Test.YtbendkndnojihabDoorBtp
import Derived.Test.YtbendkndnojihabDoorBv1
import Derived.Test.YtbendkndnojihabDoorBtk
import Derived.Test.YtbendkndnojihabDoorBu1
namespace Go.Proofs.YtbendkndnojihabDoor
open Go.RowKit Go.Deep
set_option linter.unusedVariables false

end Go.Proofs.YtbendkndnojihabDoor

namespace Go.Proofs.YtbendkndnojihabDoor
open Go.RowKit Go.Deep
set_option linter.unusedVariables false

def op_and (x y : Bool) : Bool := x && y

end Go.Proofs.YtbendkndnojihabDoor

namespace Go.Proofs.YtbendkndnojihabDoor
open Go.RowKit Go.Deep
set_option linter.unusedVariables false

theorem fold_or (p : SetC → Bool) : ∀ (L : List SetC) (a : Bool), L.foldl (fun acc e => op_or acc (p e)) a = (a || L.any p)
  | [], a => by simp
  | e :: L, a => by rw [List.foldl_cons, fold_or p L, List.any_cons]; unfold op_or; rw [Bool.or_assoc]
theorem fold_and (p : SetC → Bool) : ∀ (L : List SetC) (a : Bool), L.foldl (fun acc e => op_and acc (p e)) a = (a && L.all p)
  | [], a => by simp
  | e :: L, a => by rw [List.foldl_cons, fold_and p L, List.all_cons]; unfold op_and; rw [Bool.and_assoc]
theorem joined_or_many (size : Int) (L : List SetC) : joinedR op_or false size L = manyR size L false := by
  unfold joinedR manyR
  by_cases h : alikeE size L = 0
  · simp only [if_pos h]
    congr 2
    obtain ⟨h1, h2⟩ := alike_zero h
    apply wordsL_congr
    intro x hx
    have e : PJ op_or false size.toNat L x = L.any (hasS x) := by
      unfold PJ
      rw [show (fun (acc : Bool) (e : SetC) => op_or acc (hasB (fun i => e.xs.getD i 0) x)) = (fun acc e => op_or acc (hasS x e)) from rfl, fold_or]
      simp
    rw [e]
    simp only [manyB]
    by_cases hs : x < size.toNat
    · simp [hs]
    · have : L.any (hasS x) = false := by
        rw [List.any_eq_false]
        intro y hy hh
        obtain ⟨m1, m2⟩ := h2 y hy
        have hz := MayS.zero m1 x (by rw [m2]; omega) (by rw [MayS.len m1, m2]; exact hx)
        unfold hasS at hh
        rw [hz] at hh
        cases hh
      rw [this]; simp
  · simp only [if_neg h]
theorem joined_and_many (size : Int) (L : List SetC) : joinedR op_and true size L = manyR size L true := by
  unfold joinedR manyR
  by_cases h : alikeE size L = 0
  · simp only [if_pos h]
    congr 2
    apply wordsL_congr
    intro x hx
    unfold PJ
    rw [show (fun (acc : Bool) (e : SetC) => op_and acc (hasB (fun i => e.xs.getD i 0) x)) = (fun acc e => op_and acc (hasS x e)) from rfl, fold_and]
    simp [manyB]
  · simp only [if_neg h]

set_option maxHeartbeats 2000000 in
/-- bitset.Union. -/
theorem union_any (size : Int) (a : Option Addr) (n c : Nat) (L : List SetC) (w : World) (h : SlS w a n c L) :
    Calls Tryd.prog 14 #[.int .i64 size, .slice a n c] w fun r w' => ResS w w' (manyR size L false) r := by
  obtain ⟨wa, hwa⟩ : ∃ wa, w.alloc (.cells #[.int .i64 0, .slice none 0 0] 35) = wa := ⟨_, rfl⟩
  have tR : Two wa w.heap.size (.int .i64 0) (.slice none 0 0) := by rw [← hwa]; exact Two.made _ _ _ _
  have hB : Below w.heap.size w wa := by rw [← hwa]; exact (Below.refl _ _).alloc (Nat.le_refl _) _
  have K := joined_or size a n c L wa (h.below hB)
  rw [joined_or_many] at K
  generalize manyR size L false = rr at *
  obtain ⟨rs, rx, re⟩ := rr
  have HK := hide K
  have HR := hide (And.intro tR hB)
  have hlt := tR.lt
  clear K tR hB h
  go_enter Tryd.func14, Tryd.ntmps14
  go_wp2_with fail
  refine (unhide HK).mono ?_
  rintro _ w1 ⟨a1, n1, c1, rfl, hs, hb⟩
  have tR := (unhide HR).1.keep hb
  have r0 := tR.c0
  have r1 := tR.c1
  have f0 := tR.f0
  have f1 := tR.f1
  have T3 := tR.set (.int .i64 rs) (.slice a1 n1 c1)
  have p0 := T3.c0
  have p1 := T3.c1
  have HE := hide (And.intro (SlW.two hs tR (.int .i64 rs) (.slice a1 n1 c1)) (two_below ((unhide HR).2.trans (hb.mono (by omega))) w.heap.size (Nat.le_refl _) (.int .i64 rs) (.slice a1 n1 c1)))
  clear tR T3 hs hb HK
  unfold setV
  go_wp2_with fail
  refine bodyPost_ret (by simp [results, Tryd.results14, go_sem, p0, p1]; try rfl) rfl ?_
  exact ⟨a1, n1, c1, rfl, (unhide HE).1, (unhide HE).2⟩

end Go.Proofs.YtbendkndnojihabDoor

namespace Go.Proofs.YtbendkndnojihabDoor
open Go.RowKit Go.Deep
set_option linter.unusedVariables false

def SetC.key (e : SetC) : Int × List Nat := (e.s, e.xs)
theorem any_key {p : SetC → Bool} {q : Int × List Nat → Bool} (h : ∀ e, p e = q e.key) (L : List SetC) : L.any p = (L.map SetC.key).any q := by
  rw [List.any_map]
  congr 1
  funext e
  exact h e
theorem all_key {p : SetC → Bool} {q : Int × List Nat → Bool} (h : ∀ e, p e = q e.key) (L : List SetC) : L.all p = (L.map SetC.key).all q := by
  rw [List.all_map]
  congr 1
  funext e
  exact h e
theorem alike_key {size : Int} {L T : List SetC} (h : T.map SetC.key = L.map SetC.key) : alikeE size T = alikeE size L := by
  unfold alikeE
  rw [any_key (p := notMay) (q := fun k => !MayS k.1 k.2) (fun _ => rfl) T, any_key (p := notMay) (q := fun k => !MayS k.1 k.2) (fun _ => rfl) L,
    any_key (p := offS size) (q := fun k => decide (k.1 ≠ size)) (fun _ => rfl) T, any_key (p := offS size) (q := fun k => decide (k.1 ≠ size)) (fun _ => rfl) L, h]
theorem many_key {size : Int} {L T : List SetC} (all : Bool) (h : T.map SetC.key = L.map SetC.key) : manyR size T all = manyR size L all := by
  have hm : ∀ x, manyB all T x = manyB all L x := by
    intro x
    unfold manyB
    rw [any_key (p := hasS x) (q := fun k => hasB (fun i => k.2.getD i 0) x) (fun _ => rfl) T, any_key (p := hasS x) (q := fun k => hasB (fun i => k.2.getD i 0) x) (fun _ => rfl) L,
      all_key (p := hasS x) (q := fun k => hasB (fun i => k.2.getD i 0) x) (fun _ => rfl) T, all_key (p := hasS x) (q := fun k => hasB (fun i => k.2.getD i 0) x) (fun _ => rfl) L, h]
  unfold manyR
  rw [alike_key h, show manyB all T = manyB all L from funext hm]
theorem Twins.key {w : World} {g cap n : Nat} {L T : List SetC} (h : Twins w g cap n L T) (hl : L.length = n) : T.map SetC.key = L.map SetC.key := by
  have hT := h.sl.len
  apply List.ext_getElem (by simp; omega)
  intro i h1 h2
  simp at h1 h2
  have t := h.tw i (by omega)
  rw [show T.getD i .nul = T[i] from by simp [List.getD, h1], show L.getD i .nul = L[i] from by simp [List.getD, h2]] at t
  simp [SetC.key, t.s, t.xs]

def fS (a : Option Addr) (n c : Nat) (L : List SetC) : Fact := ⟨fun w => SlS w a n c L, fun k h => h.below k⟩
def fTw (g cap n : Nat) (L T : List SetC) : Fact := ⟨fun w => Twins w g cap n L T, fun k h => h.below k⟩
theorem Facts.ss {w0 w : World} {F : List Fact} (h : Facts w0 w F) (a : Option Addr) (n c : Nat) (L : List SetC) (hm : fS a n c L ∈ F) : SlS w a n c L := h.all _ hm
theorem Facts.tw {w0 w : World} {F : List Fact} (h : Facts w0 w F) (g cap n : Nat) (L T : List SetC) (hm : fTw g cap n L T ∈ F) : Twins w g cap n L T := h.all _ hm
end Go.Proofs.YtbendkndnojihabDoor

namespace Go.Proofs.YtbendkndnojihabDoor
open Go.ChangeShapes Go.WideShapes Go.ChangeAt Go.RowKit Go.Deep
set_option linter.unusedVariables false

theorem law_cellsT : Tryd.prog.cellsOf 24 = 2 := by kernel_rfl
theorem law_cellsSs : Tryd.prog.cellsOf 22 = 1 := by kernel_rfl
set_option maxRecDepth 100000 in
theorem arg_table {H : Type} {enc : TypeId × Value → H} {W : World} {v : Value} {d : DataW H} {p : List MemPlace} {r : Reach} {b0 : Nat}
    (hv : Value.okWide Tryd.prog W r b0 24 v) (h : DataW.Trod enc Tryd.prog W 0 (fun _ => true) true 24 v d p) (hz : ∀ k ∈ d.weights Tryd.prog 24, k ≤ reachBytes) :
    ∃ s a n c L, v = setV s a n c ∧ -9223372036854775808 ≤ s ∧ s ≤ 9223372036854775807 ∧ SlS W a n c L ∧ (∀ e ∈ L, e.Arg) ∧ n ≤ 4398046510976 ∧ (a = none → n = 0 ∧ c = 0) := by
  obtain ⟨cs, rfl, hsz⟩ := okWide_struct Tryd.underlying24 hv
  obtain ⟨fuel, hf⟩ := h
  obtain ⟨y0, y1, m, hx, hl, h0, h1⟩ := trod_struct2 Tryd.underlying24 hf
  simp only [Prod.mk.injEq] at hx
  obtain ⟨rfl, rfl⟩ := hx
  rw [law_cellsT] at hl
  obtain ⟨cl, hcl⟩ : ∃ cl, (Value.agg cs).cells.toList = cl := ⟨_, rfl⟩
  rw [hcl] at hl h0 h1
  match cl, hl, hcl with
  | [c0, c1], _, hcl =>
    simp only [List.drop_zero, List.drop_succ_cons, law_cellsI, law_cellsSs, List.take_succ_cons, List.take_zero] at h0 h1
    obtain ⟨s, e0, rfl, hw⟩ := DataW.trod_int Tryd.underlying3 h0
    obtain ⟨a, n, c, L, e1, k1, k2, k3, k4⟩ := trod_sets h1 (fun k hk => hz k (by simp [DataW.weights, DataW.weightsEach, Tryd.underlying24, hk]))
    cases e0
    cases e1
    refine ⟨s, a, n, c, L, ?_, (bounds_i64 hw).1, (bounds_i64 hw).2, k1, k2, k3, k4⟩
    unfold setV
    congr 1
    apply Array.ext'
    simpa [Value.cells] using hcl
theorem mayT_key {s : Int} {L T : List SetC} (h : T.map SetC.key = L.map SetC.key) : MayT s T = MayT s L := by
  have hl : T.length = L.length := by simpa using congrArg List.length h
  unfold MayT
  rw [hl, any_key (p := badT s) (q := fun k => (!MayS k.1 k.2) || decide (k.1 ≠ s)) (fun _ => rfl) T, any_key (p := badT s) (q := fun k => (!MayS k.1 k.2) || decide (k.1 ≠ s)) (fun _ => rfl) L, h]
end Go.Proofs.YtbendkndnojihabDoor
