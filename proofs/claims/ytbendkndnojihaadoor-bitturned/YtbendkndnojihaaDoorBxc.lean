/-
  WHAT HANGS ON THE CONTENTS OF SETS ALONE; facts on lists of sets.
-/
import Derived.Test.YtbendkndnojihaaDoorBtx
import Derived.Test.YtbendkndnojihaaDoorBt4
namespace Go.Proofs.YtbendkndnojihaaDoor
open Go.RowKit Go.Deep
set_option linter.unusedVariables false

def SetC.key (e : SetC) : Int × List Nat := (e.s, e.xs)
theorem any_key {p : SetC → Bool} {q : Int × List Nat → Bool} (h : ∀ e, p e = q e.key) (L : List SetC) : L.any p = (L.map SetC.key).any q := by
  rw [List.any_map]
  congr 1
  funext e
  exact h e
theorem all_key {p : SetC → Bool} {q : Int × List Nat → Bool} (h : ∀ e, p e = q e.key) (L : List SetC) : L.all p = (L.map SetC.key).all q := by
  rw [List.all_map]
  congr 1
  funext e
  exact h e
theorem alike_key {size : Int} {L T : List SetC} (h : T.map SetC.key = L.map SetC.key) : alikeE size T = alikeE size L := by
  unfold alikeE
  rw [any_key (p := notMay) (q := fun k => !MayS k.1 k.2) (fun _ => rfl) T, any_key (p := notMay) (q := fun k => !MayS k.1 k.2) (fun _ => rfl) L,
    any_key (p := offS size) (q := fun k => decide (k.1 ≠ size)) (fun _ => rfl) T, any_key (p := offS size) (q := fun k => decide (k.1 ≠ size)) (fun _ => rfl) L, h]
theorem many_key {size : Int} {L T : List SetC} (all : Bool) (h : T.map SetC.key = L.map SetC.key) : manyR size T all = manyR size L all := by
  have hm : ∀ x, manyB all T x = manyB all L x := by
    intro x
    unfold manyB
    rw [any_key (p := hasS x) (q := fun k => hasB (fun i => k.2.getD i 0) x) (fun _ => rfl) T, any_key (p := hasS x) (q := fun k => hasB (fun i => k.2.getD i 0) x) (fun _ => rfl) L,
      all_key (p := hasS x) (q := fun k => hasB (fun i => k.2.getD i 0) x) (fun _ => rfl) T, all_key (p := hasS x) (q := fun k => hasB (fun i => k.2.getD i 0) x) (fun _ => rfl) L, h]
  unfold manyR
  rw [alike_key h, show manyB all T = manyB all L from funext hm]
theorem Twins.key {w : World} {g cap n : Nat} {L T : List SetC} (h : Twins w g cap n L T) (hl : L.length = n) : T.map SetC.key = L.map SetC.key := by
  have hT := h.sl.len
  apply List.ext_getElem (by simp; omega)
  intro i h1 h2
  simp at h1 h2
  have t := h.tw i (by omega)
  rw [show T.getD i .nul = T[i] from by simp [List.getD, h1], show L.getD i .nul = L[i] from by simp [List.getD, h2]] at t
  simp [SetC.key, t.s, t.xs]

def fS (a : Option Addr) (n c : Nat) (L : List SetC) : Fact := ⟨fun w => SlS w a n c L, fun k h => h.below k⟩
def fTw (g cap n : Nat) (L T : List SetC) : Fact := ⟨fun w => Twins w g cap n L T, fun k h => h.below k⟩
theorem Facts.ss {w0 w : World} {F : List Fact} (h : Facts w0 w F) (a : Option Addr) (n c : Nat) (L : List SetC) (hm : fS a n c L ∈ F) : SlS w a n c L := h.all _ hm
theorem Facts.tw {w0 w : World} {F : List Fact} (h : Facts w0 w F) (g cap n : Nat) (L T : List SetC) (hm : fTw g cap n L T ∈ F) : Twins w g cap n L T := h.all _ hm
end Go.Proofs.YtbendkndnojihaaDoor

namespace Go.Proofs.YtbendkndnojihaaDoor
open Go.RowKit Go.Deep
set_option linter.unusedVariables false

/-- What a table's sets hold. -/
def tabK (sz n : Nat) (P : Nat → Nat → Bool) : List (Int × List Nat) := (List.range n).map (fun i => ((sz : Int), wordsL sz (P i)))
/-- A table that is answered. -/
def ResT (w w' : World) (s : Int) (K : List (Int × List Nat)) (e : Int) (r : Ending) : Prop :=
  ∃ a n c L, r = .returned (.tuple #[setV s a n c, .int .i64 e]) ∧ SlS w' a n c L ∧ L.map SetC.key = K ∧ Below w.heap.size w w'
theorem resT_zero {w w' : World} {er : Int} (h : Below w.heap.size w w') : ResT w w' 0 [] er (.returned (.tuple #[setV 0 none 0 0, .int .i64 er])) :=
  ⟨none, 0, 0, [], rfl, ⟨rfl, Nat.le_refl _, Nat.zero_le _, .inl rfl, fun e he => by cases he⟩, rfl, h⟩
theorem NewT.res {w w' : World} {sz n : Nat} {F : Nat → Nat → Nat} {v : Value} {P : Nat → Nat → Bool} (h : NewT w w' sz n F v) (hr : ∀ i, i < n → RepB (nW sz) (F i) (P i)) (hn : n ≤ 4096) : ResT w w' sz (tabK sz n P) 0 (.returned (.tuple #[v, .int .i64 0])) := by
  obtain ⟨T, bs, cs, rfl, ht, hb⟩ := h
  obtain ⟨L, hL⟩ : ∃ L : List SetC, L = (List.range n).map (fun i => (⟨(sz : Int), some ⟨bs i, 0, none⟩, nW sz, cs i, wordsL sz (P i)⟩ : SetC)) := ⟨_, rfl⟩
  have hlen : L.length = n := by rw [hL]; simp
  have hget : ∀ i, i < n → L.getD i .nul = ⟨(sz : Int), some ⟨bs i, 0, none⟩, nW sz, cs i, wordsL sz (P i)⟩ := fun i hi => by rw [hL]; simp [List.getD, hi]
  have hsl : ∀ i, i < n → SlW w' (some ⟨bs i, 0, none⟩) (nW sz) (cs i) (wordsL sz (P i)) := fun i hi => by
    have := (ht.words i hi).sl (d := 0) (ht.cap i hi).1 (ht.cap i hi).2
    rwa [show lstG (F i) (nW sz) = wordsL sz (P i) from wordsL_of (hr i hi)] at this
  refine ⟨_, _, _, L, rfl, ⟨hlen, Nat.le_refl _, by unfold maxLen; omega, .inr ⟨T, 0, rfl, fun i hi => ?_⟩, fun e he => ?_⟩, ?_, hb⟩
  · rw [hlen] at hi
    rw [hget i hi, Nat.zero_add]
    exact ht.row i hi
  · rw [hL] at he
    obtain ⟨i, hi, rfl⟩ := List.mem_map.1 he
    have hi' := List.mem_range.1 hi
    refine ⟨hsl i hi', ?_⟩
    intro x hx
    rw [show wordsL sz (P i) = (List.range (nW sz)).map (F i) from (wordsL_of (hr i hi')).symm] at hx
    obtain ⟨j, hj, rfl⟩ := List.mem_map.1 hx
    exact (hr i hi' j (List.mem_range.1 hj)).1
  · rw [hL, List.map_map]
    rfl
end Go.Proofs.YtbendkndnojihaaDoor
