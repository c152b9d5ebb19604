/-
  bitset.join, by or: its contract.
-/
import Derived.Test.YtbendkndnojihaaDoorBx1
import Derived.Test.YtbendkndnojihaaDoorBto
import Derived.Test.YtbendkndnojihaaDoorBti
import Derived.Test.YtbendkndnojihaaDoorBtg0
import Derived.Test.YtbendkndnojihaaDoorBtv
import Derived.Test.YtbendkndnojihaaDoorBtc
namespace Go.Proofs.YtbendkndnojihaaDoor
open Go.RowKit Go.Deep
set_option linter.unusedVariables false

end Go.Proofs.YtbendkndnojihaaDoor

namespace Go.Proofs.YtbendkndnojihaaDoor
open Go.RowKit Go.Deep
set_option linter.unusedVariables false

def op_or (x y : Bool) : Bool := x || y

end Go.Proofs.YtbendkndnojihaaDoor

namespace Go.Proofs.YtbendkndnojihaaDoor
open Go.RowKit Go.Deep
set_option linter.unusedVariables false

end Go.Proofs.YtbendkndnojihaaDoor

namespace Go.Proofs.YtbendkndnojihaaDoor
open Go.RowKit Go.Deep
set_option linter.unusedVariables false

def op_and (x y : Bool) : Bool := x && y

end Go.Proofs.YtbendkndnojihaaDoor

namespace Go.Proofs.YtbendkndnojihaaDoor
open Go.RowKit Go.Deep
set_option linter.unusedVariables false

end Go.Proofs.YtbendkndnojihaaDoor

namespace Go.Proofs.YtbendkndnojihaaDoor
open Go.RowKit Go.Deep
set_option linter.unusedVariables false

def hasS (x : Nat) (e : SetC) : Bool := hasB (fun i => e.xs.getD i 0) x
def manyB (all : Bool) (L : List SetC) (x : Nat) : Bool := if all then L.all (hasS x) else L.any (hasS x)
def manyR (size : Int) (L : List SetC) (all : Bool) : Int × List Nat × Int :=
  if alikeE size L = 0 then (size, wordsL size.toNat (fun x => decide (x < size.toNat) && manyB all L x), 0) else (0, [], alikeE size L)
def cntS (x : Nat) (L : List SetC) : Nat := L.countP (hasS x)
theorem cnt_step {l : List SetC} {k : Nat} (hk : k < l.length) (x : Nat) : cntS x (l.take (k + 1)) = cntS x (l.take k) + (if hasS x (l.getD k .nul) then 1 else 0) := by
  unfold cntS
  rw [List.take_add_one, List.getElem?_eq_getElem hk, List.countP_append]
  simp [List.getD, hk, List.countP_cons]
theorem cnt_le (x : Nat) (L : List SetC) : cntS x L ≤ L.length := List.countP_le_length
theorem cnt_any (x : Nat) (L : List SetC) : decide (0 < cntS x L) = L.any (hasS x) := by
  unfold cntS
  rw [Bool.eq_iff_iff]
  simp [List.countP_pos_iff]
theorem cnt_all (x : Nat) (L : List SetC) : decide (cntS x L = L.length) = L.all (hasS x) := by
  unfold cntS
  rw [Bool.eq_iff_iff]
  simp [List.countP_eq_length]

end Go.Proofs.YtbendkndnojihaaDoor

namespace Go.Proofs.YtbendkndnojihaaDoor
open Go.RowKit Go.Deep
set_option linter.unusedVariables false

theorem fold_or (p : SetC → Bool) : ∀ (L : List SetC) (a : Bool), L.foldl (fun acc e => op_or acc (p e)) a = (a || L.any p)
  | [], a => by simp
  | e :: L, a => by rw [List.foldl_cons, fold_or p L, List.any_cons]; unfold op_or; rw [Bool.or_assoc]
theorem fold_and (p : SetC → Bool) : ∀ (L : List SetC) (a : Bool), L.foldl (fun acc e => op_and acc (p e)) a = (a && L.all p)
  | [], a => by simp
  | e :: L, a => by rw [List.foldl_cons, fold_and p L, List.all_cons]; unfold op_and; rw [Bool.and_assoc]
theorem joined_or_many (size : Int) (L : List SetC) : joinedR op_or false size L = manyR size L false := by
  unfold joinedR manyR
  by_cases h : alikeE size L = 0
  · simp only [if_pos h]
    congr 2
    obtain ⟨h1, h2⟩ := alike_zero h
    apply wordsL_congr
    intro x hx
    have e : PJ op_or false size.toNat L x = L.any (hasS x) := by
      unfold PJ
      rw [show (fun (acc : Bool) (e : SetC) => op_or acc (hasB (fun i => e.xs.getD i 0) x)) = (fun acc e => op_or acc (hasS x e)) from rfl, fold_or]
      simp
    rw [e]
    simp only [manyB]
    by_cases hs : x < size.toNat
    · simp [hs]
    · have : L.any (hasS x) = false := by
        rw [List.any_eq_false]
        intro y hy hh
        obtain ⟨m1, m2⟩ := h2 y hy
        have hz := MayS.zero m1 x (by rw [m2]; omega) (by rw [MayS.len m1, m2]; exact hx)
        unfold hasS at hh
        rw [hz] at hh
        cases hh
      rw [this]; simp
  · simp only [if_neg h]
theorem joined_and_many (size : Int) (L : List SetC) : joinedR op_and true size L = manyR size L true := by
  unfold joinedR manyR
  by_cases h : alikeE size L = 0
  · simp only [if_pos h]
    congr 2
    apply wordsL_congr
    intro x hx
    unfold PJ
    rw [show (fun (acc : Bool) (e : SetC) => op_and acc (hasB (fun i => e.xs.getD i 0) x)) = (fun acc e => op_and acc (hasS x e)) from rfl, fold_and]
    simp [manyB]
  · simp only [if_neg h]

end Go.Proofs.YtbendkndnojihaaDoor

namespace Go.Proofs.YtbendkndnojihaaDoor
open Go.ChangeShapes Go.WideShapes Go.ChangeAt Go.RowKit Go.Deep
set_option linter.unusedVariables false

end Go.Proofs.YtbendkndnojihaaDoor

namespace Go.Proofs.YtbendkndnojihaaDoor
open Go.ChangeShapes Go.WideShapes Go.ChangeAt Go.RowKit Go.Deep
set_option linter.unusedVariables false

theorem law_bytesS : Tryd.prog.bytesOf 24 = 32 := by kernel_rfl
theorem weightsAll_mem {H : Type} {P : Program} {e : TypeId} : ∀ {l : List (DataW H)} {d : DataW H} {k : Nat}, d ∈ l → k ∈ d.weights P e → k ∈ DataW.weightsAll P e l
  | [], d, k, h, _ => by cases h
  | x :: l, d, k, h, hk => by
    rcases List.mem_cons.1 h with rfl | h
    · simp [DataW.weightsAll, hk]
    · simp [DataW.weightsAll, weightsAll_mem h hk]

set_option maxRecDepth 100000 in
/-- A list of sets, out of its cells. -/
theorem trod_sets {H : Type} {enc : TypeId × Value → H} {W : World} {fuel : Nat} {cs : List Value} {x : DataW H × List MemPlace}
    (h : DataW.trod enc Tryd.prog W 0 (fun _ => true) true fuel 54 cs = some x) (hz : ∀ k ∈ x.1.weights Tryd.prog 54, k ≤ reachBytes) :
    ∃ a n c L, cs = [.slice a n c] ∧ SlS W a n c L ∧ (∀ e ∈ L, e.Arg) ∧ n ≤ 4398046510976 ∧ (a = none → n = 0 ∧ c = 0) := by
  rcases DataW.trod_slice Tryd.underlying54 h with ⟨rfl, _⟩ | ⟨a, n, c, elems, rest, m, _, rfl, rfl, hb, hl, hm, hlen, hel, hsp, hns⟩
  · exact ⟨none, 0, 0, [], rfl, ⟨rfl, Nat.le_refl _, Nat.zero_le _, .inl rfl, fun e he => by cases he⟩, (fun e he => by cases he), Nat.zero_le _, fun _ => ⟨rfl, rfl⟩⟩
  · have hbnd := hz ((elems.length + rest.length) * Tryd.prog.bytesOf 24) (by simp [DataW.weights, Tryd.underlying54])
    rw [law_bytesS] at hbnd
    unfold reachBytes at hbnd
    by_cases h0 : n = 0
    · subst h0
      exact ⟨some a, 0, c, [], rfl, ⟨rfl, hl, hm, .inl rfl, fun e he => by cases he⟩, (fun e he => by cases he), Nat.zero_le _, fun h => by cases h⟩
    · have hspot : ∃ b off, a = ⟨b, off, none⟩ := by
        have h1 := hel 0 (by omega)
        rw [law_cellsS] at h1
        rw [List.getElem?_eq_getElem (by omega), Option.bind_eq_some_iff] at h1
        obtain ⟨cs', hcs, hy⟩ := h1
        have hh := World.cells?_some hcs
        have hc0 := hh.2.2 0 (by decide)
        rw [List.getElem?_eq_getElem (by rw [hh.2.1]; decide)] at hc0
        obtain ⟨b, off, spot⟩ := a
        have := World.cell?_spot hc0
        have hs : spot = none := by simpa [Addr.add] using this
        subst hs
        exact ⟨b, off, rfl⟩
      obtain ⟨b, off, rfl⟩ := hspot
      have each : ∀ i, i < n → ∃ e : SetC, W.cell? ⟨b, off + i * 2, none⟩ = some (.int .i64 e.s) ∧ W.cell? ⟨b, off + i * 2 + 1, none⟩ = some (.slice e.a e.n e.c) ∧ e.In W ∧ e.Arg := by
        intro i hi
        have h1 := hel i hi
        rw [law_cellsS] at h1
        rw [List.getElem?_eq_getElem (by omega), Option.bind_eq_some_iff] at h1
        obtain ⟨cs', hcs, hy⟩ := h1
        obtain ⟨s, ea, en, ec, exs, rfl, _, _, k1, k2, k3, k4⟩ := trod_set hy (fun k hk => hz k (by
          simp only [DataW.weights, Tryd.underlying54]
          refine List.mem_cons_of_mem _ (List.mem_append_left _ (weightsAll_mem (d := (elems[i]'(by omega)).1) ?_ hk))
          exact List.mem_map.2 ⟨_, List.getElem_mem _, rfl⟩))
        have hh := World.cells?_some hcs
        refine ⟨⟨s, ea, en, ec, exs⟩, ?_, ?_, ⟨k1, k2⟩, ⟨k3, k4⟩⟩
        · have := hh.2.2 0 (by decide)
          rw [addr_add, addr_add] at this
          simpa using this
        · have := hh.2.2 1 (by decide)
          rw [addr_add, addr_add] at this
          simpa using this
      have hch : ∃ f : Nat → SetC, ∀ i, i < n → W.cell? ⟨b, off + i * 2, none⟩ = some (.int .i64 (f i).s) ∧ W.cell? ⟨b, off + i * 2 + 1, none⟩ = some (.slice (f i).a (f i).n (f i).c) ∧ (f i).In W ∧ (f i).Arg := by
        refine ⟨fun i => if h : i < n then Classical.choose (each i h) else .nul, fun i hi => ?_⟩
        simp only [hi, dif_pos]
        exact Classical.choose_spec (each i hi)
      obtain ⟨f, hf⟩ := hch
      refine ⟨_, n, c, lstG f n, rfl, ⟨lstG_len f n, hl, hm, .inr ⟨b, off, rfl, fun i hi => ?_⟩, fun e he => ?_⟩, fun e he => ?_, by omega, fun h => by cases h⟩
      · rw [lstG_len] at hi
        rw [lstG_getD f n i _ hi]
        exact ⟨(hf i hi).1, (hf i hi).2.1⟩
      · obtain ⟨i, hi, rfl⟩ := List.mem_map.1 he
        exact (hf i (List.mem_range.1 hi)).2.2.1
      · obtain ⟨i, hi, rfl⟩ := List.mem_map.1 he
        exact (hf i (List.mem_range.1 hi)).2.2.2

theorem arg_sets {H : Type} {enc : TypeId × Value → H} {W : World} {a : Option Addr} {n c : Nat} {d : DataW H} {p : List MemPlace}
    (h : DataW.Trod enc Tryd.prog W 0 (fun _ => true) true 54 (.slice a n c) d p) (hz : ∀ k ∈ d.weights Tryd.prog 54, k ≤ reachBytes) :
    ∃ L, SlS W a n c L ∧ (∀ e ∈ L, e.Arg) ∧ n ≤ 4398046510976 ∧ (a = none → n = 0 ∧ c = 0) := by
  obtain ⟨fuel, hf⟩ := h
  obtain ⟨a', n', c', L, e, k⟩ := trod_sets hf hz
  simp [Value.cells] at e
  obtain ⟨rfl, rfl, rfl⟩ := e
  exact ⟨L, k⟩
end Go.Proofs.YtbendkndnojihaaDoor
