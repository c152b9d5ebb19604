/-
  LISTS OF SETS THAT ARE HANDED IN.
-/
import Derived.Test.YtbendkndnojihaaBtv
namespace Go.Proofs.Ytbendkndnojihaa
open Go.ChangeShapes Go.WideShapes Go.ChangeAt Go.RowKit Go.Deep
set_option linter.unusedVariables false

theorem law_bytesS : Try.prog.bytesOf 24 = 32 := by kernel_rfl
theorem weightsAll_mem {H : Type} {P : Program} {e : TypeId} : ∀ {l : List (DataW H)} {d : DataW H} {k : Nat}, d ∈ l → k ∈ d.weights P e → k ∈ DataW.weightsAll P e l
  | [], d, k, h, _ => by cases h
  | x :: l, d, k, h, hk => by
    rcases List.mem_cons.1 h with rfl | h
    · simp [DataW.weightsAll, hk]
    · simp [DataW.weightsAll, weightsAll_mem h hk]

set_option maxRecDepth 100000 in
/-- A list of sets, out of its cells. -/
theorem trod_sets {H : Type} {enc : TypeId × Value → H} {W : World} {fuel : Nat} {cs : List Value} {x : DataW H × List MemPlace}
    (h : DataW.trod enc Try.prog W 0 (fun _ => true) true fuel 25 cs = some x) (hz : ∀ k ∈ x.1.weights Try.prog 25, k ≤ reachBytes) :
    ∃ a n c L, cs = [.slice a n c] ∧ SlS W a n c L ∧ (∀ e ∈ L, e.Arg) ∧ n ≤ 4398046510976 ∧ (a = none → n = 0 ∧ c = 0) := by
  rcases DataW.trod_slice Try.underlying25 h with ⟨rfl, _⟩ | ⟨a, n, c, elems, rest, m, _, rfl, rfl, hb, hl, hm, hlen, hel, hsp, hns⟩
  · exact ⟨none, 0, 0, [], rfl, ⟨rfl, Nat.le_refl _, Nat.zero_le _, .inl rfl, fun e he => by cases he⟩, (fun e he => by cases he), Nat.zero_le _, fun _ => ⟨rfl, rfl⟩⟩
  · have hbnd := hz ((elems.length + rest.length) * Try.prog.bytesOf 24) (by simp [DataW.weights, Try.underlying25])
    rw [law_bytesS] at hbnd
    unfold reachBytes at hbnd
    by_cases h0 : n = 0
    · subst h0
      exact ⟨some a, 0, c, [], rfl, ⟨rfl, hl, hm, .inl rfl, fun e he => by cases he⟩, (fun e he => by cases he), Nat.zero_le _, fun h => by cases h⟩
    · have hspot : ∃ b off, a = ⟨b, off, none⟩ := by
        have h1 := hel 0 (by omega)
        rw [law_cellsS] at h1
        rw [List.getElem?_eq_getElem (by omega), Option.bind_eq_some_iff] at h1
        obtain ⟨cs', hcs, hy⟩ := h1
        have hh := World.cells?_some hcs
        have hc0 := hh.2.2 0 (by decide)
        rw [List.getElem?_eq_getElem (by rw [hh.2.1]; decide)] at hc0
        obtain ⟨b, off, spot⟩ := a
        have := World.cell?_spot hc0
        have hs : spot = none := by simpa [Addr.add] using this
        subst hs
        exact ⟨b, off, rfl⟩
      obtain ⟨b, off, rfl⟩ := hspot
      have each : ∀ i, i < n → ∃ e : SetC, W.cell? ⟨b, off + i * 2, none⟩ = some (.int .i64 e.s) ∧ W.cell? ⟨b, off + i * 2 + 1, none⟩ = some (.slice e.a e.n e.c) ∧ e.In W ∧ e.Arg := by
        intro i hi
        have h1 := hel i hi
        rw [law_cellsS] at h1
        rw [List.getElem?_eq_getElem (by omega), Option.bind_eq_some_iff] at h1
        obtain ⟨cs', hcs, hy⟩ := h1
        obtain ⟨s, ea, en, ec, exs, rfl, _, _, k1, k2, k3, k4⟩ := trod_set hy (fun k hk => hz k (by
          simp only [DataW.weights, Try.underlying25]
          refine List.mem_cons_of_mem _ (List.mem_append_left _ (weightsAll_mem (d := (elems[i]'(by omega)).1) ?_ hk))
          exact List.mem_map.2 ⟨_, List.getElem_mem _, rfl⟩))
        have hh := World.cells?_some hcs
        refine ⟨⟨s, ea, en, ec, exs⟩, ?_, ?_, ⟨k1, k2⟩, ⟨k3, k4⟩⟩
        · have := hh.2.2 0 (by decide)
          rw [addr_add, addr_add] at this
          simpa using this
        · have := hh.2.2 1 (by decide)
          rw [addr_add, addr_add] at this
          simpa using this
      have hch : ∃ f : Nat → SetC, ∀ i, i < n → W.cell? ⟨b, off + i * 2, none⟩ = some (.int .i64 (f i).s) ∧ W.cell? ⟨b, off + i * 2 + 1, none⟩ = some (.slice (f i).a (f i).n (f i).c) ∧ (f i).In W ∧ (f i).Arg := by
        refine ⟨fun i => if h : i < n then Classical.choose (each i h) else .nul, fun i hi => ?_⟩
        simp only [hi, dif_pos]
        exact Classical.choose_spec (each i hi)
      obtain ⟨f, hf⟩ := hch
      refine ⟨_, n, c, lstG f n, rfl, ⟨lstG_len f n, hl, hm, .inr ⟨b, off, rfl, fun i hi => ?_⟩, fun e he => ?_⟩, fun e he => ?_, by omega, fun h => by cases h⟩
      · rw [lstG_len] at hi
        rw [lstG_getD f n i _ hi]
        exact ⟨(hf i hi).1, (hf i hi).2.1⟩
      · obtain ⟨i, hi, rfl⟩ := List.mem_map.1 he
        exact (hf i (List.mem_range.1 hi)).2.2.1
      · obtain ⟨i, hi, rfl⟩ := List.mem_map.1 he
        exact (hf i (List.mem_range.1 hi)).2.2.2

theorem arg_sets {H : Type} {enc : TypeId × Value → H} {W : World} {a : Option Addr} {n c : Nat} {d : DataW H} {p : List MemPlace}
    (h : DataW.Trod enc Try.prog W 0 (fun _ => true) true 25 (.slice a n c) d p) (hz : ∀ k ∈ d.weights Try.prog 25, k ≤ reachBytes) :
    ∃ L, SlS W a n c L ∧ (∀ e ∈ L, e.Arg) ∧ n ≤ 4398046510976 ∧ (a = none → n = 0 ∧ c = 0) := by
  obtain ⟨fuel, hf⟩ := h
  obtain ⟨a', n', c', L, e, k⟩ := trod_sets hf hz
  simp [Value.cells] at e
  obtain ⟨rfl, rfl, rfl⟩ := e
  exact ⟨L, k⟩
end Go.Proofs.Ytbendkndnojihaa
