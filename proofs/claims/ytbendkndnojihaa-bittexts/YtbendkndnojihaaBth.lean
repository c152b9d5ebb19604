/-
  SETS THAT ARE HANDED IN.
-/
import Derived.Test.YtbendkndnojihaaBt8
namespace Go.Proofs.Ytbendkndnojihaa
open Go.ChangeShapes Go.WideShapes Go.ChangeAt Go.RowKit Go.Deep
set_option linter.unusedVariables false

def OkW (xs : List Nat) : Prop := ∀ x ∈ xs, x < 18446744073709551616
theorem law_bytesW : Try.prog.bytesOf 66 = 8 := by kernel_rfl
theorem law_cellsW : Try.prog.cellsOf 66 = 1 := by kernel_rfl
theorem law_cellsWs : Try.prog.cellsOf 22 = 1 := by kernel_rfl
theorem law_cellsS : Try.prog.cellsOf 24 = 2 := by kernel_rfl

theorem trod_words {H : Type} {enc : TypeId × Value → H} {W : World} {fuel : Nat} {cs : List Value} {x : DataW H × List MemPlace}
    (h : DataW.trod enc Try.prog W 0 (fun _ => true) true fuel 22 cs = some x) (hz : ∀ k ∈ x.1.weights Try.prog 22, k ≤ reachBytes) :
    ∃ a n c xs, cs = [.slice a n c] ∧ SlW W a n c xs ∧ OkW xs ∧ n ≤ 17592186043904 ∧ (a = none → n = 0 ∧ c = 0) := by
  rcases open_ints Try.underlying22 Try.underlying66 law_cellsW h with ⟨rfl, _⟩ | ⟨y, n, c, zs, rfl, _, hl, hm, hzl, rfl, hcell, hwz⟩
  · exact ⟨none, 0, 0, [], rfl, SlG.nil _, (fun x hx => by cases hx), Nat.zero_le _, fun _ => ⟨rfl, rfl⟩⟩
  · have hzl' : zs.length = c := by simpa using hzl
    have hb := hz (((lits (H := H) .u64 (zs.take n)).length + (lits (H := H) .u64 (zs.drop n)).length) * Try.prog.bytesOf 66) (by simp [DataW.weights, Try.underlying22])
    have hlen : (lits (H := H) .u64 (zs.take n)).length + (lits (H := H) .u64 (zs.drop n)).length = c := by
      simp [lits]; omega
    rw [hlen, law_bytesW] at hb
    unfold reachBytes at hb
    refine ⟨some y, n, c, (zs.take n).map Int.toNat, rfl, ⟨by simp; omega, hl, hm, ?_⟩, fun z hzz => ?_, by omega, fun h => by cases h⟩
    · by_cases h0 : n = 0
      · left; subst h0; simp
      · right
        obtain ⟨b, off, spot⟩ := y
        have c0 := hcell 0 (by omega)
        have hspot : spot = none := by simpa [Addr.add] using World.cell?_spot c0
        subst hspot
        refine ⟨b, off, rfl, ?_⟩
        intro i hi
        have hi' : i < n := by simp at hi; omega
        have hzi := hcell i (by omega)
        rw [addr_add] at hzi
        rw [hzi]
        have hmem : zs.getD i 0 ∈ zs := by
          have : zs.getD i 0 = zs[i]'(by omega) := by simp [List.getD, show i < zs.length from by omega]
          rw [this]; exact List.getElem_mem _
        have r := bounds_u64 (hwz _ hmem)
        have e2 : ((zs.take n).map Int.toNat).getD i 0 = (zs.getD i 0).toNat := by
          simp [List.getD, hi', show i < zs.length from by omega]
        rw [e2]
        unfold vU
        congr 2
        omega
    · obtain ⟨u, hu, rfl⟩ := List.mem_map.1 hzz
      have := bounds_u64 (hwz u (List.mem_of_mem_take hu))
      omega

set_option maxRecDepth 100000 in
/-- A set, out of its cells. -/
theorem trod_set {H : Type} {enc : TypeId × Value → H} {W : World} {fuel : Nat} {cs : List Value} {x : DataW H × List MemPlace}
    (h : DataW.trod enc Try.prog W 0 (fun _ => true) true fuel 24 cs = some x) (hz : ∀ k ∈ x.1.weights Try.prog 24, k ≤ reachBytes) :
    ∃ s a n c xs, cs = [.int .i64 s, .slice a n c] ∧ -9223372036854775808 ≤ s ∧ s ≤ 9223372036854775807 ∧ SlW W a n c xs ∧ OkW xs ∧ n ≤ 17592186043904 ∧ (a = none → n = 0 ∧ c = 0) := by
  obtain ⟨y0, y1, m, rfl, hl, h0, h1⟩ := trod_struct2 Try.underlying24 h
  rw [law_cellsS] at hl
  match cs, hl with
  | [c0, c1], _ =>
    simp only [List.drop_zero, List.drop_succ_cons, law_cellsI, law_cellsWs, List.take_succ_cons, List.take_zero] at h0 h1
    obtain ⟨s, e0, rfl, hw⟩ := DataW.trod_int Try.underlying3 h0
    obtain ⟨a, n, c, xs, e1, k1, k2, k3, k4⟩ := trod_words h1 (fun k hk => hz k (by simp [DataW.weights, DataW.weightsEach, Try.underlying24, hk]))
    cases e0
    cases e1
    exact ⟨s, a, n, c, xs, rfl, (bounds_i64 hw).1, (bounds_i64 hw).2, k1, k2, k3, k4⟩

set_option maxRecDepth 100000 in
theorem arg_set {H : Type} {enc : TypeId × Value → H} {W : World} {v : Value} {d : DataW H} {p : List MemPlace} {r : Reach} {b0 : Nat}
    (hv : Value.okWide Try.prog W r b0 24 v) (h : DataW.Trod enc Try.prog W 0 (fun _ => true) true 24 v d p) (hz : ∀ k ∈ d.weights Try.prog 24, k ≤ reachBytes) :
    ∃ s a n c xs, v = setV s a n c ∧ -9223372036854775808 ≤ s ∧ s ≤ 9223372036854775807 ∧ SlW W a n c xs ∧ OkW xs ∧ n ≤ 17592186043904 ∧ (a = none → n = 0 ∧ c = 0) := by
  obtain ⟨cs, rfl, hsz⟩ := okWide_struct Try.underlying24 hv
  obtain ⟨fuel, hf⟩ := h
  obtain ⟨s, a, n, c, xs, e, k⟩ := trod_set hf hz
  refine ⟨s, a, n, c, xs, ?_, k⟩
  unfold setV
  congr 1
  apply Array.ext'
  simpa [Value.cells] using e
end Go.Proofs.Ytbendkndnojihaa
