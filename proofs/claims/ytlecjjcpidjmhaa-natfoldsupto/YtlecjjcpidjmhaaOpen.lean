/-
  HOW THE LAWS' ARGUMENTS ARE OPENED.
-/
import Derived.Test.YtlecjjcpidjmhaaLawSt
import Derived.ProofKit
import Derived.OpenShut
import Derived.ShutString
import Derived.ChangeOld
import Derived.Below
import Derived.SizedLaws
namespace Go.Proofs.Ytlecjjcpidjmhaa
open Go.ChangeShapes Go.WideShapes Go.ChangeAt Go.RowKit Go.Deep
set_option linter.unusedVariables false

theorem law_own : ownKnob Try.prog.godebug = none := by kernel_rfl
theorem law_laid : laidOutB Try.prog = true := by kernel_rfl
theorem law_bytes : Try.prog.bytesOf 77 = 4 := by kernel_rfl
theorem law_cells : Try.prog.cellsOf 77 = 1 := by kernel_rfl

theorem arg_limbs {H : Type} {enc : TypeId × Value → H} {W : World} {a : Option Addr} {n c : Nat} {d : DataW H} {p : List MemPlace}
    (h : DataW.Trod enc Try.prog W 0 (fun _ => true) true 23 (.slice a n c) d p) (hz : ∀ el sp, d = .slice el sp → (el.length + sp.length) * Try.prog.bytesOf 77 ≤ reachBytes) :
    ∃ xs, Sl W a n c xs ∧ Ok xs ∧ n ≤ 35184372088000 := by
  obtain ⟨fuel, hf⟩ := h
  rcases open_ints Try.underlying23 Try.underlying77 law_cells hf with ⟨hcs, _⟩ | ⟨x, l, k, zs, hcs, _, hl, hm, hzl, hx, hcell, hwz⟩
  · simp [Value.cells] at hcs
    obtain ⟨rfl, rfl, rfl⟩ := hcs
    exact ⟨[], ⟨rfl, Nat.le_refl _, Nat.zero_le _, .inl rfl⟩, Ok.nil, Nat.zero_le _⟩
  · simp [Value.cells] at hcs
    obtain ⟨rfl, rfl, rfl⟩ := hcs
    have hzl' : zs.length = c := by simpa using hzl
    have hd : d = .slice (lits .u32 (zs.take n)) (lits .u32 (zs.drop n)) := by injection hx
    have hb := hz _ _ hd
    have hlen : (lits (H := H) .u32 (zs.take n)).length + (lits (H := H) .u32 (zs.drop n)).length = c := by
      simp [lits]; omega
    rw [hlen, law_bytes] at hb
    unfold reachBytes at hb
    have hr : ∀ i, i < c → 0 ≤ zs.getD i 0 ∧ zs.getD i 0 ≤ 4294967295 := by
      intro i hi
      have hm2 : zs.getD i 0 ∈ zs := by
        have : zs.getD i 0 = zs[i]'(by omega) := by simp [List.getD, show i < zs.length from by omega]
        rw [this]; exact List.getElem_mem _
      exact bounds_u32 (hwz _ hm2)
    refine ⟨(zs.take n).map Int.toNat, ?_, ?_, by omega⟩
    · refine ⟨by simp; omega, hl, hm, ?_⟩
      by_cases h0 : n = 0
      · left; subst h0; simp
      · right
        obtain ⟨b, off, spot⟩ := x
        have c0 := hcell 0 (by omega)
        have hspot : spot = none := by simpa [Addr.add] using World.cell?_spot c0
        subst hspot
        refine ⟨b, off, rfl, ?_⟩
        intro i hi
        have hi' : i < n := by simp at hi; omega
        have e : (⟨b, off, none⟩ : Addr).add i = ⟨b, off + i, none⟩ := by unfold Addr.add; split <;> simp_all
        have := hcell i (by omega)
        rw [e] at this
        rw [this]
        have r := hr i (by omega)
        have e2 : ((zs.take n).map Int.toNat).getD i 0 = (zs.getD i 0).toNat := by
          simp [List.getD, hi', show i < zs.length from by omega]
        rw [e2]
        congr 2
        omega
    · intro y hy
      obtain ⟨z, hz1, rfl⟩ := List.mem_map.1 hy
      have := bounds_u32 (hwz z (List.mem_of_mem_take hz1))
      omega
end Go.Proofs.Ytlecjjcpidjmhaa
