/-
  PATTERNS THAT ARE HANDED IN, of any size.
-/
import Derived.Test.YtdcdgojcboinaaaSa3
import Derived.Test.YtdcdgojcboinaaaRows
import Derived.ProofKit
import Derived.OpenShut
import Derived.ShutString
import Derived.ChangeOld
import Derived.Below
import Derived.SizedLaws
namespace Go.Proofs.Ytdcdgojcboinaaa
open Go.ChangeShapes Go.WideShapes Go.ChangeAt Go.RowKit Go.Deep
set_option linter.unusedVariables false

theorem law_bytesI : Try.prog.bytesOf 3 = 8 := by kernel_rfl
theorem law_cellsI : Try.prog.cellsOf 3 = 1 := by kernel_rfl
theorem law_cellsIs : Try.prog.cellsOf 22 = 1 := by kernel_rfl
theorem law_cellsP : Try.prog.cellsOf 24 = 4 := by kernel_rfl
theorem trod_s4 {H : Type} {enc : TypeId × Value → H} {P : Program} {w : World} {base : Nat} {spare : Nat → Bool} {held : Bool} {t : TypeId} {f0 f1 f2 f3 : Field} {fuel : Nat} {cs : List Value} {x : DataW H × List MemPlace} (ht : P.underlying t = some (.struct #[f0, f1, f2, f3])) (h : DataW.trod enc P w base spare held fuel t cs = some x) :
    ∃ y0 y1 y2 y3 n, x = (.agg [y0.1, y1.1, y2.1, y3.1], y0.2 ++ (y1.2 ++ (y2.2 ++ y3.2))) ∧ cs.length = P.cellsOf t ∧ DataW.trod enc P w base spare held n f0.type ((cs.drop f0.offset).take (P.cellsOf f0.type)) = some y0 ∧
      DataW.trod enc P w base spare held n f1.type ((cs.drop f1.offset).take (P.cellsOf f1.type)) = some y1 ∧ DataW.trod enc P w base spare held n f2.type ((cs.drop f2.offset).take (P.cellsOf f2.type)) = some y2 ∧ DataW.trod enc P w base spare held n f3.type ((cs.drop f3.offset).take (P.cellsOf f3.type)) = some y3 := by
  obtain ⟨xs, n, _, rfl, hl, hlen, hf⟩ := DataW.trod_struct ht h
  match xs, hlen with
  | [y0, y1, y2, y3], _ => exact ⟨y0, y1, y2, y3, n, by simp, hl, by simpa using hf 0 f0 rfl, by simpa using hf 1 f1 rfl, by simpa using hf 2 f2 rfl, by simpa using hf 3 f3 rfl⟩
/-- A list of whole numbers that is handed in. -/
theorem trod_intsZ {H : Type} {enc : TypeId × Value → H} {W : World} {fuel : Nat} {cs : List Value} {x : DataW H × List MemPlace}
    (h : DataW.trod enc Try.prog W 0 (fun _ => true) true fuel 22 cs = some x) (hz : ∀ k ∈ x.1.weights Try.prog 22, k ≤ reachBytes) :
    ∃ a n c xs, cs = [.slice a n c] ∧ SlI W a n c xs ∧ n ≤ 17592186044000 := by
  rcases open_ints Try.underlying22 Try.underlying3 law_cellsI h with ⟨rfl, _⟩ | ⟨y, n, c, zs, rfl, _, hl, hm, hzl, rfl, hcell, hwz⟩
  · exact ⟨none, 0, 0, [], rfl, SlI.nil _, Nat.zero_le _⟩
  · have hzl' : zs.length = c := by simpa using hzl
    have hb := hz (((lits (H := H) .i64 (zs.take n)).length + (lits (H := H) .i64 (zs.drop n)).length) * Try.prog.bytesOf 3) (by simp [DataW.weights, Try.underlying22])
    have hlen : (lits (H := H) .i64 (zs.take n)).length + (lits (H := H) .i64 (zs.drop n)).length = c := by
      simp [lits]; omega
    rw [hlen, law_bytesI] at hb
    unfold reachBytes at hb
    refine ⟨some y, n, c, zs.take n, rfl, ⟨by simp; omega, hl, hm, ?_⟩, by omega⟩
    by_cases h0 : n = 0
    · left; subst h0; simp
    · right
      obtain ⟨b, off, spot⟩ := y
      have c0 := hcell 0 (by omega)
      have hspot : spot = none := by simpa [Addr.add] using World.cell?_spot c0
      subst hspot
      refine ⟨b, off, rfl, ?_⟩
      intro i hi
      have hi' : i < n := by simp at hi; omega
      have e : (⟨b, off, none⟩ : Addr).add i = ⟨b, off + i, none⟩ := by unfold Addr.add; split <;> simp_all
      have hzi := hcell i (by omega)
      rw [e] at hzi
      rw [hzi]
      have e2 : (zs.take n).getD i 0 = zs.getD i 0 := by
        simp [List.getD, hi', show i < zs.length from by omega]
      rw [e2]
/-- A pattern's parts. -/
structure PatZ (W : World) (a1 : Option Addr) (n1 c1 : Nat) (st : List Int) (a2 : Option Addr) (n2 c2 : Nat) (cols : List Int) : Prop where
  h1 : SlI W a1 n1 c1 st
  h2 : SlI W a2 n2 c2 cols
  l1 : n1 ≤ 17592186044000
  l2 : n2 ≤ 17592186044000
set_option maxRecDepth 100000 in
theorem trod_patZ {H : Type} {enc : TypeId × Value → H} {W : World} {fuel : Nat} {cs : List Value} {x : DataW H × List MemPlace}
    (h : DataW.trod enc Try.prog W 0 (fun _ => true) true fuel 24 cs = some x) (hz : ∀ k ∈ x.1.weights Try.prog 24, k ≤ reachBytes) :
    ∃ rows width a1 n1 c1 st a2 n2 c2 cols, cs = [.int .i64 rows, .int .i64 width, .slice a1 n1 c1, .slice a2 n2 c2] ∧ PatZ W a1 n1 c1 st a2 n2 c2 cols := by
  obtain ⟨y0, y1, y2, y3, k, rfl, hl, h0, h1, h2, h3⟩ := trod_s4 Try.underlying24 h
  rw [law_cellsP] at hl
  match cs, hl with
  | [c0, c1, c2, c3], _ =>
    simp only [List.drop_zero, List.drop_succ_cons, law_cellsI, law_cellsIs, List.take_succ_cons, List.take_zero] at h0 h1 h2 h3
    obtain ⟨r, e0, _⟩ := DataW.trod_int Try.underlying3 h0
    obtain ⟨wd, e1, _⟩ := DataW.trod_int Try.underlying3 h1
    obtain ⟨a1, n1, d1, st, e2, k1, k2⟩ := trod_intsZ h2 (fun k hk => hz k (by simp [DataW.weights, DataW.weightsEach, Try.underlying24, hk]))
    obtain ⟨a2, n2, d2, cols, e3, k3, k4⟩ := trod_intsZ h3 (fun k hk => hz k (by simp [DataW.weights, DataW.weightsEach, Try.underlying24, hk]))
    cases e0
    cases e1
    cases e2
    cases e3
    exact ⟨r, wd, a1, n1, d1, st, a2, n2, d2, cols, rfl, ⟨k1, k3, k2, k4⟩⟩
set_option maxRecDepth 100000 in
theorem arg_patZ {H : Type} {enc : TypeId × Value → H} {W : World} {v : Value} {d : DataW H} {p : List MemPlace} {r : Reach} {b0 : Nat}
    (hv : Value.okWide Try.prog W r b0 24 v) (h : DataW.Trod enc Try.prog W 0 (fun _ => true) true 24 v d p) (hz : ∀ k ∈ d.weights Try.prog 24, k ≤ reachBytes) :
    ∃ rows width a1 n1 c1 st a2 n2 c2 cols, v = patV rows width a1 n1 c1 a2 n2 c2 ∧ PatZ W a1 n1 c1 st a2 n2 c2 cols := by
  obtain ⟨cs, rfl, hsz⟩ := okWide_struct Try.underlying24 hv
  obtain ⟨fuel, hf⟩ := h
  obtain ⟨rows, width, a1, n1, c1, st, a2, n2, c2, cols, e, k⟩ := trod_patZ hf hz
  have hcs : (Value.agg cs).cells.toList = cs.toList := by simp [Value.cells]
  rw [hcs] at e
  refine ⟨rows, width, a1, n1, c1, st, a2, n2, c2, cols, ?_, k⟩
  unfold patV
  congr 1
  apply Array.ext'
  simpa using e
end Go.Proofs.Ytdcdgojcboinaaa
