/-
  COLOURS: slopelaw12.alive: contract.
-/
import Derived.Test.YtkbcmnjgkmkeaaaGreatChg
import Derived.Test.YtkbcmnjgkmkeaaaGreatCgj
import Derived.Test.YtkbcmnjgkmkeaaaGreatSa3
import Derived.Test.YtkbcmnjgkmkeaaaGreatRows
import Derived.ProofKit
import Derived.OpenShut
import Derived.ShutString
import Derived.ChangeOld
import Derived.Below
import Derived.SizedLaws
namespace Go.Proofs.YtkbcmnjgkmkeaaaGreat
open Go.RowKit Go.Deep
set_option linter.unusedVariables false

theorem numCirc {z : Nat} (h : NumC (csL (updC (updC (updC (updC (fun _ => -1) 0 0) 1 1) 2 0) 3 2) 4) (z : Int)) : z = 3 := by
  have k : MaxTo (-1 :: csL (updC (updC (updC (updC (fun _ => -1) 0 0) 1 1) 2 0) 3 2) 4) ((csL (updC (updC (updC (updC (fun _ => -1) 0 0) 1 1) 2 0) 3 2) 4).length + 1) 2 := ⟨⟨4, by decide, by decide⟩, by decide⟩
  have := MaxTo.one h k
  omega
set_option maxRecDepth 100000 in
set_option maxHeartbeats 8000000 in
/-- slopelaw12.alive. -/
theorem calive_any (w : World) :
    Calls Tryz.prog 9 #[] w fun e w' => e = .returned (.bool true) ∧ Below w.heap.size w w' := by
  go_enter Tryz.func9, Tryz.ntmps9
  go_wp2_with fail
  refine (ccircle_any w).mono ?_
  rintro _ w1 ⟨s, c, rfl, hs, hc, b1⟩
  have so := SlI.made w1 ordC 3 (by decide)
  have b2 : Below w1.heap.size w1 (w1.alloc (.cells (ordC.map (fun x => Value.int .i64 x)).toArray 3)) := (Below.refl _ _).alloc (Nat.le_refl _) _
  have KG := hide (cgreedy_star 4 _ _ _ 5 5 8 8 4 stC colsC ordC _ (hs.below b2) (hc.below b2) so (by omega) (by omega) mayC graC ordC_ord)
  have HB2 := hide (b1.trans (b2.mono b1.size))
  clear hs hc so b1 b2
  unfold patV at *
  go_wp2_with fail
  refine (unhide KG).mono ?_
  rintro _ w3 ⟨g, cs, z, hA⟩
  have e3 := hA.ret
  subst e3
  have ecs := hA.pnt.one pntC
  have hz := hA.num
  rw [ecs] at hz
  have ez := numCirc hz
  subst ez
  have hrow := (hA.row.sli (by omega))
  rw [ecs] at hrow
  have HB3 := hide ((unhide HB2).trans (hA.bel.mono (unhide HB2).size))
  have HROW := hide (show SlI w3 (some ⟨g, 0, none⟩) 4 4 [0, 1, 0, 2] from hrow)
  clear hA ecs hz hrow KG
  go_wp2_with fail
  refine (ccircle_any w3).mono ?_
  rintro _ w4 ⟨s', c', rfl, hs, hc, b4⟩
  have b5 : Below w4.heap.size w4 (w4.alloc (.cells (ordC.map (fun x => Value.int .i64 x)).toArray 3)) := (Below.refl _ _).alloc (Nat.le_refl _) _
  have KG := hide (cgreedy_none 4 _ _ (some ⟨w4.heap.size, 0, none⟩) 5 5 8 8 4 4 stC colsC _ (hs.below b5) (hc.below b5) (by omega) (by omega) mayC)
  have b35 := b4.trans (b5.mono b4.size)
  have HR5 := hide ((unhide HROW).below b35)
  have HB5 := hide ((unhide HB3).trans (b35.mono (unhide HB3).size))
  clear hs hc b4 b5 b35 HROW
  unfold patV at *
  go_wp2_with fail
  refine (unhide KG).mono ?_
  rintro _ w6 ⟨rfl, b6⟩
  have HR6 := hide ((unhide HR5).below b6)
  have HB6 := hide ((unhide HB5).trans (b6.mono (unhide HB5).size))
  clear KG b6 HR5
  go_wp2_with ((go_at_call 7; refine (num12_any _ _).mono ?_; rintro _ _ ⟨rfl, rfl⟩))
  refine (sameInts_eq (some ⟨g, 0, none⟩) _ 4 4 4 [0, 1, 0, 2] _ ((unhide HR6).below ((Below.refl _ _).alloc (Nat.le_refl _) _)) (SlI.made _ [0, 1, 0, 2] 3 (by decide)) (by omega)).mono ?_
  rintro _ _ ⟨rfl, m, rfl⟩
  go_wp2_with ((go_at_call 7; refine (num12_any _ _).mono ?_; rintro _ _ ⟨rfl, hw⟩; subst hw))
  try go_ret
  exact ⟨rfl, bel_drewN ((unhide HB6).alloc (unhide HB6).size _) m⟩
end Go.Proofs.YtkbcmnjgkmkeaaaGreat

namespace Go.Proofs.YtkbcmnjgkmkeaaaGreat
open Go.ChangeShapes Go.WideShapes Go.ChangeAt Go.RowKit Go.Deep
set_option linter.unusedVariables false

theorem law_bytesI : Tryz.prog.bytesOf 3 = 8 := by kernel_rfl
theorem law_cellsI : Tryz.prog.cellsOf 3 = 1 := by kernel_rfl
theorem law_cellsIs : Tryz.prog.cellsOf 22 = 1 := by kernel_rfl
theorem law_cellsP : Tryz.prog.cellsOf 61 = 4 := by kernel_rfl
theorem trod_s4 {H : Type} {enc : TypeId × Value → H} {P : Program} {w : World} {base : Nat} {spare : Nat → Bool} {held : Bool} {t : TypeId} {f0 f1 f2 f3 : Field} {fuel : Nat} {cs : List Value} {x : DataW H × List MemPlace} (ht : P.underlying t = some (.struct #[f0, f1, f2, f3])) (h : DataW.trod enc P w base spare held fuel t cs = some x) :
    ∃ y0 y1 y2 y3 n, x = (.agg [y0.1, y1.1, y2.1, y3.1], y0.2 ++ (y1.2 ++ (y2.2 ++ y3.2))) ∧ cs.length = P.cellsOf t ∧ DataW.trod enc P w base spare held n f0.type ((cs.drop f0.offset).take (P.cellsOf f0.type)) = some y0 ∧
      DataW.trod enc P w base spare held n f1.type ((cs.drop f1.offset).take (P.cellsOf f1.type)) = some y1 ∧ DataW.trod enc P w base spare held n f2.type ((cs.drop f2.offset).take (P.cellsOf f2.type)) = some y2 ∧ DataW.trod enc P w base spare held n f3.type ((cs.drop f3.offset).take (P.cellsOf f3.type)) = some y3 := by
  obtain ⟨xs, n, _, rfl, hl, hlen, hf⟩ := DataW.trod_struct ht h
  match xs, hlen with
  | [y0, y1, y2, y3], _ => exact ⟨y0, y1, y2, y3, n, by simp, hl, by simpa using hf 0 f0 rfl, by simpa using hf 1 f1 rfl, by simpa using hf 2 f2 rfl, by simpa using hf 3 f3 rfl⟩
/-- A list of whole numbers that is handed in. -/
theorem trod_intsZ {H : Type} {enc : TypeId × Value → H} {W : World} {fuel : Nat} {cs : List Value} {x : DataW H × List MemPlace}
    (h : DataW.trod enc Tryz.prog W 0 (fun _ => true) true fuel 22 cs = some x) (hz : ∀ k ∈ x.1.weights Tryz.prog 22, k ≤ reachBytes) :
    ∃ a n c xs, cs = [.slice a n c] ∧ SlI W a n c xs ∧ n ≤ 17592186044000 := by
  rcases open_ints Tryz.underlying22 Tryz.underlying3 law_cellsI h with ⟨rfl, _⟩ | ⟨y, n, c, zs, rfl, _, hl, hm, hzl, rfl, hcell, hwz⟩
  · exact ⟨none, 0, 0, [], rfl, SlI.nil _, Nat.zero_le _⟩
  · have hzl' : zs.length = c := by simpa using hzl
    have hb := hz (((lits (H := H) .i64 (zs.take n)).length + (lits (H := H) .i64 (zs.drop n)).length) * Tryz.prog.bytesOf 3) (by simp [DataW.weights, Tryz.underlying22])
    have hlen : (lits (H := H) .i64 (zs.take n)).length + (lits (H := H) .i64 (zs.drop n)).length = c := by
      simp [lits]; omega
    rw [hlen, law_bytesI] at hb
    unfold reachBytes at hb
    refine ⟨some y, n, c, zs.take n, rfl, ⟨by simp; omega, hl, hm, ?_⟩, by omega⟩
    by_cases h0 : n = 0
    · left; subst h0; simp
    · right
      obtain ⟨b, off, spot⟩ := y
      have c0 := hcell 0 (by omega)
      have hspot : spot = none := by simpa [Addr.add] using World.cell?_spot c0
      subst hspot
      refine ⟨b, off, rfl, ?_⟩
      intro i hi
      have hi' : i < n := by simp at hi; omega
      have e : (⟨b, off, none⟩ : Addr).add i = ⟨b, off + i, none⟩ := by unfold Addr.add; split <;> simp_all
      have hzi := hcell i (by omega)
      rw [e] at hzi
      rw [hzi]
      have e2 : (zs.take n).getD i 0 = zs.getD i 0 := by
        simp [List.getD, hi', show i < zs.length from by omega]
      rw [e2]
/-- A pattern's parts. -/
structure PatZ (W : World) (a1 : Option Addr) (n1 c1 : Nat) (st : List Int) (a2 : Option Addr) (n2 c2 : Nat) (cols : List Int) : Prop where
  h1 : SlI W a1 n1 c1 st
  h2 : SlI W a2 n2 c2 cols
  l1 : n1 ≤ 17592186044000
  l2 : n2 ≤ 17592186044000
set_option maxRecDepth 100000 in
theorem trod_patZ {H : Type} {enc : TypeId × Value → H} {W : World} {fuel : Nat} {cs : List Value} {x : DataW H × List MemPlace}
    (h : DataW.trod enc Tryz.prog W 0 (fun _ => true) true fuel 61 cs = some x) (hz : ∀ k ∈ x.1.weights Tryz.prog 61, k ≤ reachBytes) :
    ∃ rows width a1 n1 c1 st a2 n2 c2 cols, cs = [.int .i64 rows, .int .i64 width, .slice a1 n1 c1, .slice a2 n2 c2] ∧ PatZ W a1 n1 c1 st a2 n2 c2 cols := by
  obtain ⟨y0, y1, y2, y3, k, rfl, hl, h0, h1, h2, h3⟩ := trod_s4 Tryz.underlying61 h
  rw [law_cellsP] at hl
  match cs, hl with
  | [c0, c1, c2, c3], _ =>
    simp only [List.drop_zero, List.drop_succ_cons, law_cellsI, law_cellsIs, List.take_succ_cons, List.take_zero] at h0 h1 h2 h3
    obtain ⟨r, e0, _⟩ := DataW.trod_int Tryz.underlying3 h0
    obtain ⟨wd, e1, _⟩ := DataW.trod_int Tryz.underlying3 h1
    obtain ⟨a1, n1, d1, st, e2, k1, k2⟩ := trod_intsZ h2 (fun k hk => hz k (by simp [DataW.weights, DataW.weightsEach, Tryz.underlying61, hk]))
    obtain ⟨a2, n2, d2, cols, e3, k3, k4⟩ := trod_intsZ h3 (fun k hk => hz k (by simp [DataW.weights, DataW.weightsEach, Tryz.underlying61, hk]))
    cases e0
    cases e1
    cases e2
    cases e3
    exact ⟨r, wd, a1, n1, d1, st, a2, n2, d2, cols, rfl, ⟨k1, k3, k2, k4⟩⟩
set_option maxRecDepth 100000 in
theorem arg_patZ {H : Type} {enc : TypeId × Value → H} {W : World} {v : Value} {d : DataW H} {p : List MemPlace} {r : Reach} {b0 : Nat}
    (hv : Value.okWide Tryz.prog W r b0 61 v) (h : DataW.Trod enc Tryz.prog W 0 (fun _ => true) true 61 v d p) (hz : ∀ k ∈ d.weights Tryz.prog 61, k ≤ reachBytes) :
    ∃ rows width a1 n1 c1 st a2 n2 c2 cols, v = patV rows width a1 n1 c1 a2 n2 c2 ∧ PatZ W a1 n1 c1 st a2 n2 c2 cols := by
  obtain ⟨cs, rfl, hsz⟩ := okWide_struct Tryz.underlying61 hv
  obtain ⟨fuel, hf⟩ := h
  obtain ⟨rows, width, a1, n1, c1, st, a2, n2, c2, cols, e, k⟩ := trod_patZ hf hz
  have hcs : (Value.agg cs).cells.toList = cs.toList := by simp [Value.cells]
  rw [hcs] at e
  refine ⟨rows, width, a1, n1, c1, st, a2, n2, c2, cols, ?_, k⟩
  unfold patV
  congr 1
  apply Array.ext'
  simpa using e
end Go.Proofs.YtkbcmnjgkmkeaaaGreat
