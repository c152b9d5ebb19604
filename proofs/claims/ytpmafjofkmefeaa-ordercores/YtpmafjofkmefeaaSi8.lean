/-
  ORDERS: a path of three vertices, plain; slopelaw11.alive: contract.
-/
import Derived.Test.YtpmafjofkmefeaaCpg
import Derived.Test.YtpmafjofkmefeaaCo2
import Derived.Test.YtpmafjofkmefeaaSa3
import Derived.Test.YtpmafjofkmefeaaRows
import Derived.ProofKit
import Derived.OpenShut
import Derived.ShutString
import Derived.ChangeOld
import Derived.Below
import Derived.SizedLaws
import Derived.Test.YtpmafjofkmefeaaSi4
namespace Go.Proofs.Ytpmafjofkmefeaa
open Go.Shelf Go.RowKit Go.Deep
set_option linter.unusedVariables false

def stT : List Int := [0, 1, 3, 4]
def colsT : List Int := [1, 0, 2, 1]
theorem mayT3 : MayP (3 : Nat) (3 : Nat) stT colsT := by
  refine ⟨⟨by decide, by decide, by decide, by decide⟩, fun i _ hi => ?_, fun r hr => ?_⟩
  · have h : ∀ i, i < 3 → stT.getD i 0 ≤ stT.getD (i + 1) 0 := by decide
    exact h i (by simp [stT] at hi; omega)
  · have h1 : ∀ r, r < 3 → ∀ i, i < 4 → (stT.getD r 0).toNat ≤ i → i < (stT.getD (r + 1) 0).toNat → 0 ≤ colsT.getD i 0 ∧ colsT.getD i 0 < 3 := by decide
    have h2 : ∀ r, r < 3 → ∀ i, i < 4 → (stT.getD r 0).toNat < i → i < (stT.getD (r + 1) 0).toNat → colsT.getD (i - 1) 0 < colsT.getD i 0 := by decide
    have h3 : ∀ r, r < 3 → (stT.getD (r + 1) 0).toNat ≤ 4 := by decide
    have hr4 : r < 3 := by simp [stT] at hr; omega
    have := h3 r hr4
    exact ⟨fun i a b => h1 r hr4 i (by omega) a b, fun i a b => h2 r hr4 i (by omega) a b⟩
theorem graT3 : GraP stT colsT 3 3 := by
  refine ⟨rfl, fun u v hu hv h => ?_, fun ⟨r, hr, h⟩ => ?_⟩
  · have k : ∀ u, u < 3 → ∀ v, v < 3 → ((u : Nat) : Int) ∈ rowL stT colsT v → ((v : Nat) : Int) ∈ rowL stT colsT u := by decide
    exact (rowL_mem mayT3 hu).1 (k u hu v hv ((rowL_mem mayT3 hv).2 h))
  · have k : ∀ r, r < 3 → ¬ ((r : Nat) : Int) ∈ rowL stT colsT r := by decide
    exact k r hr ((rowL_mem mayT3 hr).2 h)
theorem degT3 : ∀ v, v < 3 → (rowL stT colsT v).length < 3 := by decide
def dgT (v : Nat) : Nat := (rowL stT colsT v).length
theorem peoT : ∀ k, k < 3 → PeO 3 (nbL stT colsT) dgT k := by
  have h1 : ∀ k, k < 3 → ∃ r, r < 3 ∧ (peS 3 (nbL stT colsT) dgT k).1 (brF 3 r) = false ∧ (peS 3 (nbL stT colsT) dgT k).2 (brF 3 r) < 3 := by decide
  have h2 : ∀ k, k < 3 → ∀ v, v < 3 → (peS 3 (nbL stT colsT) dgT k).2 v < 3 := by decide
  have h3 : ∀ k, k < 3 → (nbL stT colsT (peV 3 (nbL stT colsT) dgT k)).length ≤ 2 := by decide
  have h4 : ∀ k, k < 3 → ∀ i, i < 2 → ∀ u, u < 3 → (nbL stT colsT (peV 3 (nbL stT colsT) dgT k))[i]? = some u → peG 3 (nbL stT colsT) dgT k u = false → 1 ≤ peT 3 (nbL stT colsT) dgT k i u := by decide
  have h5 : ∀ k, k < 3 → ∀ u ∈ nbL stT colsT (peV 3 (nbL stT colsT) dgT k), u < 3 := by decide
  intro k hk
  refine ⟨h1 k hk, h2 k hk, fun i u hu hg => ?_⟩
  have hi := (List.getElem?_eq_some_iff.1 hu).1
  have := h3 k hk
  exact h4 k hk i (by omega) u (h5 k hk u (List.mem_of_getElem? hu)) hu hg
theorem corT : ∀ v, v < 3 → coF (peV 3 (nbL stT colsT) dgT) (peC 3 (nbL stT colsT) dgT) 3 v = 1 := by decide
def rfT (i : Nat) : Int := [1, 0, 2].getD i 0
theorem sorT : SoR 2 3 (fun i => ((rowL stT colsT i).length : Int)) rfT := by
  refine ⟨rfl, by omega, #[1, 0, 2], ?_, rfl, ?_⟩
  · have e : natF 2 = #[0, 1, 2] := by
      apply Array.ext
      · simp [natF]
      · intro i h1 h2
        have hi : i < 3 := by simpa using h2
        have : i = 0 ∨ i = 1 ∨ i = 2 := by omega
        rcases this with rfl | rfl | rfl <;> simp [natF]
    rw [e]
    unfold Sort.insertionSort
    rw [Sort.insOuter, if_pos (by decide), Sort.insOuter, if_pos (by decide), Sort.insOuter, if_neg (by decide)]
    decide
  · intro i hi
    have : i = 0 ∨ i = 1 ∨ i = 2 := by omega
    rcases this with rfl | rfl | rfl <;> rfl
theorem sli_made (w : World) (xs : List Int) (t : TypeId) (h : xs.length ≤ 128) : SlI (w.alloc (.cells (xs.map (fun x => Value.int .i64 x)).toArray t)) (some ⟨w.heap.size, 0, none⟩) xs.length xs.length xs := by
  refine ⟨rfl, Nat.le_refl _, by unfold maxLen; omega, .inr ⟨w.heap.size, 0, rfl, fun i hi => ?_⟩⟩
  rw [Nat.zero_add]
  exact (cell_of_block (alloc_block _ _) i).trans (by simp [List.getD, hi])
set_option maxRecDepth 100000 in
set_option maxHeartbeats 8000000 in
/-- slopelaw11.alive. -/
theorem oalive_any (w : World) :
    Calls Try.prog 9 #[] w fun e w' => e = .returned (.bool true) ∧ Below w.heap.size w w' := by
  go_enter Try.func9, Try.ntmps9
  go_wp2_with fail
  change Calls Try.prog 23 _ (((w.alloc (.cells (stT.map (fun x => Value.int .i64 x)).toArray 3)).alloc (.cells (colsT.map (fun x => Value.int .i64 x)).toArray 3)).alloc (.cells #[.int .i64 3, .int .i64 3, .slice (some ⟨w.heap.size, 0, none⟩) 4 4, .slice (some ⟨w.heap.size + 1, 0, none⟩) 4 4] 24)) _
  have s1 := sli_made w stT 3 (by decide)
  have b1 : Below w.heap.size w (w.alloc (.cells (stT.map (fun x => Value.int .i64 x)).toArray 3)) := (Below.refl _ _).alloc (Nat.le_refl _) _
  have e1 : (w.alloc (.cells (stT.map (fun x => Value.int .i64 x)).toArray 3)).heap.size = w.heap.size + 1 := by simp
  have s2 := sli_made (w.alloc (.cells (stT.map (fun x => Value.int .i64 x)).toArray 3)) colsT 3 (by decide)
  have b2 : Below (w.alloc (.cells (stT.map (fun x => Value.int .i64 x)).toArray 3)).heap.size (w.alloc (.cells (stT.map (fun x => Value.int .i64 x)).toArray 3)) ((w.alloc (.cells (stT.map (fun x => Value.int .i64 x)).toArray 3)).alloc (.cells (colsT.map (fun x => Value.int .i64 x)).toArray 3)) := (Below.refl _ _).alloc (Nat.le_refl _) _
  have e2 : ((w.alloc (.cells (stT.map (fun x => Value.int .i64 x)).toArray 3)).alloc (.cells (colsT.map (fun x => Value.int .i64 x)).toArray 3)).heap.size = w.heap.size + 1 + 1 := by simp
  have s1' := s1.below b2
  rw [e1] at s2
  have b12 := b1.trans (b2.mono b1.size)
  generalize hw2 : (w.alloc (.cells (stT.map (fun x => Value.int .i64 x)).toArray 3)).alloc (.cells (colsT.map (fun x => Value.int .i64 x)).toArray 3) = w2 at *
  have hT := BoxP.made w2 #[.int .i64 3, .int .i64 3, .slice (some ⟨w.heap.size, 0, none⟩) 4 4, .slice (some ⟨w.heap.size + 1, 0, none⟩) 4 4] 24
  have b3 : Below w2.heap.size w2 (w2.alloc (.cells #[.int .i64 3, .int .i64 3, .slice (some ⟨w.heap.size, 0, none⟩) 4 4, .slice (some ⟨w.heap.size + 1, 0, none⟩) 4 4] 24)) := (Below.refl _ _).alloc (Nat.le_refl _) _
  rw [e2] at hT
  have H1 := hide (s1'.below b3)
  have H2 := hide (s2.below b3)
  have HB := hide (b12.trans (b3.mono b12.size))
  clear s1 s2 b1 b2 e1 e2 s1' b12 b3 hw2
  generalize w2.alloc (.cells #[.int .i64 3, .int .i64 3, .slice (some ⟨w.heap.size, 0, none⟩) 4 4, .slice (some ⟨w.heap.size + 1, 0, none⟩) 4 4] 24) = w3 at *
  have HT := hide hT
  have K1 := oOrder_largest 2 3 (some ⟨w.heap.size, 0, none⟩) (some ⟨w.heap.size + 1, 0, none⟩) 4 4 4 4 stT colsT w3 (unhide H1) (unhide H2) (by omega) (by omega) mayT3 graT3 rfT sorT
  unfold patV at K1
  refine K1.mono ?_
  rintro _ w4 ⟨g4, hg4, rfl, hr4, b4⟩
  have K2 := odegen_any 3 (some ⟨w.heap.size, 0, none⟩) (some ⟨w.heap.size + 1, 0, none⟩) 4 4 4 4 stT colsT w4 ((unhide H1).below b4) ((unhide H2).below b4) (by omega) (by omega) mayT3 graT3 degT3 peoT (by omega)
  unfold patV at K2
  have hT4 := hT.below b4
  have p0 := (hT4.all 0 _ rfl).1
  have p1 := (hT4.all 1 _ rfl).1
  have p2 := (hT4.all 2 _ rfl).1
  have p3 := (hT4.all 3 _ rfl).1
  have HK2 := hide K2
  have HL := hide (show SlI w4 (some ⟨g4, 0, none⟩) 3 3 [1, 0, 2] from hr4.sl2 (by omega))
  have HB4 := hide ((unhide HB).trans (b4.mono (unhide HB).size))
  clear K1 K2 hr4 hT hT4 b4 hg4
  go_wp2_with fail
  refine (unhide HK2).mono ?_
  rintro _ w5 ⟨v, g5, hg5, rfl, hr5, hm5, b5⟩
  have ev : v = 1 := by
    have k : MaxTo (0 :: (List.range 3).map (fun i => (coF (peV 3 (nbL stT colsT) dgT) (peC 3 (nbL stT colsT) dgT) 3 i : Int))) (3 + 1) 1 := ⟨⟨1, by decide, by decide⟩, by decide⟩
    exact MaxTo.one hm5 k
  subst ev
  have HL5 := hide ((unhide HL).below b5)
  have HM5 := hide (show SlI w5 (some ⟨g5, 0, none⟩) 3 3 [1, 1, 1] from by
    have q : RoV w5 g5 3 (fun i => .int .i64 (1 : Int)) := hr5.congr (fun i hi => by have e := corT i hi; exact congrArg (fun z : Nat => Value.int .i64 (z : Int)) e)
    exact q.sl2 (f := fun _ => 1) (by omega))
  have HB5 := hide ((unhide HB4).trans (b5.mono (unhide HB4).size))
  clear HK2 hr5 hm5 b5 hg5 p0 p1 p2 p3
  go_wp2_with ((go_at_call 15; refine (num11_any _ _).mono ?_; rintro _ _ ⟨rfl, rfl⟩))
  refine (sameInts_eq (some ⟨g4, 0, none⟩) _ 3 3 3 [1, 0, 2] _ ((unhide HL5).below ((Below.refl _ _).alloc (Nat.le_refl _) _)) (sli_made _ [1, 0, 2] 3 (by decide)) (by omega)).mono ?_
  rintro _ w7 ⟨rfl, m, hm⟩
  have HM7 := hide (show SlI w7 (some ⟨g5, 0, none⟩) 3 3 [1, 1, 1] from by rw [hm]; exact ((unhide HM5).below ((Below.refl _ _).alloc (Nat.le_refl _) _)).below (bel_drewN (Below.refl _ _) m))
  have HB7 := hide (show Below w.heap.size w w7 from by rw [hm]; exact bel_drewN ((unhide HB5).alloc (unhide HB5).size _) m)
  clear hm
  go_wp2_with ((go_at_call 15; refine (num11_any _ _).mono ?_; rintro _ _ ⟨rfl, hw⟩; subst hw))
  refine (sameInts_eq (some ⟨g5, 0, none⟩) _ 3 3 3 [1, 1, 1] _ ((unhide HM7).below ((Below.refl _ _).alloc (Nat.le_refl _) _)) (sli_made _ [1, 1, 1] 3 (by decide)) (by omega)).mono ?_
  rintro _ _ ⟨rfl, m2, rfl⟩
  go_wp2_with fail
  try go_ret
  exact ⟨rfl, bel_drewN ((unhide HB7).alloc (unhide HB7).size _) m2⟩
end Go.Proofs.Ytpmafjofkmefeaa

namespace Go.Proofs.Ytpmafjofkmefeaa
open Go.ChangeShapes Go.WideShapes Go.ChangeAt Go.RowKit Go.Deep
set_option linter.unusedVariables false

theorem law_bytesI : Try.prog.bytesOf 3 = 8 := by kernel_rfl
theorem law_cellsI : Try.prog.cellsOf 3 = 1 := by kernel_rfl
theorem law_cellsIs : Try.prog.cellsOf 22 = 1 := by kernel_rfl
theorem law_cellsP : Try.prog.cellsOf 24 = 4 := by kernel_rfl
theorem trod_s4 {H : Type} {enc : TypeId × Value → H} {P : Program} {w : World} {base : Nat} {spare : Nat → Bool} {held : Bool} {t : TypeId} {f0 f1 f2 f3 : Field} {fuel : Nat} {cs : List Value} {x : DataW H × List MemPlace} (ht : P.underlying t = some (.struct #[f0, f1, f2, f3])) (h : DataW.trod enc P w base spare held fuel t cs = some x) :
    ∃ y0 y1 y2 y3 n, x = (.agg [y0.1, y1.1, y2.1, y3.1], y0.2 ++ (y1.2 ++ (y2.2 ++ y3.2))) ∧ cs.length = P.cellsOf t ∧ DataW.trod enc P w base spare held n f0.type ((cs.drop f0.offset).take (P.cellsOf f0.type)) = some y0 ∧
      DataW.trod enc P w base spare held n f1.type ((cs.drop f1.offset).take (P.cellsOf f1.type)) = some y1 ∧ DataW.trod enc P w base spare held n f2.type ((cs.drop f2.offset).take (P.cellsOf f2.type)) = some y2 ∧ DataW.trod enc P w base spare held n f3.type ((cs.drop f3.offset).take (P.cellsOf f3.type)) = some y3 := by
  obtain ⟨xs, n, _, rfl, hl, hlen, hf⟩ := DataW.trod_struct ht h
  match xs, hlen with
  | [y0, y1, y2, y3], _ => exact ⟨y0, y1, y2, y3, n, by simp, hl, by simpa using hf 0 f0 rfl, by simpa using hf 1 f1 rfl, by simpa using hf 2 f2 rfl, by simpa using hf 3 f3 rfl⟩
/-- A list of whole numbers that is handed in. -/
theorem trod_intsZ {H : Type} {enc : TypeId × Value → H} {W : World} {fuel : Nat} {cs : List Value} {x : DataW H × List MemPlace}
    (h : DataW.trod enc Try.prog W 0 (fun _ => true) true fuel 22 cs = some x) (hz : ∀ k ∈ x.1.weights Try.prog 22, k ≤ reachBytes) :
    ∃ a n c xs, cs = [.slice a n c] ∧ SlI W a n c xs ∧ n ≤ 17592186044000 := by
  rcases open_ints Try.underlying22 Try.underlying3 law_cellsI h with ⟨rfl, _⟩ | ⟨y, n, c, zs, rfl, _, hl, hm, hzl, rfl, hcell, hwz⟩
  · exact ⟨none, 0, 0, [], rfl, SlI.nil _, Nat.zero_le _⟩
  · have hzl' : zs.length = c := by simpa using hzl
    have hb := hz (((lits (H := H) .i64 (zs.take n)).length + (lits (H := H) .i64 (zs.drop n)).length) * Try.prog.bytesOf 3) (by simp [DataW.weights, Try.underlying22])
    have hlen : (lits (H := H) .i64 (zs.take n)).length + (lits (H := H) .i64 (zs.drop n)).length = c := by
      simp [lits]; omega
    rw [hlen, law_bytesI] at hb
    unfold reachBytes at hb
    refine ⟨some y, n, c, zs.take n, rfl, ⟨by simp; omega, hl, hm, ?_⟩, by omega⟩
    by_cases h0 : n = 0
    · left; subst h0; simp
    · right
      obtain ⟨b, off, spot⟩ := y
      have c0 := hcell 0 (by omega)
      have hspot : spot = none := by simpa [Addr.add] using World.cell?_spot c0
      subst hspot
      refine ⟨b, off, rfl, ?_⟩
      intro i hi
      have hi' : i < n := by simp at hi; omega
      have e : (⟨b, off, none⟩ : Addr).add i = ⟨b, off + i, none⟩ := by unfold Addr.add; split <;> simp_all
      have hzi := hcell i (by omega)
      rw [e] at hzi
      rw [hzi]
      have e2 : (zs.take n).getD i 0 = zs.getD i 0 := by
        simp [List.getD, hi', show i < zs.length from by omega]
      rw [e2]
/-- A pattern's parts. -/
structure PatZ (W : World) (a1 : Option Addr) (n1 c1 : Nat) (st : List Int) (a2 : Option Addr) (n2 c2 : Nat) (cols : List Int) : Prop where
  h1 : SlI W a1 n1 c1 st
  h2 : SlI W a2 n2 c2 cols
  l1 : n1 ≤ 17592186044000
  l2 : n2 ≤ 17592186044000
set_option maxRecDepth 100000 in
theorem trod_patZ {H : Type} {enc : TypeId × Value → H} {W : World} {fuel : Nat} {cs : List Value} {x : DataW H × List MemPlace}
    (h : DataW.trod enc Try.prog W 0 (fun _ => true) true fuel 24 cs = some x) (hz : ∀ k ∈ x.1.weights Try.prog 24, k ≤ reachBytes) :
    ∃ rows width a1 n1 c1 st a2 n2 c2 cols, cs = [.int .i64 rows, .int .i64 width, .slice a1 n1 c1, .slice a2 n2 c2] ∧ PatZ W a1 n1 c1 st a2 n2 c2 cols := by
  obtain ⟨y0, y1, y2, y3, k, rfl, hl, h0, h1, h2, h3⟩ := trod_s4 Try.underlying24 h
  rw [law_cellsP] at hl
  match cs, hl with
  | [c0, c1, c2, c3], _ =>
    simp only [List.drop_zero, List.drop_succ_cons, law_cellsI, law_cellsIs, List.take_succ_cons, List.take_zero] at h0 h1 h2 h3
    obtain ⟨r, e0, _⟩ := DataW.trod_int Try.underlying3 h0
    obtain ⟨wd, e1, _⟩ := DataW.trod_int Try.underlying3 h1
    obtain ⟨a1, n1, d1, st, e2, k1, k2⟩ := trod_intsZ h2 (fun k hk => hz k (by simp [DataW.weights, DataW.weightsEach, Try.underlying24, hk]))
    obtain ⟨a2, n2, d2, cols, e3, k3, k4⟩ := trod_intsZ h3 (fun k hk => hz k (by simp [DataW.weights, DataW.weightsEach, Try.underlying24, hk]))
    cases e0
    cases e1
    cases e2
    cases e3
    exact ⟨r, wd, a1, n1, d1, st, a2, n2, d2, cols, rfl, ⟨k1, k3, k2, k4⟩⟩
set_option maxRecDepth 100000 in
theorem arg_patZ {H : Type} {enc : TypeId × Value → H} {W : World} {v : Value} {d : DataW H} {p : List MemPlace} {r : Reach} {b0 : Nat}
    (hv : Value.okWide Try.prog W r b0 24 v) (h : DataW.Trod enc Try.prog W 0 (fun _ => true) true 24 v d p) (hz : ∀ k ∈ d.weights Try.prog 24, k ≤ reachBytes) :
    ∃ rows width a1 n1 c1 st a2 n2 c2 cols, v = patV rows width a1 n1 c1 a2 n2 c2 ∧ PatZ W a1 n1 c1 st a2 n2 c2 cols := by
  obtain ⟨cs, rfl, hsz⟩ := okWide_struct Try.underlying24 hv
  obtain ⟨fuel, hf⟩ := h
  obtain ⟨rows, width, a1, n1, c1, st, a2, n2, c2, cols, e, k⟩ := trod_patZ hf hz
  have hcs : (Value.agg cs).cells.toList = cs.toList := by simp [Value.cells]
  rw [hcs] at e
  refine ⟨rows, width, a1, n1, c1, st, a2, n2, c2, cols, ?_, k⟩
  unfold patV
  congr 1
  apply Array.ext'
  simpa using e
end Go.Proofs.Ytpmafjofkmefeaa

namespace Go.Proofs.Ytpmafjofkmefeaa
open Go.RowKit Go.Deep
set_option linter.unusedVariables false

def givO : Obj := .cells #[.slice none 0 0, .slice none 0 0, .slice none 0 0, .slice none 0 0, .slice none 0 0, .slice none 0 0, .slice none 0 0, .slice none 0 0, .slice none 0 0, .slice none 0 0, .slice none 0 0, .slice none 0 0, .slice none 0 0, .slice none 0 0, .slice none 0 0, .slice none 0 0, .slice none 0 0, .slice none 0 0, .slice none 0 0, .slice none 0 0] 37
theorem nil20 (i : Nat) (h : i < 20) : (#[.slice none 0 0, .slice none 0 0, .slice none 0 0, .slice none 0 0, .slice none 0 0, .slice none 0 0, .slice none 0 0, .slice none 0 0, .slice none 0 0, .slice none 0 0, .slice none 0 0, .slice none 0 0, .slice none 0 0, .slice none 0 0, .slice none 0 0, .slice none 0 0, .slice none 0 0, .slice none 0 0, .slice none 0 0, .slice none 0 0] : Array Value)[i]? = some (.slice none 0 0) := by
  have : (#[.slice none 0 0, .slice none 0 0, .slice none 0 0, .slice none 0 0, .slice none 0 0, .slice none 0 0, .slice none 0 0, .slice none 0 0, .slice none 0 0, .slice none 0 0, .slice none 0 0, .slice none 0 0, .slice none 0 0, .slice none 0 0, .slice none 0 0, .slice none 0 0, .slice none 0 0, .slice none 0 0, .slice none 0 0, .slice none 0 0] : Array Value) = Array.replicate 20 (.slice none 0 0) := rfl
  rw [this, Array.getElem?_replicate, if_pos h]
theorem GivI.made (w : World) : GivI (w.alloc givO) w.heap.size (.slice none 0 0) (.slice none 0 0) [] (fun _ => .slice none 0 0) := by
  refine ⟨⟨_, alloc_block w _, rfl, rfl, rfl, fun i _ h20 => nil20 i h20⟩, ⟨rfl, .inl ⟨rfl, rfl⟩⟩, ⟨rfl, .inl ⟨rfl, rfl⟩⟩, fun k e => by simp [Value.ownBlock] at e, fun e he => by cases he⟩
end Go.Proofs.Ytpmafjofkmefeaa
