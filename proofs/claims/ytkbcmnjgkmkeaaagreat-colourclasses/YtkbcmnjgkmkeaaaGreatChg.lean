/-
  COLOURS: a circle of four, plain; slopelaw12.circle4: contract.
-/
import Derived.Test.YtkbcmnjgkmkeaaaGreatChf
namespace Go.Proofs.YtkbcmnjgkmkeaaaGreat
open Go.RowKit Go.Deep
set_option linter.unusedVariables false

def stC : List Int := [0, 2, 4, 6, 8]
def colsC : List Int := [1, 3, 0, 2, 1, 3, 0, 2]
def ordC : List Int := [0, 1, 2, 3]
def fnC (l : List Int) : Nat → Int := fun i => l.getD i (-1)
theorem ordC_ord : OrdTo ordC 4 4 := by
  refine ⟨fun j hj => ?_, fun i j hij hj => ?_⟩
  · have : j = 0 ∨ j = 1 ∨ j = 2 ∨ j = 3 := by omega
    rcases this with rfl | rfl | rfl | rfl <;> decide
  · have h1 : j = 1 ∨ j = 2 ∨ j = 3 := by omega
    have h2 : i = 0 ∨ i = 1 ∨ i = 2 := by omega
    rcases h1 with rfl | rfl | rfl <;> rcases h2 with rfl | rfl | rfl <;> first | decide | omega
theorem mayC : MayP (4 : Nat) (4 : Nat) stC colsC := by
  refine ⟨⟨by decide, by decide, by decide, by decide⟩, fun i _ hi => ?_, fun r hr => ?_⟩
  · have h : ∀ i, i < 4 → stC.getD i 0 ≤ stC.getD (i + 1) 0 := by decide
    exact h i (by simp [stC] at hi; omega)
  · have h1 : ∀ r, r < 4 → ∀ i, i < 8 → (stC.getD r 0).toNat ≤ i → i < (stC.getD (r + 1) 0).toNat → 0 ≤ colsC.getD i 0 ∧ colsC.getD i 0 < 4 := by decide
    have h2 : ∀ r, r < 4 → ∀ i, i < 8 → (stC.getD r 0).toNat < i → i < (stC.getD (r + 1) 0).toNat → colsC.getD (i - 1) 0 < colsC.getD i 0 := by decide
    have h3 : ∀ r, r < 4 → (stC.getD (r + 1) 0).toNat ≤ 8 := by decide
    have hr4 : r < 4 := by simp [stC] at hr; omega
    have := h3 r hr4
    exact ⟨fun i a b => h1 r hr4 i (by omega) a b, fun i a b => h2 r hr4 i (by omega) a b⟩
theorem graC : GraP stC colsC 4 4 := by
  refine ⟨rfl, fun u v hu hv h => ?_, fun ⟨r, hr, h⟩ => ?_⟩
  · have k : ∀ u, u < 4 → ∀ v, v < 4 → ((u : Nat) : Int) ∈ rowL stC colsC v → ((v : Nat) : Int) ∈ rowL stC colsC u := by decide
    exact (rowL_mem mayC hu).1 (k u hu v hv ((rowL_mem mayC hv).2 h))
  · have k : ∀ r, r < 4 → ¬ ((r : Nat) : Int) ∈ rowL stC colsC r := by decide
    exact k r hr ((rowL_mem mayC hr).2 h)
/-- The circle's colours. -/
theorem pntC : PntI stC colsC ordC 4 (updC (updC (updC (updC (fun _ => -1) 0 0) 1 1) 2 0) 3 2) := by
  refine ⟨_, 2, ⟨_, 0, ⟨_, 1, ⟨_, 0, rfl, ⟨?_, ?_⟩, rfl⟩, ⟨?_, ?_⟩, rfl⟩, ⟨?_, ?_⟩, rfl⟩, ⟨?_, ?_⟩, rfl⟩ <;> unfold BarP PaP TwP <;> decide
theorem SlI.made (w : World) (xs : List Int) (t : TypeId) (h : xs.length ≤ 128) : SlI (w.alloc (.cells (xs.map (fun x => Value.int .i64 x)).toArray t)) (some ⟨w.heap.size, 0, none⟩) xs.length xs.length xs := by
  refine ⟨rfl, Nat.le_refl _, by unfold maxLen; omega, .inr ⟨w.heap.size, 0, rfl, fun i hi => ?_⟩⟩
  rw [Nat.zero_add]
  exact (cell_of_block (alloc_block _ _) i).trans (by simp [List.getD, hi])
set_option maxRecDepth 100000 in
set_option maxHeartbeats 8000000 in
/-- slopelaw12.circle4. -/
theorem ccircle_any (w : World) :
    Calls Tryz.prog 22 #[] w fun e w' => ∃ s c, e = .returned (patV (4 : Nat) (4 : Nat) (some ⟨s, 0, none⟩) 5 5 (some ⟨c, 0, none⟩) 8 8) ∧ SlI w' (some ⟨s, 0, none⟩) 5 5 stC ∧ SlI w' (some ⟨c, 0, none⟩) 8 8 colsC ∧ Below w.heap.size w w' := by
  go_enter Tryz.func22, Tryz.ntmps22
  go_wp2_with fail
  refine bodyPost_ret (by simp [results, Tryz.results22, go_sem]; try rfl) rfl ?_
  have b1 : Below w.heap.size w (w.alloc (.cells #[Value.int IntKind.i64 4, Value.int IntKind.i64 4, Value.slice (some ⟨w.heap.size + 1, 0, none⟩) 5 5, Value.slice (some ⟨w.heap.size + 1 + 1, 0, none⟩) 8 8] 61)) := (Below.refl _ _).alloc (Nat.le_refl _) _
  have s1 := SlI.made (w.alloc (.cells #[Value.int IntKind.i64 4, Value.int IntKind.i64 4, Value.slice (some ⟨w.heap.size + 1, 0, none⟩) 5 5, Value.slice (some ⟨w.heap.size + 1 + 1, 0, none⟩) 8 8] 61)) stC 3 (by decide)
  have e1 : (w.alloc (.cells #[Value.int IntKind.i64 4, Value.int IntKind.i64 4, Value.slice (some ⟨w.heap.size + 1, 0, none⟩) 5 5, Value.slice (some ⟨w.heap.size + 1 + 1, 0, none⟩) 8 8] 61)).heap.size = w.heap.size + 1 := by simp
  generalize w.alloc (.cells #[Value.int IntKind.i64 4, Value.int IntKind.i64 4, Value.slice (some ⟨w.heap.size + 1, 0, none⟩) 5 5, Value.slice (some ⟨w.heap.size + 1 + 1, 0, none⟩) 8 8] 61) = w1 at *
  rw [e1] at s1
  have b2 : Below w.heap.size w1 (w1.alloc (.cells (stC.map (fun x => Value.int .i64 x)).toArray 3)) := (Below.refl _ _).alloc (by omega) _
  have e2 : (w1.alloc (.cells (stC.map (fun x => Value.int .i64 x)).toArray 3)).heap.size = w.heap.size + 1 + 1 := by simp [e1]
  have s2 := SlI.made (w1.alloc (.cells (stC.map (fun x => Value.int .i64 x)).toArray 3)) colsC 3 (by decide)
  rw [e2] at s2
  have b3 : Below (w.heap.size + 1 + 1) (w1.alloc (.cells (stC.map (fun x => Value.int .i64 x)).toArray 3)) ((w1.alloc (.cells (stC.map (fun x => Value.int .i64 x)).toArray 3)).alloc (.cells (colsC.map (fun x => Value.int .i64 x)).toArray 3)) := (Below.refl _ _).alloc (by omega) _
  exact ⟨w.heap.size + 1, w.heap.size + 1 + 1, rfl, s1.below (by rw [e2]; exact b3), s2, (b1.trans b2).trans (b3.mono (by omega))⟩
end Go.Proofs.YtkbcmnjgkmkeaaaGreat
