/-
  MARKS AMONG THE DEFERRED CALLS; new tables beside blocks that hold no cells.
-/
import Derived.Test.YtbendkndnojihaaDoorBt4
import Derived.Test.YtbendkndnojihaaDoorBm5
import Derived.Test.YtbendkndnojihaaDoorBu1
namespace Go.Proofs.YtbendkndnojihaaDoor
open Go.RowKit Go.Deep Go.Shelf
set_option linter.unusedVariables false
attribute [local go_sem] Oper.semAt_some

/-- What each range over a function left behind. -/
def markL (ds : List Nat) : List Deferred := ds.map (fun D => { target := .collected D, args := #[] })
structure Marks (B : Nat) (W : World) (ds : List Nat) : Prop where
  nodup : ds.Nodup
  ge : ∀ D ∈ ds, B ≤ D
  blk : ∀ D ∈ ds, W.heap[D]? = some (.deferred (some []))
theorem Marks.nil (B : Nat) (W : World) : Marks B W [] := ⟨List.nodup_nil, (fun D h => by cases h), (fun D h => by cases h)⟩
theorem Marks.cons {B B' : Nat} {W : World} {ds : List Nat} (h : Marks B W ds) {D : Nat} (hD : W.heap[D]? = some (.deferred (some []))) (hB : B ≤ D) (hn : ∀ x ∈ ds, x < B') (hB' : B' ≤ D) : Marks B W (D :: ds) :=
  ⟨List.nodup_cons.2 ⟨fun hm => by have := hn D hm; omega, h.nodup⟩, fun x hx => by rcases List.mem_cons.1 hx with e | e; rw [e]; exact hB; exact h.ge x e, fun x hx => by rcases List.mem_cons.1 hx with e | e; rw [e]; exact hD; exact h.blk x e⟩
theorem Marks.lt {B : Nat} {W : World} {ds : List Nat} (h : Marks B W ds) : ∀ x ∈ ds, x < W.heap.size := fun x hx => (Array.getElem?_eq_some_iff.1 (h.blk x hx)).1
theorem Marks.below {B : Nat} {W W' : World} {ds : List Nat} (h : Marks B W ds) (hb : Below W.heap.size W W') : Marks B W' ds :=
  ⟨h.nodup, h.ge, fun D hD => by rw [hb.block D (h.lt D hD)]; exact h.blk D hD⟩
theorem Marks.chg {B : Nat} {S : Nat → Prop} {W W' : World} {ds : List Nat} (h : Marks B W ds) (hc : Chg S W W') (hS : ∀ k, S k → ∃ v, W.cell? ⟨k, 0, none⟩ = some v) : Marks B W' ds :=
  ⟨h.nodup, h.ge, fun D hD => by
    rw [hc.block D (h.lt D hD) (fun hs => ?_)]
    · exact h.blk D hD
    · obtain ⟨v, hv⟩ := hS D hs
      simp [World.cell?, h.blk D hD] at hv⟩
theorem marks_own {β : Type} (B B' : Nat) (ds : List Nat) (hB : ∀ D ∈ ds, D < B') : OwnFrom B' (fun (s : β) W => Marks B W ds) := by
  intro s W W' row h hg hr
  refine ⟨h.nodup, h.ge, fun D hD => ?_⟩
  rw [hg.block D (h.lt D hD) (fun e => by have := (hr D e.symm).1; have := hB D hD; omega)]
  exact h.blk D hD
/-- On the way out each mark is taken. -/
theorem leaves_marks {F : Fence} {n : Nat} {P : Program} {fn : Func} {tmps : Array Value} {R : Ending → World → Prop} {B : Nat} (J : World → Prop) (hJ : OwnFrom B (fun (_ : Unit) W => J W))
    (hend : ∀ W, J W → LeavesIn F n P fn tmps R [] .returning W) : ∀ (ds : List Nat) (W : World), Marks B W ds → J W → LeavesInM F n P fn tmps R (markL ds) .returning W
  | [], W, hm, h => hend W h
  | D :: ds, W, hm, h => by
    refine ⟨by simp, .inl ⟨D, _, rfl, run_takeDeferred (hm.blk D (by simp)), ?_⟩⟩
    refine leaves_marks J hJ hend ds _ ⟨(List.nodup_cons.1 hm.nodup).2, fun x hx => hm.ge x (by simp [hx]), fun x hx => ?_⟩ (hJ.putObj (s := ()) _ h (hm.ge D (by simp)) (hm.blk D (by simp)) rfl)
    rw [World.putObj_heap_other (fun e => by subst e; exact (List.nodup_cons.1 hm.nodup).1 hx)]
    exact hm.blk x (by simp [hx])

theorem TbM.own {B : Nat} {W W' : World} {T n N : Nat} {sz : Int} {F : Nat → Nat → Nat} {k : Nat} {bs cs : Nat → Nat} (h : TbM B W T n N sz F k bs cs) {row : Option Nat} (hg : W.grownBy W' row) (hr : ∀ r, row = some r → ∃ o : Obj, W.heap[r]? = some o ∧ o.isCells = false) : TbM B W' T n N sz F k bs cs := by
  refine ⟨h.tge, Nat.lt_of_lt_of_le h.tlt hg.size, fun i hi => ⟨cell_kept (h.row i hi).1 hg hr, cell_kept (h.row i hi).2 hg hr⟩, fun i h1 h2 => ⟨cell_kept (h.rest i h1 h2).1 hg hr, cell_kept (h.rest i h1 h2).2 hg hr⟩,
    fun j hj => ?_, fun i hi => (h.words i hi).own hg hr, fun i hi => ⟨(h.ge i hi).1, (h.ge i hi).2.1, Nat.lt_of_lt_of_le (h.ge i hi).2.2 hg.size⟩, h.apart, h.cap⟩
  obtain ⟨v, hv⟩ : ∃ v, W.cell? ⟨T, j, none⟩ = some v := by
    rcases Nat.lt_or_ge (j / 2) k with c | c
    · rcases (by omega : j = j / 2 * 2 ∨ j = j / 2 * 2 + 1) with e | e
      · rw [e]; exact ⟨_, (h.row (j / 2) c).1⟩
      · rw [e]; exact ⟨_, (h.row (j / 2) c).2⟩
    · rcases (by omega : j = j / 2 * 2 ∨ j = j / 2 * 2 + 1) with e | e
      · rw [e]; exact ⟨_, (h.rest (j / 2) c (by omega)).1⟩
      · rw [e]; exact ⟨_, (h.rest (j / 2) c (by omega)).2⟩
  rw [frozen_kept hv hg hr]
  exact h.froz j hj
end Go.Proofs.YtbendkndnojihaaDoor
