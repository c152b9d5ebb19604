/-
  bitset.Move: contract.
-/
import Derived.Test.YtbendkndnojihabDoorBm4
import Derived.Test.YtbendkndnojihabDoorBrs1
import Derived.Test.YtbendkndnojihabDoorBza
import Derived.Stop.RegionWithIn
import Derived.Test.YtbendkndnojihabDoorBt4
import Derived.Test.YtbendkndnojihabDoorBu1
namespace Go.Proofs.YtbendkndnojihabDoor
open Go.RowKit Go.Deep Go.Shelf
set_option linter.unusedVariables false
attribute [local go_sem] Oper.semAt_some

theorem enterM {w wa wb wc : World} {s : Int} {a : Option Addr} {n c : Nat} {x : List Nat} {at_ : Option Addr} {nt ct : Nat} {to : List Int}
    (hwa : w.alloc (.cells #[.int .i64 s, .slice a n c] 35) = wa) (hwb : wa.alloc (.cells #[.slice at_ nt ct] 52) = wb) (hwc : wb.alloc (.cells #[.int .i64 0, .slice none 0 0] 35) = wc)
    (h : SlW w a n c x) (ht : SlI w at_ nt ct to) :
    Facts w wc [fT wb.heap.size (.int .i64 0) (.slice none 0 0), fT w.heap.size (.int .i64 s) (.slice a n c), fW a n c x, fI at_ nt ct to] ∧ wc.cell? ⟨wa.heap.size, 0, none⟩ = some (.slice at_ nt ct) ∧ w.heap.size < wa.heap.size ∧ wa.heap.size < wb.heap.size ∧ wb.heap.size < wc.heap.size := by
  have A0 : Facts w w [] := ⟨Below.refl _ _, fun f hf => by cases hf⟩
  have A1 := (A0.add (fI at_ nt ct to) ht).add (fW a n c x) h
  have A2 := A1.box (.int .i64 s) (.slice a n c) 35
  rw [hwa] at A2
  have hbb : Below wa.heap.size wa wb := by rw [← hwb]; exact (Below.refl _ _).alloc (Nat.le_refl _) _
  have A3 := A2.step hbb
  have A4 := A3.box (.int .i64 0) (.slice none 0 0) 35
  rw [hwc] at A4
  have hbc : Below wb.heap.size wb wc := by rw [← hwc]; exact (Below.refl _ _).alloc (Nat.le_refl _) _
  refine ⟨A4, below_cell hbc (by rw [← hwb]; simp), by rw [← hwa]; simp, by rw [← hwb]; simp, by rw [← hwc]; simp⟩

/-- What abides where one block that holds no cells is turned. -/
theorem Two.own {W W' : World} {R : Nat} {v0 v1 : Value} (h : Two W R v0 v1) {row : Option Nat} (hg : W.grownBy W' row) (hr : ∀ r, row = some r → ∃ o : Obj, W.heap[r]? = some o ∧ o.isCells = false) : Two W' R v0 v1 :=
  ⟨cell_kept h.c0 hg hr, cell_kept h.c1 hg hr, (frozen_kept h.c0 hg hr).trans h.f0, (frozen_kept h.c1 hg hr).trans h.f1⟩
theorem FnG.own {α : Type} {g : α → Value} {W W' : World} {b off n : Nat} {f : Nat → α} (h : FnG g W b off n f) {row : Option Nat} (hg : W.grownBy W' row) (hr : ∀ r, row = some r → ∃ o : Obj, W.heap[r]? = some o ∧ o.isCells = false) : FnG g W' b off n f :=
  fun i hi => ⟨cell_kept (h i hi).1 hg hr, (frozen_kept (h i hi).1 hg hr).trans (h i hi).2⟩
theorem SlG.own {α : Type} {g : α → Value} {d : α} {W W' : World} {a : Option Addr} {n c : Nat} {xs : List α} (h : SlG g d W a n c xs) {row : Option Nat} (hg : W.grownBy W' row) (hr : ∀ r, row = some r → ∃ o : Obj, W.heap[r]? = some o ∧ o.isCells = false) : SlG g d W' a n c xs :=
  ⟨h.len, h.le, h.cap, h.cells.imp id (fun ⟨b, off, e, k⟩ => ⟨b, off, e, fun i hi => cell_kept (k i hi) hg hr⟩)⟩
theorem ResS.own {w W W' : World} {r : Int × List Nat × Int} {e : Ending} (h : ResS w W r e) {D : Nat} (hg : W.grownBy W' (some D)) (hr : ∃ o : Obj, W.heap[D]? = some o ∧ o.isCells = false) (hD : w.heap.size ≤ D) : ResS w W' r e := by
  obtain ⟨a, n, c, h1, h2, h3⟩ := h
  exact ⟨a, n, c, h1, h2.own hg (fun r e => by cases e; exact hr), h3.grown hg h3.size (fun k e => by cases e; exact hD)⟩
/-- In the round of Move. -/
structure MvI (w W : World) (Ra Rb Zb b cb N nt ct : Nat) (at_ : Option Addr) (P : Nat → Bool) : Prop where
  bel : Below w.heap.size w W
  cto : W.cell? ⟨Ra, 0, none⟩ = some (.slice at_ nt ct)
  tz : Two W Zb (.int .i64 (N : Int)) (.slice (some ⟨b, 0, none⟩) (nW N) cb)
  tr : Two W Rb (.int .i64 0) (.slice none 0 0)
  rep : ∃ f, FnW W b 0 (nW N) f ∧ RepB (nW N) f P
theorem MvI.own {β : Type} {w : World} {Ra Rb Zb b cb N nt ct B : Nat} {at_ : Option Addr} (P : β → Nat → Bool) (hB : w.heap.size ≤ B) : OwnFrom B (fun (s : β) W => MvI w W Ra Rb Zb b cb N nt ct at_ (P s)) := by
  intro s W W' row h hg hr
  have hr' : ∀ r, row = some r → ∃ o : Obj, W.heap[r]? = some o ∧ o.isCells = false := fun r e => (hr r e).2
  obtain ⟨f, hf, hp⟩ := h.rep
  exact ⟨h.bel.grown hg h.bel.size (fun k e => Nat.le_trans hB (hr k e).1), cell_kept h.cto hg hr', h.tz.own hg hr', h.tr.own hg hr', f, hf.own hg hr', hp⟩
theorem MvI.chg {w W W' : World} {Ra Rb Zb b cb N nt ct : Nat} {at_ : Option Addr} {P P' : Nat → Bool} {f : Nat → Nat} (h : MvI w W Ra Rb Zb b cb N nt ct at_ P) (hc : Chg (fun j => j = b) W W') (h1 : Ra ≠ b) (h2 : Rb ≠ b) (h3 : Zb ≠ b) (hb : w.heap.size ≤ b) (hf : FnW W' b 0 (nW N) f) (hp : RepB (nW N) f P') : MvI w W' Ra Rb Zb b cb N nt ct at_ P' :=
  ⟨h.bel.trans (hc.below h.bel.size (fun j hj => by omega)), hc.cell h1 h.cto, h.tz.chg hc h3, h.tr.chg hc h2, f, hf, hp⟩
theorem MvI.congr {w W : World} {Ra Rb Zb b cb N nt ct : Nat} {at_ : Option Addr} {P P' : Nat → Bool} (h : MvI w W Ra Rb Zb b cb N nt ct at_ P) (e : ∀ y, P y = P' y) : MvI w W Ra Rb Zb b cb N nt ct at_ P' := by
  obtain ⟨f, hf, hp⟩ := h.rep
  exact ⟨h.bel, h.cto, h.tz, h.tr, f, hf, hp.congr (fun _ _ => rfl) (fun y _ => e y)⟩
/-- To where the numbers lead that have come. -/
def mvP {n : Nat} {x : List Nat} (to : List Int) (pre : List (Elem n x)) (y : Nat) : Bool := pre.any (fun e => to.getD e.val 0 == (y : Int))
theorem mvP_done {n sz : Nat} {x : List Nat} {to : List Int} {ys : List (Elem n x)} (h : ys.map (·.val) = elN (hasB (gW x)) (64 * n)) (hz : ∀ y, sz ≤ y → y < 64 * n → hasB (gW x) y = false) (hs : sz ≤ 64 * n) (y : Nat) : mvP to ys y = mvK (gW x) to sz y := by
  have e : mvP to ys y = (ys.map (·.val)).any (fun e => to.getD e 0 == (y : Int)) := by unfold mvP; rw [List.any_map]; rfl
  rw [e, h, Bool.eq_iff_iff]
  unfold mvK
  simp only [List.any_eq_true, elN_mem, List.mem_range, Bool.and_eq_true]
  constructor
  · rintro ⟨z, ⟨h1, h2⟩, h3⟩
    refine ⟨z, ?_, h2, h3⟩
    rcases Nat.lt_or_ge z sz with c | c
    · exact c
    · rw [hz z c h1] at h2; cases h2
  · rintro ⟨z, h1, h2, h3⟩
    exact ⟨z, ⟨by omega, h2⟩, h3⟩
/-- A block that the round may write lies ahead of the loop; what it keeps. -/
theorem keepZ {B b : Nat} {W W' : World} (h : Chg (fun j => j = b) W W') (hb : b < B) : KeepsFrom B W W' :=
  ⟨h.size, fun k o hB hk _ => by
    have hlt : k < W.heap.size := (Array.getElem?_eq_some_iff.1 hk).1
    rw [h.block k hlt (by omega)]; exact hk⟩
theorem kpZ_t {Z : Nat → Prop} {n₀ : Nat} {A B C : World} (h : KpZ Z n₀ A B) (k : KpZ Z n₀ B C) : KpZ Z n₀ A C := Chg.trans h k
theorem kpZ_b {Z : Nat → Prop} {n₀ : Nat} {w : World} (hn : n₀ ≤ w.heap.size) (W : World) (l : Nat) (o o' : Obj) (hl : w.heap.size ≤ l) (h : W.heap[l]? = some o) (_ : o.isCells = false) (_ : o.isWalk = false) : KpZ Z n₀ W (W.putObj l o') :=
  ⟨rfl, rfl, rfl, by simp, fun k hk hs => World.putObj_heap_other (fun e => hs (.inr (by omega)))⟩

end Go.Proofs.YtbendkndnojihabDoor

namespace Go.Proofs.YtbendkndnojihabDoor
open Go.RowKit Go.Deep Go.Shelf
set_option linter.unusedVariables false
attribute [local go_sem] Oper.semAt_some

/-- What each range over a function left behind. -/
def markL (ds : List Nat) : List Deferred := ds.map (fun D => { target := .collected D, args := #[] })
structure Marks (B : Nat) (W : World) (ds : List Nat) : Prop where
  nodup : ds.Nodup
  ge : ∀ D ∈ ds, B ≤ D
  blk : ∀ D ∈ ds, W.heap[D]? = some (.deferred (some []))
theorem Marks.nil (B : Nat) (W : World) : Marks B W [] := ⟨List.nodup_nil, (fun D h => by cases h), (fun D h => by cases h)⟩
theorem Marks.cons {B B' : Nat} {W : World} {ds : List Nat} (h : Marks B W ds) {D : Nat} (hD : W.heap[D]? = some (.deferred (some []))) (hB : B ≤ D) (hn : ∀ x ∈ ds, x < B') (hB' : B' ≤ D) : Marks B W (D :: ds) :=
  ⟨List.nodup_cons.2 ⟨fun hm => by have := hn D hm; omega, h.nodup⟩, fun x hx => by rcases List.mem_cons.1 hx with e | e; rw [e]; exact hB; exact h.ge x e, fun x hx => by rcases List.mem_cons.1 hx with e | e; rw [e]; exact hD; exact h.blk x e⟩
theorem Marks.lt {B : Nat} {W : World} {ds : List Nat} (h : Marks B W ds) : ∀ x ∈ ds, x < W.heap.size := fun x hx => (Array.getElem?_eq_some_iff.1 (h.blk x hx)).1
theorem Marks.below {B : Nat} {W W' : World} {ds : List Nat} (h : Marks B W ds) (hb : Below W.heap.size W W') : Marks B W' ds :=
  ⟨h.nodup, h.ge, fun D hD => by rw [hb.block D (h.lt D hD)]; exact h.blk D hD⟩
theorem Marks.chg {B : Nat} {S : Nat → Prop} {W W' : World} {ds : List Nat} (h : Marks B W ds) (hc : Chg S W W') (hS : ∀ k, S k → ∃ v, W.cell? ⟨k, 0, none⟩ = some v) : Marks B W' ds :=
  ⟨h.nodup, h.ge, fun D hD => by
    rw [hc.block D (h.lt D hD) (fun hs => ?_)]
    · exact h.blk D hD
    · obtain ⟨v, hv⟩ := hS D hs
      simp [World.cell?, h.blk D hD] at hv⟩
theorem marks_own {β : Type} (B B' : Nat) (ds : List Nat) (hB : ∀ D ∈ ds, D < B') : OwnFrom B' (fun (s : β) W => Marks B W ds) := by
  intro s W W' row h hg hr
  refine ⟨h.nodup, h.ge, fun D hD => ?_⟩
  rw [hg.block D (h.lt D hD) (fun e => by have := (hr D e.symm).1; have := hB D hD; omega)]
  exact h.blk D hD
/-- On the way out each mark is taken. -/
theorem leaves_marks {F : Fence} {n : Nat} {P : Program} {fn : Func} {tmps : Array Value} {R : Ending → World → Prop} {B : Nat} (J : World → Prop) (hJ : OwnFrom B (fun (_ : Unit) W => J W))
    (hend : ∀ W, J W → LeavesIn F n P fn tmps R [] .returning W) : ∀ (ds : List Nat) (W : World), Marks B W ds → J W → LeavesInM F n P fn tmps R (markL ds) .returning W
  | [], W, hm, h => hend W h
  | D :: ds, W, hm, h => by
    refine ⟨by simp, .inl ⟨D, _, rfl, run_takeDeferred (hm.blk D (by simp)), ?_⟩⟩
    refine leaves_marks J hJ hend ds _ ⟨(List.nodup_cons.1 hm.nodup).2, fun x hx => hm.ge x (by simp [hx]), fun x hx => ?_⟩ (hJ.putObj (s := ()) _ h (hm.ge D (by simp)) (hm.blk D (by simp)) rfl)
    rw [World.putObj_heap_other (fun e => by subst e; exact (List.nodup_cons.1 hm.nodup).1 hx)]
    exact hm.blk x (by simp [hx])

theorem TbM.own {B : Nat} {W W' : World} {T n N : Nat} {sz : Int} {F : Nat → Nat → Nat} {k : Nat} {bs cs : Nat → Nat} (h : TbM B W T n N sz F k bs cs) {row : Option Nat} (hg : W.grownBy W' row) (hr : ∀ r, row = some r → ∃ o : Obj, W.heap[r]? = some o ∧ o.isCells = false) : TbM B W' T n N sz F k bs cs := by
  refine ⟨h.tge, Nat.lt_of_lt_of_le h.tlt hg.size, fun i hi => ⟨cell_kept (h.row i hi).1 hg hr, cell_kept (h.row i hi).2 hg hr⟩, fun i h1 h2 => ⟨cell_kept (h.rest i h1 h2).1 hg hr, cell_kept (h.rest i h1 h2).2 hg hr⟩,
    fun j hj => ?_, fun i hi => (h.words i hi).own hg hr, fun i hi => ⟨(h.ge i hi).1, (h.ge i hi).2.1, Nat.lt_of_lt_of_le (h.ge i hi).2.2 hg.size⟩, h.apart, h.cap⟩
  obtain ⟨v, hv⟩ : ∃ v, W.cell? ⟨T, j, none⟩ = some v := by
    rcases Nat.lt_or_ge (j / 2) k with c | c
    · rcases (by omega : j = j / 2 * 2 ∨ j = j / 2 * 2 + 1) with e | e
      · rw [e]; exact ⟨_, (h.row (j / 2) c).1⟩
      · rw [e]; exact ⟨_, (h.row (j / 2) c).2⟩
    · rcases (by omega : j = j / 2 * 2 ∨ j = j / 2 * 2 + 1) with e | e
      · rw [e]; exact ⟨_, (h.rest (j / 2) c (by omega)).1⟩
      · rw [e]; exact ⟨_, (h.rest (j / 2) c (by omega)).2⟩
  rw [frozen_kept hv hg hr]
  exact h.froz j hj
end Go.Proofs.YtbendkndnojihabDoor
