/-
  WHAT A LAW CARRIES ALONG; how its arguments are opened.
-/
import Derived.Test.YtbendkndnojihabDoorBt7
import Derived.ProofKit
import Derived.OpenShut
import Derived.ShutString
import Derived.ChangeOld
import Derived.SizedLaws
namespace Go.Proofs.YtbendkndnojihabDoor
open Go.ChangeShapes Go.WideShapes Go.ChangeAt Go.RowKit Go.Deep
set_option linter.unusedVariables false

/-- A fact that new blocks do not change. -/
structure Fact where
  p : World → Prop
  st : ∀ {w w' : World}, Below w.heap.size w w' → p w → p w'
structure Facts (w0 w : World) (L : List Fact) : Prop where
  bel : Below w0.heap.size w0 w
  all : ∀ f ∈ L, f.p w
theorem Facts.step {w0 w w' : World} {L : List Fact} (h : Facts w0 w L) (k : Below w.heap.size w w') : Facts w0 w' L :=
  ⟨h.bel.trans (k.mono h.bel.size), fun f hf => f.st k (h.all f hf)⟩
theorem Facts.add {w0 w : World} {L : List Fact} (h : Facts w0 w L) (f : Fact) (hf : f.p w) : Facts w0 w (f :: L) :=
  ⟨h.bel, fun g hg => by rcases List.mem_cons.1 hg with rfl | hg; exact hf; exact h.all g hg⟩
def fW (a : Option Addr) (n c : Nat) (xs : List Nat) : Fact := ⟨fun w => SlW w a n c xs, fun k h => h.below k⟩
def fI (a : Option Addr) (n c : Nat) (xs : List Int) : Fact := ⟨fun w => SlI w a n c xs, fun k h => h.below k⟩
def fT (R : Nat) (v0 v1 : Value) : Fact := ⟨fun w => Two w R v0 v1, fun k h => h.keep k⟩
theorem Facts.w {w0 w : World} {L : List Fact} (h : Facts w0 w L) (a : Option Addr) (n c : Nat) (xs : List Nat) (hm : fW a n c xs ∈ L) : SlW w a n c xs := h.all _ hm
theorem Facts.i {w0 w : World} {L : List Fact} (h : Facts w0 w L) (a : Option Addr) (n c : Nat) (xs : List Int) (hm : fI a n c xs ∈ L) : SlI w a n c xs := h.all _ hm
theorem Facts.t {w0 w : World} {L : List Fact} (h : Facts w0 w L) (R : Nat) (v0 v1 : Value) (hm : fT R v0 v1 ∈ L) : Two w R v0 v1 := h.all _ hm
theorem Facts.box {w0 w : World} {L : List Fact} (h : Facts w0 w L) (v0 v1 : Value) (e : TypeId) : Facts w0 (w.alloc (.cells #[v0, v1] e)) (fT w.heap.size v0 v1 :: L) :=
  (h.step ((Below.refl _ _).alloc (Nat.le_refl _) _)).add (fT w.heap.size v0 v1) (Two.made _ _ _ _)
/-- A call's answer, laid in a variable. -/
theorem Facts.set {w0 w w' : World} {L : List Fact} (h : Facts w0 w L) {s : Int} {a : Option Addr} {n c : Nat} {xs : List Nat} (hs : SlW w' a n c xs) (hb : Below w.heap.size w w') (e : TypeId) :
    Facts w0 (w'.alloc (.cells #[.int .i64 s, .slice a n c] e)) (fT w'.heap.size (.int .i64 s) (.slice a n c) :: fW a n c xs :: L) :=
  ((h.step hb).add (fW a n c xs) hs).box _ _ _

theorem law_own : ownKnob Tryd.prog.godebug = none := by kernel_rfl
theorem law_laid : laidOutB Tryd.prog = true := by kernel_rfl

theorem law_bytesI : Tryd.prog.bytesOf 3 = 8 := by kernel_rfl
theorem law_cellsI : Tryd.prog.cellsOf 3 = 1 := by kernel_rfl
/-- A list of numbers that is handed in. -/
theorem arg_ints {H : Type} {enc : TypeId × Value → H} {W : World} {a : Option Addr} {n c : Nat} {d : DataW H} {p : List MemPlace}
    (h : DataW.Trod enc Tryd.prog W 0 (fun _ => true) true 52 (.slice a n c) d p) (hz : ∀ el sp, d = .slice el sp → (el.length + sp.length) * Tryd.prog.bytesOf 3 ≤ reachBytes) :
    ∃ xs, SlI W a n c xs ∧ (∀ x ∈ xs, -9223372036854775808 ≤ x ∧ x ≤ 9223372036854775807) ∧ n ≤ 17592186043904 ∧ (a = none → n = 0 ∧ c = 0) := by
  obtain ⟨fuel, hf⟩ := h
  rcases open_ints Tryd.underlying52 Tryd.underlying3 law_cellsI hf with ⟨hcs, _⟩ | ⟨x, l, k, zs, hcs, _, hl, hm, hzl, hx, hcell, hwz⟩
  · simp [Value.cells] at hcs
    obtain ⟨rfl, rfl, rfl⟩ := hcs
    exact ⟨[], SlG.nil _, (fun x hx => by cases hx), Nat.zero_le _, fun _ => ⟨rfl, rfl⟩⟩
  · simp [Value.cells] at hcs
    obtain ⟨rfl, rfl, rfl⟩ := hcs
    have hzl' : zs.length = c := by simpa using hzl
    have hd : d = .slice (lits .i64 (zs.take n)) (lits .i64 (zs.drop n)) := by injection hx
    have hb := hz _ _ hd
    have hlen : (lits (H := H) .i64 (zs.take n)).length + (lits (H := H) .i64 (zs.drop n)).length = c := by
      simp [lits]; omega
    rw [hlen, law_bytesI] at hb
    unfold reachBytes at hb
    refine ⟨zs.take n, ⟨by simp; omega, hl, hm, ?_⟩, fun y hy => bounds_i64 (hwz y (List.mem_of_mem_take hy)), by omega, fun h => by cases h⟩
    by_cases h0 : n = 0
    · left; subst h0; simp
    · right
      obtain ⟨b, off, spot⟩ := x
      have c0 := hcell 0 (by omega)
      have hspot : spot = none := by simpa [Addr.add] using World.cell?_spot c0
      subst hspot
      refine ⟨b, off, rfl, ?_⟩
      intro i hi
      have hi' : i < n := by simp at hi; omega
      have := hcell i (by omega)
      rw [addr_add] at this
      rw [this]
      simp [vI, List.getD, hi', show i < zs.length from by omega]
end Go.Proofs.YtbendkndnojihabDoor

namespace Go.Proofs.YtbendkndnojihabDoor
open Go.ChangeShapes Go.WideShapes Go.ChangeAt Go.RowKit Go.Deep
set_option linter.unusedVariables false

def OkW (xs : List Nat) : Prop := ∀ x ∈ xs, x < 18446744073709551616
theorem law_bytesW : Tryd.prog.bytesOf 65 = 8 := by kernel_rfl
theorem law_cellsW : Tryd.prog.cellsOf 65 = 1 := by kernel_rfl
theorem law_cellsWs : Tryd.prog.cellsOf 33 = 1 := by kernel_rfl
theorem law_cellsS : Tryd.prog.cellsOf 35 = 2 := by kernel_rfl

theorem trod_words {H : Type} {enc : TypeId × Value → H} {W : World} {fuel : Nat} {cs : List Value} {x : DataW H × List MemPlace}
    (h : DataW.trod enc Tryd.prog W 0 (fun _ => true) true fuel 33 cs = some x) (hz : ∀ k ∈ x.1.weights Tryd.prog 33, k ≤ reachBytes) :
    ∃ a n c xs, cs = [.slice a n c] ∧ SlW W a n c xs ∧ OkW xs ∧ n ≤ 17592186043904 ∧ (a = none → n = 0 ∧ c = 0) := by
  rcases open_ints Tryd.underlying33 Tryd.underlying65 law_cellsW h with ⟨rfl, _⟩ | ⟨y, n, c, zs, rfl, _, hl, hm, hzl, rfl, hcell, hwz⟩
  · exact ⟨none, 0, 0, [], rfl, SlG.nil _, (fun x hx => by cases hx), Nat.zero_le _, fun _ => ⟨rfl, rfl⟩⟩
  · have hzl' : zs.length = c := by simpa using hzl
    have hb := hz (((lits (H := H) .u64 (zs.take n)).length + (lits (H := H) .u64 (zs.drop n)).length) * Tryd.prog.bytesOf 65) (by simp [DataW.weights, Tryd.underlying33])
    have hlen : (lits (H := H) .u64 (zs.take n)).length + (lits (H := H) .u64 (zs.drop n)).length = c := by
      simp [lits]; omega
    rw [hlen, law_bytesW] at hb
    unfold reachBytes at hb
    refine ⟨some y, n, c, (zs.take n).map Int.toNat, rfl, ⟨by simp; omega, hl, hm, ?_⟩, fun z hzz => ?_, by omega, fun h => by cases h⟩
    · by_cases h0 : n = 0
      · left; subst h0; simp
      · right
        obtain ⟨b, off, spot⟩ := y
        have c0 := hcell 0 (by omega)
        have hspot : spot = none := by simpa [Addr.add] using World.cell?_spot c0
        subst hspot
        refine ⟨b, off, rfl, ?_⟩
        intro i hi
        have hi' : i < n := by simp at hi; omega
        have hzi := hcell i (by omega)
        rw [addr_add] at hzi
        rw [hzi]
        have hmem : zs.getD i 0 ∈ zs := by
          have : zs.getD i 0 = zs[i]'(by omega) := by simp [List.getD, show i < zs.length from by omega]
          rw [this]; exact List.getElem_mem _
        have r := bounds_u64 (hwz _ hmem)
        have e2 : ((zs.take n).map Int.toNat).getD i 0 = (zs.getD i 0).toNat := by
          simp [List.getD, hi', show i < zs.length from by omega]
        rw [e2]
        unfold vU
        congr 2
        omega
    · obtain ⟨u, hu, rfl⟩ := List.mem_map.1 hzz
      have := bounds_u64 (hwz u (List.mem_of_mem_take hu))
      omega

set_option maxRecDepth 100000 in
/-- A set, out of its cells. -/
theorem trod_set {H : Type} {enc : TypeId × Value → H} {W : World} {fuel : Nat} {cs : List Value} {x : DataW H × List MemPlace}
    (h : DataW.trod enc Tryd.prog W 0 (fun _ => true) true fuel 35 cs = some x) (hz : ∀ k ∈ x.1.weights Tryd.prog 35, k ≤ reachBytes) :
    ∃ s a n c xs, cs = [.int .i64 s, .slice a n c] ∧ -9223372036854775808 ≤ s ∧ s ≤ 9223372036854775807 ∧ SlW W a n c xs ∧ OkW xs ∧ n ≤ 17592186043904 ∧ (a = none → n = 0 ∧ c = 0) := by
  obtain ⟨y0, y1, m, rfl, hl, h0, h1⟩ := trod_struct2 Tryd.underlying35 h
  rw [law_cellsS] at hl
  match cs, hl with
  | [c0, c1], _ =>
    simp only [List.drop_zero, List.drop_succ_cons, law_cellsI, law_cellsWs, List.take_succ_cons, List.take_zero] at h0 h1
    obtain ⟨s, e0, rfl, hw⟩ := DataW.trod_int Tryd.underlying3 h0
    obtain ⟨a, n, c, xs, e1, k1, k2, k3, k4⟩ := trod_words h1 (fun k hk => hz k (by simp [DataW.weights, DataW.weightsEach, Tryd.underlying35, hk]))
    cases e0
    cases e1
    exact ⟨s, a, n, c, xs, rfl, (bounds_i64 hw).1, (bounds_i64 hw).2, k1, k2, k3, k4⟩

set_option maxRecDepth 100000 in
theorem arg_set {H : Type} {enc : TypeId × Value → H} {W : World} {v : Value} {d : DataW H} {p : List MemPlace} {r : Reach} {b0 : Nat}
    (hv : Value.okWide Tryd.prog W r b0 35 v) (h : DataW.Trod enc Tryd.prog W 0 (fun _ => true) true 35 v d p) (hz : ∀ k ∈ d.weights Tryd.prog 35, k ≤ reachBytes) :
    ∃ s a n c xs, v = setV s a n c ∧ -9223372036854775808 ≤ s ∧ s ≤ 9223372036854775807 ∧ SlW W a n c xs ∧ OkW xs ∧ n ≤ 17592186043904 ∧ (a = none → n = 0 ∧ c = 0) := by
  obtain ⟨cs, rfl, hsz⟩ := okWide_struct Tryd.underlying35 hv
  obtain ⟨fuel, hf⟩ := h
  obtain ⟨s, a, n, c, xs, e, k⟩ := trod_set hf hz
  refine ⟨s, a, n, c, xs, ?_, k⟩
  unfold setV
  congr 1
  apply Array.ext'
  simpa [Value.cells] using e
end Go.Proofs.YtbendkndnojihabDoor
