/- Rv8 -/
import Derived.Test.YtiadccaaoenccaaDoorRv2
import Derived.Test.YtiadccaaoenccaaDoorWrd
import Derived.Test.YtiadccaaoenccaaDoorRows
import Derived.Deep.Matrix
import Derived.Test.YtiadccaaoenccaaDoorTa0
import Derived.ProofKit
import Derived.OpenShut
import Derived.ShutString
import Derived.ChangeOld
import Derived.Below
import Derived.SizedLaws
import Derived.Test.YtiadccaaoenccaaDoorTb0
import Derived.Test.YtiadccaaoenccaaDoorSi1
import Derived.Test.YtiadccaaoenccaaDoorTc1
import Derived.Test.YtiadccaaoenccaaDoorTe9
import Derived.Test.YtiadccaaoenccaaDoorTb2
namespace Go.Proofs.YtiadccaaoenccaaDoor
open Go.ChangeShapes Go.WideShapes Go.ChangeAt Go.RowKit Go.Deep
set_option linter.unusedVariables false
theorem bulk_one {H : Type} (d : DataW H) : 1 ≤ Rows.uptoBulk d := by
  cases d with
  | lit l => cases l <;> simp [Rows.uptoBulk]
  | nil => simp [Rows.uptoBulk]
  | ptr d => simp [Rows.uptoBulk]
  | slice elems spare => simp [Rows.uptoBulk]
  | agg parts => simp [Rows.uptoBulk]
  | iface t d => simp [Rows.uptoBulk]
  | map entries => simp [Rows.uptoBulk]
  | held h => simp [Rows.uptoBulk]
theorem bulk_len {H : Type} (l : List (DataW H)) : l.length ≤ Rows.uptoBulkAll l := by
  induction l with
  | nil => simp [Rows.uptoBulkAll]
  | cons x r ih => have := bulk_one x; simp only [Rows.uptoBulkAll, List.length_cons]; omega
end Go.Proofs.YtiadccaaoenccaaDoor
namespace Go.Proofs.YtiadccaaoenccaaDoor
open Go.RowKit Go.Deep
set_option linter.unusedVariables false
structure NqZ (W : World) (p : Nq) : Prop where
  sl : (Sl W p.a p.n p.c p.x ∧ Sl W p.b p.m p.d p.y) ∧ Ok p.x ∧ Ok p.y
  le : p.n ≤ 35184372088000 ∧ p.m ≤ 35184372088000
  nil : (p.a = none → p.c = 0) ∧ (p.b = none → p.d = 0)
theorem weights_all {H : Type} {P : Program} {e : TypeId} {l : List (DataW H)} {d : DataW H} (h : d ∈ l) {k : Nat} (hk : k ∈ d.weights P e) : k ∈ DataW.weightsAll P e l := by
  induction l with
  | nil => cases h
  | cons x r ih =>
    unfold DataW.weightsAll
    rcases List.mem_cons.1 h with rfl | h
    · exact List.mem_append_left _ hk
    · exact List.mem_append_right _ (ih h)

set_option maxRecDepth 100000 in
theorem trod_ratZ {H : Type} {enc : TypeId × Value → H} {W : World} {fuel : Nat} {cs : List Value} {x : DataW H × List MemPlace}
    (h : DataW.trod enc Tryd.prog W 0 (fun _ => true) true fuel 52 cs = some x) (hz : ∀ k ∈ x.1.weights Tryd.prog 52, k ≤ reachBytes) :
    ∃ p : Nq, cs = [.bool p.g, .slice p.a p.n p.c, .slice p.b p.m p.d] ∧ NqZ W p := by
  obtain ⟨y0, y1, y2, k, hx, hl, h0, h1, h2⟩ := trod_struct3 Tryd.underlying52 h
  rw [law_cellsR] at hl
  subst hx
  match cs, hl with
  | [c0, c1, c2], _ =>
    simp only [List.drop_zero, List.drop_succ_cons, law_cellsB, law_cellsN, List.take_succ_cons, List.take_zero] at h0 h1 h2
    obtain ⟨g, e0, e0'⟩ := DataW.trod_bool Tryd.underlying4 h0
    obtain ⟨a, n, c, xs, e1, k1, k2, k5, k7⟩ := trod_limbsZ h1 (fun k hk => hz k (by simp [DataW.weights, DataW.weightsEach, Tryd.underlying52, hk]))
    obtain ⟨b, m, d, ys, e2, k3, k4, k6, k8⟩ := trod_limbsZ h2 (fun k hk => hz k (by simp [DataW.weights, DataW.weightsEach, Tryd.underlying52, hk]))
    cases e0
    cases e1
    cases e2
    exact ⟨⟨g, a, n, c, xs, b, m, d, ys⟩, rfl, ⟨⟨k1, k3⟩, k2, k4⟩, ⟨k5, k6⟩, k7, k8⟩
end Go.Proofs.YtiadccaaoenccaaDoor
namespace Go.Proofs.YtiadccaaoenccaaDoor
open Go.ChangeShapes Go.WideShapes Go.ChangeAt Go.RowKit Go.Deep
set_option linter.unusedVariables false
theorem law_bytesI : Tryd.prog.bytesOf 3 = 8 := by kernel_rfl
theorem law_cellsI : Tryd.prog.cellsOf 3 = 1 := by kernel_rfl
theorem law_cellsIs : Tryd.prog.cellsOf 23 = 1 := by kernel_rfl
theorem trod_intsZ {H : Type} {enc : TypeId × Value → H} {W : World} {fuel : Nat} {cs : List Value} {x : DataW H × List MemPlace}
    (h : DataW.trod enc Tryd.prog W 0 (fun _ => true) true fuel 23 cs = some x) (hz : ∀ k ∈ x.1.weights Tryd.prog 23, k ≤ reachBytes) :
    ∃ a n c xs, cs = [.slice a n c] ∧ SlI W a n c xs ∧ n ≤ 17592186044000 := by
  rcases open_ints Tryd.underlying23 Tryd.underlying3 law_cellsI h with ⟨rfl, _⟩ | ⟨y, n, c, zs, rfl, _, hl, hm, hzl, rfl, hcell, hwz⟩
  · exact ⟨none, 0, 0, [], rfl, SlI.nil _, Nat.zero_le _⟩
  · have hzl' : zs.length = c := by simpa using hzl
    have hb := hz (((lits (H := H) .i64 (zs.take n)).length + (lits (H := H) .i64 (zs.drop n)).length) * Tryd.prog.bytesOf 3) (by simp [DataW.weights, Tryd.underlying23])
    have hlen : (lits (H := H) .i64 (zs.take n)).length + (lits (H := H) .i64 (zs.drop n)).length = c := by
      simp [lits]; omega
    rw [hlen, law_bytesI] at hb
    unfold reachBytes at hb
    refine ⟨some y, n, c, zs.take n, rfl, ⟨by simp; omega, hl, hm, ?_⟩, by omega⟩
    by_cases h0 : n = 0
    · left; subst h0; simp
    · right
      obtain ⟨b, off, spot⟩ := y
      have c0 := hcell 0 (by omega)
      have hspot : spot = none := by simpa [Addr.add] using World.cell?_spot c0
      subst hspot
      refine ⟨b, off, rfl, ?_⟩
      intro i hi
      have hi' : i < n := by simp at hi; omega
      have e : (⟨b, off, none⟩ : Addr).add i = ⟨b, off + i, none⟩ := by unfold Addr.add; split <;> simp_all
      have hzi := hcell i (by omega)
      rw [e] at hzi
      rw [hzi]
      have e2 : (zs.take n).getD i 0 = zs.getD i 0 := by
        simp [List.getD, hi', show i < zs.length from by omega]
      rw [e2]
theorem law_cellsO : Tryd.prog.cellsOf 54 = 7 := by kernel_rfl
theorem law_bytesO : Tryd.prog.bytesOf 54 = 88 := by kernel_rfl
theorem law_cellsK : Tryd.prog.cellsOf 48 = 1 := by kernel_rfl
theorem law_cellsOs : Tryd.prog.cellsOf 22 = 1 := by kernel_rfl
theorem law_cellsT : Tryd.prog.cellsOf 25 = 3 := by kernel_rfl
theorem trod_s5 {H : Type} {enc : TypeId × Value → H} {P : Program} {w : World} {base : Nat} {spare : Nat → Bool} {held : Bool} {t : TypeId} {f0 f1 f2 f3 f4 : Field} {fuel : Nat} {cs : List Value} {x : DataW H × List MemPlace} (ht : P.underlying t = some (.struct #[f0, f1, f2, f3, f4])) (h : DataW.trod enc P w base spare held fuel t cs = some x) :
    ∃ y0 y1 y2 y3 y4 n, x = (.agg [y0.1, y1.1, y2.1, y3.1, y4.1], y0.2 ++ (y1.2 ++ (y2.2 ++ (y3.2 ++ y4.2)))) ∧ cs.length = P.cellsOf t ∧ DataW.trod enc P w base spare held n f0.type ((cs.drop f0.offset).take (P.cellsOf f0.type)) = some y0 ∧
      DataW.trod enc P w base spare held n f1.type ((cs.drop f1.offset).take (P.cellsOf f1.type)) = some y1 ∧ DataW.trod enc P w base spare held n f2.type ((cs.drop f2.offset).take (P.cellsOf f2.type)) = some y2 ∧ DataW.trod enc P w base spare held n f3.type ((cs.drop f3.offset).take (P.cellsOf f3.type)) = some y3 ∧
      DataW.trod enc P w base spare held n f4.type ((cs.drop f4.offset).take (P.cellsOf f4.type)) = some y4 := by
  obtain ⟨xs, n, _, rfl, hl, hlen, hf⟩ := DataW.trod_struct ht h
  match xs, hlen with
  | [y0, y1, y2, y3, y4], _ => exact ⟨y0, y1, y2, y3, y4, n, by simp, hl, by simpa using hf 0 f0 rfl, by simpa using hf 1 f1 rfl, by simpa using hf 2 f2 rfl, by simpa using hf 3 f3 rfl, by simpa using hf 4 f4 rfl⟩
set_option maxRecDepth 100000 in
theorem trod_opZ {H : Type} {enc : TypeId × Value → H} {W : World} {fuel : Nat} {cs : List Value} {x : DataW H × List MemPlace}
    (h : DataW.trod enc Tryd.prog W 0 (fun _ => true) true fuel 54 cs = some x) (hz : ∀ k ∈ x.1.weights Tryd.prog 54, k ≤ reachBytes) :
    ∃ o : On, cs = cellsO o ∧ NqZ W o.p := by
  obtain ⟨y0, y1, y2, y3, y4, k, rfl, hl, h0, h1, h2, h3, h4⟩ := trod_s5 Tryd.underlying54 h
  rw [law_cellsO] at hl
  match cs, hl with
  | [c0, c1, c2, c3, c4, c5, c6], _ =>
    simp only [List.drop_zero, List.drop_succ_cons, law_cellsI, law_cellsK, law_cellsR, List.take_succ_cons, List.take_zero] at h0 h1 h2 h3 h4
    obtain ⟨r0, e0, _⟩ := DataW.trod_int Tryd.underlying48 h0
    obtain ⟨r1, e1, _⟩ := DataW.trod_int Tryd.underlying3 h1
    obtain ⟨r2, e2, _⟩ := DataW.trod_int Tryd.underlying3 h2
    obtain ⟨r3, e3, _⟩ := DataW.trod_int Tryd.underlying3 h3
    obtain ⟨p, e4, hp⟩ := trod_ratZ h4 (fun k hk => hz k (by simp [DataW.weights, DataW.weightsEach, Tryd.underlying54, hk]))
    cases e0
    cases e1
    cases e2
    cases e3
    injection e4 with e4 e5
    injection e5 with e5 e6
    injection e6 with e6 e7
    subst e4 e5 e6
    exact ⟨⟨r0, r1, r2, r3, p⟩, rfl, hp⟩
set_option maxRecDepth 100000 in
theorem trod_opsZ {H : Type} {enc : TypeId × Value → H} {W : World} {fuel : Nat} {cs : List Value} {x : DataW H × List MemPlace}
    (h : DataW.trod enc Tryd.prog W 0 (fun _ => true) true fuel 22 cs = some x) (hz : ∀ k ∈ x.1.weights Tryd.prog 22, k ≤ reachBytes) :
    ∃ a n c os, cs = [.slice a n c] ∧ SlO W a n c os ∧ n ≤ 1599289640500 ∧ ∀ o ∈ os, NqZ W o.p := by
  rcases DataW.trod_slice Tryd.underlying22 h with ⟨hcs, _⟩ | ⟨a', n', c', elems, rest, m, _, hcs, hx, hb, hl, hm, hlen, hel, hsp, hns⟩
  · exact ⟨none, 0, 0, [], hcs, ⟨rfl, Nat.le_refl _, .inl rfl, fun e he => by cases he⟩, Nat.zero_le _, fun e he => by cases he⟩
  · have hd : x.1 = .slice (elems.map Prod.fst) (rest.map Prod.fst) := by rw [hx]
    rw [hd] at hz
    simp only [DataW.weights, Tryd.underlying22] at hz
    have hw0 := hz _ (List.mem_cons_self)
    rw [law_bytesO] at hw0
    simp only [List.length_map] at hw0
    unfold reachBytes at hw0
    have hwe : ∀ e ∈ elems.map Prod.fst, ∀ k ∈ e.weights Tryd.prog 54, k ≤ reachBytes := fun e he k hk => hz k (List.mem_cons_of_mem _ (List.mem_append_left _ (weights_all he hk)))
    by_cases h0 : n' = 0
    · subst h0
      exact ⟨_, 0, c', [], hcs, ⟨rfl, hl, .inl rfl, fun e he => by cases he⟩, Nat.zero_le _, fun e he => by cases he⟩
    · have hspot : ∃ b off, a' = ⟨b, off, none⟩ := by
        have h1 := hel 0 (by omega)
        rw [law_cellsO] at h1
        rw [List.getElem?_eq_getElem (by omega), Option.bind_eq_some_iff] at h1
        obtain ⟨cs', hcs, hy⟩ := h1
        have hh := World.cells?_some hcs
        have hc0 := hh.2.2 0 (by decide)
        rw [List.getElem?_eq_getElem (by rw [hh.2.1]; decide)] at hc0
        obtain ⟨b, off, spot⟩ := a'
        have := World.cell?_spot hc0
        have hs : spot = none := by simpa [Addr.add] using this
        subst hs
        exact ⟨b, off, rfl⟩
      obtain ⟨b, off, rfl⟩ := hspot
      have addr : ∀ (o i : Nat), (⟨b, o, none⟩ : Addr).add i = ⟨b, o + i, none⟩ := fun o i => by unfold Addr.add; split <;> simp_all
      have each : ∀ i, i < n' → ∃ o : On, OpAt W b (off + i * 7) o ∧ NqZ W o.p := by
        intro i hi
        have h1 := hel i hi
        rw [law_cellsO] at h1
        rw [List.getElem?_eq_getElem (by omega), Option.bind_eq_some_iff] at h1
        obtain ⟨cs', hcs, hy⟩ := h1
        obtain ⟨q, rfl, hq⟩ := trod_opZ hy (hwe _ (List.mem_map_of_mem (f := Prod.fst) (List.getElem_mem (show i < elems.length by omega))))
        have hh := World.cells?_some hcs
        have g0 := hh.2.2 0 (by decide)
        have g1 := hh.2.2 1 (by decide)
        have g2 := hh.2.2 2 (by decide)
        have g3 := hh.2.2 3 (by decide)
        have g4 := hh.2.2 4 (by decide)
        have g5 := hh.2.2 5 (by decide)
        have g6 := hh.2.2 6 (by decide)
        rw [addr, addr] at g0 g1 g2 g3 g4 g5 g6
        exact ⟨q, ⟨by simpa [cellsO] using g0, by simpa [cellsO] using g1, by simpa [cellsO] using g2, by simpa [cellsO] using g3, by simpa [cellsO] using g4, by simpa [cellsO] using g5, by simpa [cellsO] using g6⟩, hq⟩
      have hch : ∃ f : Nat → On, ∀ i, i < n' → OpAt W b (off + i * 7) (f i) ∧ NqZ W (f i).p := by
        refine ⟨fun i => if h : i < n' then Classical.choose (each i h) else ⟨0, 0, 0, 0, ⟨false, none, 0, 0, [], none, 0, 0, []⟩⟩, fun i hi => ?_⟩
        simp only [hi, dif_pos]
        exact Classical.choose_spec (each i hi)
      obtain ⟨f, hf⟩ := hch
      refine ⟨_, n', c', (List.range n').map f, hcs, ⟨by simp, hl, .inr ⟨b, off, rfl, fun i q hq => ?_⟩, fun q hq => ?_⟩, by omega, fun q hq => ?_⟩
      · obtain ⟨hi, e⟩ := List.getElem?_eq_some_iff.1 hq
        have hi' : i < n' := by simpa using hi
        simp at e
        subst e
        exact (hf i hi').1
      · obtain ⟨i, hi, rfl⟩ := List.mem_map.1 hq
        have := (hf i (List.mem_range.1 hi)).2.sl
        exact ⟨this.1.1, this.1.2, this.2.1, this.2.2⟩
      · obtain ⟨i, hi, rfl⟩ := List.mem_map.1 hq
        exact (hf i (List.mem_range.1 hi)).2
structure TapZ (W : World) (a : Option Addr) (n c : Nat) (os : List On) (b : Option Addr) (m d : Nat) (ys : List Int) : Prop where
  o : SlO W a n c os
  i : SlI W b m d ys
  ln : n ≤ 1599289640500
  lm : m ≤ 17592186044000
  sz : ∀ o ∈ os, o.p.n ≤ 35184372088000 ∧ o.p.m ≤ 35184372088000
  nil : ∀ o ∈ os, (o.p.a = none → o.p.c = 0) ∧ (o.p.b = none → o.p.d = 0)
set_option maxRecDepth 100000 in
theorem arg_tapZ {H : Type} {enc : TypeId × Value → H} {W : World} {v : Value} {d : DataW H} {p : List MemPlace} {r : Reach} {b0 : Nat}
    (hv : Value.okWide Tryd.prog W r b0 25 v) (h : DataW.Trod enc Tryd.prog W 0 (fun _ => true) true 25 v d p) (hz : ∀ k ∈ d.weights Tryd.prog 25, k ≤ reachBytes) :
    ∃ i a n c os b m e ys, v = tapV i a n c b m e ∧ TapZ W a n c os b m e ys := by
  obtain ⟨cs, rfl, hsz⟩ := okWide_struct Tryd.underlying25 hv
  obtain ⟨fuel, hf⟩ := h
  obtain ⟨y0, y1, y2, k, hx, hl, h0, h1, h2⟩ := trod_struct3 Tryd.underlying25 hf
  have hcs : (Value.agg cs).cells.toList = cs.toList := by simp [Value.cells]
  rw [hcs] at hl h0 h1 h2
  rw [law_cellsT] at hl
  have hd : d = .agg [y0.1, y1.1, y2.1] := by injection hx
  rw [hd] at hz
  obtain ⟨l, hll⟩ : ∃ l, cs.toList = l := ⟨_, rfl⟩
  rw [hll] at hl h0 h1 h2
  match l, hl with
  | [c0, c1, c2], _ =>
    simp only [List.drop_zero, List.drop_succ_cons, law_cellsI, law_cellsIs, law_cellsOs, List.take_succ_cons, List.take_zero] at h0 h1 h2
    obtain ⟨i, e0, _⟩ := DataW.trod_int Tryd.underlying3 h0
    obtain ⟨a, n, c, os, e1, k1, k2, k3⟩ := trod_opsZ h1 (fun k hk => hz k (by simp [DataW.weights, DataW.weightsEach, Tryd.underlying25, hk]))
    obtain ⟨b, m, e, ys, e2, k4, k5⟩ := trod_intsZ h2 (fun k hk => hz k (by simp [DataW.weights, DataW.weightsEach, Tryd.underlying25, hk]))
    cases e0
    cases e1
    cases e2
    refine ⟨i, a, n, c, os, b, m, e, ys, ?_, ⟨k1, k4, k2, k5, fun o ho => (k3 o ho).le, fun o ho => (k3 o ho).nil⟩⟩
    unfold tapV
    congr 1
    apply Array.ext'
    simpa using hll
end Go.Proofs.YtiadccaaoenccaaDoor
namespace Go.Proofs.YtiadccaaoenccaaDoor
open Go.RowKit Go.Deep
set_option linter.unusedVariables false
def givO : Obj := .cells #[.slice none 0 0, .slice none 0 0, .slice none 0 0, .slice none 0 0, .slice none 0 0, .slice none 0 0, .slice none 0 0, .slice none 0 0, .slice none 0 0, .slice none 0 0, .slice none 0 0, .slice none 0 0, .slice none 0 0, .slice none 0 0, .slice none 0 0, .slice none 0 0, .slice none 0 0, .slice none 0 0, .slice none 0 0, .slice none 0 0] 38
theorem nil20 (i : Nat) (h : i < 20) : (#[.slice none 0 0, .slice none 0 0, .slice none 0 0, .slice none 0 0, .slice none 0 0, .slice none 0 0, .slice none 0 0, .slice none 0 0, .slice none 0 0, .slice none 0 0, .slice none 0 0, .slice none 0 0, .slice none 0 0, .slice none 0 0, .slice none 0 0, .slice none 0 0, .slice none 0 0, .slice none 0 0, .slice none 0 0, .slice none 0 0] : Array Value)[i]? = some (.slice none 0 0) := by
  have : (#[.slice none 0 0, .slice none 0 0, .slice none 0 0, .slice none 0 0, .slice none 0 0, .slice none 0 0, .slice none 0 0, .slice none 0 0, .slice none 0 0, .slice none 0 0, .slice none 0 0, .slice none 0 0, .slice none 0 0, .slice none 0 0, .slice none 0 0, .slice none 0 0, .slice none 0 0, .slice none 0 0, .slice none 0 0, .slice none 0 0] : Array Value) = Array.replicate 20 (.slice none 0 0) := rfl
  rw [this, Array.getElem?_replicate, if_pos h]
theorem GivI.made (w : World) : GivI (w.alloc givO) w.heap.size (.slice none 0 0) (.slice none 0 0) [] (fun _ => .slice none 0 0) := by
  refine ⟨⟨_, alloc_block w _, rfl, rfl, rfl, fun i _ h20 => nil20 i h20⟩, ⟨rfl, .inl ⟨rfl, rfl⟩⟩, ⟨rfl, .inl ⟨rfl, rfl⟩⟩, fun k e => by simp [Value.ownBlock] at e, fun e he => by cases he⟩
def UpS (xs : List Int) (n : Nat) : Prop := ∀ i, 0 < i → i < n → xs.getD (i - 1) 0 < xs.getD i 0
theorem UpS.lt {xs : List Int} {n : Nat} (h : UpS xs n) {i : Nat} : ∀ d, i + d + 1 < n → xs.getD i 0 < xs.getD (i + d + 1) 0
  | 0, hd => by have := h (i + 1) (by omega) (by omega); simpa using this
  | d + 1, hd => by
    have h1 := UpS.lt h d (by omega : i + d + 1 < n)
    have h2 := h (i + (d + 1) + 1) (by omega) hd
    rw [show i + (d + 1) + 1 - 1 = i + d + 1 by omega] at h2
    exact Int.lt_trans h1 h2
theorem UpS.lt' {xs : List Int} {n : Nat} (h : UpS xs n) {i j : Nat} (hij : i < j) (hj : j < n) : xs.getD i 0 < xs.getD j 0 := by
  have := h.lt (i := i) (j - i - 1) (by omega)
  rwa [show i + (j - i - 1) + 1 = j by omega] at this
def HasX (xs : List Int) (n : Nat) (t : Int) : Prop := ∃ k, k < n ∧ xs.getD k 0 = t
structure BsP (xs : List Int) (n : Nat) (t : Int) (i : Nat) : Prop where
  le : i ≤ n
  lo : ∀ k, k < i → xs.getD k 0 < t
  hi : ∀ k, i ≤ k → k < n → t ≤ xs.getD k 0
theorem BsP.has {xs : List Int} {n : Nat} {t : Int} {i : Nat} (h : BsP xs n t i) (hu : UpS xs n) (hl : i < n) : HasX xs n t ↔ xs.getD i 0 = t := by
  constructor
  · rintro ⟨k, hk, e⟩
    rcases Nat.lt_trichotomy k i with c | c | c
    · have := h.lo k c; omega
    · rw [← c]; exact e
    · have h1 := hu.lt' c hk
      have h2 := h.hi i (Nat.le_refl _) hl
      omega
  · intro e
    exact ⟨i, hl, e⟩
theorem BsP.no {xs : List Int} {n : Nat} {t : Int} (h : BsP xs n t n) : ¬ HasX xs n t := by
  rintro ⟨k, hk, e⟩
  have := h.lo k hk
  omega
theorem BsP.ex (xs : List Int) (t : Int) : ∀ n, UpS xs n → ∃ i, BsP xs n t i
  | 0, _ => ⟨0, Nat.le_refl _, fun k hk => absurd hk (Nat.not_lt_zero _), fun k _ hk => absurd hk (Nat.not_lt_zero _)⟩
  | n + 1, hu => by
    obtain ⟨i, h⟩ := BsP.ex xs t n (fun i h1 h2 => hu i h1 (by omega))
    by_cases hl : i < n
    · refine ⟨i, by have := h.le; omega, h.lo, fun k h1 h2 => ?_⟩
      by_cases e : k = n
      · have h3 := hu.lt' (i := i) (j := n) hl (by omega)
        have h4 := h.hi i (Nat.le_refl _) hl
        rw [e]; omega
      · exact h.hi k h1 (by omega)
    · have e : i = n := by have := h.le; omega
      subst e
      by_cases c : xs.getD i 0 < t
      · refine ⟨i + 1, by omega, fun k hk => ?_, fun k h1 h2 => by omega⟩
        by_cases e : k = i
        · rw [e]; exact c
        · exact h.lo k (by omega)
      · refine ⟨i, by omega, h.lo, fun k h1 h2 => ?_⟩
        rw [show k = i by omega]; omega
structure RowAt (st cols : List Int) (width : Int) (k X Y : Nat) : Prop where
  hX : st.getD k 0 = (X : Int)
  hY : st.getD (k + 1) 0 = (Y : Int)
  le : X ≤ Y
  lt : Y ≤ cols.length
  row : RowP width cols X Y
theorem RowAt.up {st cols : List Int} {width : Int} {k X Y : Nat} (h : RowAt st cols width k X Y) : UpS ((cols.drop X).take (Y - X)) (Y - X) := fun i h1 h2 => ((RowP.sub h.le).2 h.row).up i h1 h2
structure HasP (rows width : Int) (st cols : List Int) (r c : Int) : Prop where
  may : MayP rows width st cols
  lo : 0 ≤ r
  hi : r < rows
  at_ : ∃ i, (st.getD r.toNat 0).toNat ≤ i ∧ i < (st.getD (r.toNat + 1) 0).toNat ∧ cols.getD i 0 = c
theorem RowAt.has {st cols : List Int} {width : Int} {k X Y : Nat} (h : RowAt st cols width k X Y) {rows : Int} (hm : MayP rows width st cols) (hk : (k : Int) < rows) (c : Int) : HasX ((cols.drop X).take (Y - X)) (Y - X) c ↔ HasP rows width st cols (k : Int) c := by
  have e : ∀ i, i < Y - X → ((cols.drop X).take (Y - X)).getD i 0 = cols.getD (X + i) 0 := fun i hi => by simp [List.getD, List.getElem?_drop, hi]
  have e1 : (st.getD ((k : Int)).toNat 0).toNat = X := by rw [show ((k : Int)).toNat = k by omega, h.hX]; omega
  have e2 : (st.getD (((k : Int)).toNat + 1) 0).toNat = Y := by rw [show ((k : Int)).toNat = k by omega, h.hY]; omega
  constructor
  · rintro ⟨i, hi, hc⟩
    rw [e i hi] at hc
    exact ⟨hm, by omega, hk, X + i, by rw [e1]; omega, by rw [e2]; omega, hc⟩
  · rintro ⟨_, _, _, i, h1, h2, hc⟩
    rw [e1] at h1
    rw [e2] at h2
    exact ⟨i - X, by omega, by rw [e _ (by omega), show X + (i - X) = i by omega]; exact hc⟩
theorem BIq.qi {P : Prop} {ok : Bool} {w w' : World} {e : Ending} (h : BIq P w w' e) (ho : ok = true ↔ P) : QI ok w w' e := by
  obtain ⟨⟨b, rfl, hb⟩, rfl⟩ := h
  refine ⟨?_, Dr.refl _⟩
  have : b = ok := by have h4 := hb.trans ho.symm; cases b <;> cases ok <;> simp_all
  rw [this]
def RoV (w : World) (b n : Nat) (f : Nat → Value) : Prop := ∀ i, i < n → w.cell? ⟨b, i, none⟩ = some (f i) ∧ w.frozen? ⟨b, i, none⟩ = false
theorem RoV.made (w : World) (n : Nat) (e : TypeId) (z : Value) : RoV (w.alloc (.cells (madeCells #[z] n) e)) w.heap.size n (fun _ => z) := by
  intro i hi
  refine ⟨?_, by simp⟩
  simp [madeCells, hi, Nat.mod_one]
theorem RoV.chg {S : Nat → Prop} {w w' : World} {b n : Nat} {f : Nat → Value} (h : RoV w b n f) (k : Chg S w w') (hs : ¬ S b) : RoV w' b n f := fun i hi => ⟨k.cell hs (h i hi).1, by rw [k.frzP (World.block_lt_of_cell? _ _ (h i hi).1) hs]; exact (h i hi).2⟩
theorem RoV.below {w w' : World} {b n : Nat} {f : Nat → Value} (h : RoV w b n f) (k : Below w.heap.size w w') : RoV w' b n f := h.chg (S := fun _ => False) (Chg.of_below k) (fun x => x)
theorem RoV.put {w : World} {b n : Nat} {f : Nat → Value} (h : RoV w b n f) (k : Nat) (v : Value) (hk : k < n) : RoV (w.setCell ⟨b, k, none⟩ v) b n (fun i => if i = k then v else f i) := by
  intro i hi
  rw [World.frozen?_setCell]
  refine ⟨?_, (h i hi).2⟩
  by_cases e : i = k
  · subst e
    simp only [if_true]
    exact World.cell?_setCell_same _ _ _ (h i hi).1
  · simp only [e, if_false]
    rw [World.cell?_setCell_other _ _ _ _ (by intro c; simp at c; first | done | omega)]
    exact (h i hi).1
theorem RoV.congr {w : World} {b n : Nat} {f g : Nat → Value} (h : RoV w b n f) (e : ∀ i, i < n → f i = g i) : RoV w b n g := fun i hi => by rw [← e i hi]; exact h i hi
noncomputable def tb (P : Prop) : Bool := @decide P (Classical.propDecidable P)
end Go.Proofs.YtiadccaaoenccaaDoor

namespace Go.Proofs.YtiadccaaoenccaaDoor
open Go.RowKit Go.Deep
set_option linter.unusedVariables false

end Go.Proofs.YtiadccaaoenccaaDoor

namespace Go.Proofs.YtiadccaaoenccaaDoor
open Go.RowKit Go.Deep
set_option linter.unusedVariables false

end Go.Proofs.YtiadccaaoenccaaDoor

namespace Go.Proofs.YtiadccaaoenccaaDoor
open Go.RowKit Go.Deep
set_option linter.unusedVariables false

end Go.Proofs.YtiadccaaoenccaaDoor
namespace Go.Proofs.YtiadccaaoenccaaDoor
open Go.RowKit Go.Deep
set_option linter.unusedVariables false
theorem GvT.made (w : World) : GvT (w.alloc givO) w.heap.size (fun _ => .slice none 0 0) (fun _ => False) [] [] [] := by
  refine ⟨⟨⟨_, alloc_block w _, rfl, fun i hi => nil20 i hi⟩, fun i hi => ?_, (fun i j _ _ _ k e => by simp [Value.ownBlock] at e), (fun k e => e.elim), rfl⟩, (fun x hx => by cases hx), (fun x hx => by cases hx), (fun x hx => by cases hx)⟩
  have e : rowT [] [] [] i = [] := by unfold rowT; split <;> rfl
  rw [e]
  exact ⟨rfl, .inl ⟨rfl, rfl⟩⟩
theorem SlO.front {w : World} {a : Option Addr} {N n c : Nat} {os : List On} (h : SlO w a N c os) (hn : n ≤ N) : SlO w a n c (os.take n) := by
  refine ⟨by have := h.len; simp; omega, Nat.le_trans hn h.le, ?_, fun o ho => h.each o (List.mem_of_mem_take ho)⟩
  rcases h.cells with h0 | ⟨b, off, e, hc⟩
  · exact .inl (by rw [h0]; simp)
  · exact .inr ⟨b, off, e, fun i o hi => hc i o (by
      rw [List.getElem?_take] at hi
      split at hi
      · exact hi
      · cases hi)⟩
end Go.Proofs.YtiadccaaoenccaaDoor
