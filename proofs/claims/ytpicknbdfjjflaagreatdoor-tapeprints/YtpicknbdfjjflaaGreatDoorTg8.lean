/- Rv8 -/
import Derived.Test.YtpicknbdfjjflaaGreatDoorRv2
import Derived.Test.YtpicknbdfjjflaaGreatDoorWrd
import Derived.Test.YtpicknbdfjjflaaGreatDoorRows
import Derived.Deep.Matrix
import Derived.Test.YtpicknbdfjjflaaGreatDoorTa0
import Derived.ProofKit
import Derived.OpenShut
import Derived.ShutString
import Derived.ChangeOld
import Derived.Below
import Derived.SizedLaws
import Derived.Test.YtpicknbdfjjflaaGreatDoorTb0
import Derived.Test.YtpicknbdfjjflaaGreatDoorTg6
import Derived.Test.YtpicknbdfjjflaaGreatDoorTb2
import Derived.Test.YtpicknbdfjjflaaGreatDoorSp3
import Derived.LaidMore
import Derived.Lib.LaidTab
import Derived.Stop.Joined
namespace Go.Proofs.YtpicknbdfjjflaaGreatDoor
open Go.ChangeShapes Go.WideShapes Go.ChangeAt Go.RowKit Go.Deep
set_option linter.unusedVariables false

end Go.Proofs.YtpicknbdfjjflaaGreatDoor
namespace Go.Proofs.YtpicknbdfjjflaaGreatDoor
open Go.RowKit Go.Deep
set_option linter.unusedVariables false
structure NqZ (W : World) (p : Nq) : Prop where
  sl : (Sl W p.a p.n p.c p.x ∧ Sl W p.b p.m p.d p.y) ∧ Ok p.x ∧ Ok p.y
  le : p.n ≤ 35184372088000 ∧ p.m ≤ 35184372088000
  nil : (p.a = none → p.c = 0) ∧ (p.b = none → p.d = 0)
theorem weights_all {H : Type} {P : Program} {e : TypeId} {l : List (DataW H)} {d : DataW H} (h : d ∈ l) {k : Nat} (hk : k ∈ d.weights P e) : k ∈ DataW.weightsAll P e l := by
  induction l with
  | nil => cases h
  | cons x r ih =>
    unfold DataW.weightsAll
    rcases List.mem_cons.1 h with rfl | h
    · exact List.mem_append_left _ hk
    · exact List.mem_append_right _ (ih h)

set_option maxRecDepth 100000 in
theorem trod_ratZ {H : Type} {enc : TypeId × Value → H} {W : World} {fuel : Nat} {cs : List Value} {x : DataW H × List MemPlace}
    (h : DataW.trod enc Tryz.prog W 0 (fun _ => true) true fuel 53 cs = some x) (hz : ∀ k ∈ x.1.weights Tryz.prog 53, k ≤ reachBytes) :
    ∃ p : Nq, cs = [.bool p.g, .slice p.a p.n p.c, .slice p.b p.m p.d] ∧ NqZ W p := by
  obtain ⟨y0, y1, y2, k, hx, hl, h0, h1, h2⟩ := trod_struct3 Tryz.underlying53 h
  rw [law_cellsR] at hl
  subst hx
  match cs, hl with
  | [c0, c1, c2], _ =>
    simp only [List.drop_zero, List.drop_succ_cons, law_cellsB, law_cellsN, List.take_succ_cons, List.take_zero] at h0 h1 h2
    obtain ⟨g, e0, e0'⟩ := DataW.trod_bool Tryz.underlying4 h0
    obtain ⟨a, n, c, xs, e1, k1, k2, k5, k7⟩ := trod_limbsZ h1 (fun k hk => hz k (by simp [DataW.weights, DataW.weightsEach, Tryz.underlying53, hk]))
    obtain ⟨b, m, d, ys, e2, k3, k4, k6, k8⟩ := trod_limbsZ h2 (fun k hk => hz k (by simp [DataW.weights, DataW.weightsEach, Tryz.underlying53, hk]))
    cases e0
    cases e1
    cases e2
    exact ⟨⟨g, a, n, c, xs, b, m, d, ys⟩, rfl, ⟨⟨k1, k3⟩, k2, k4⟩, ⟨k5, k6⟩, k7, k8⟩
end Go.Proofs.YtpicknbdfjjflaaGreatDoor
namespace Go.Proofs.YtpicknbdfjjflaaGreatDoor
open Go.ChangeShapes Go.WideShapes Go.ChangeAt Go.RowKit Go.Deep
set_option linter.unusedVariables false
theorem law_bytesI : Tryz.prog.bytesOf 3 = 8 := by kernel_rfl
theorem law_cellsI : Tryz.prog.cellsOf 3 = 1 := by kernel_rfl
theorem law_cellsIs : Tryz.prog.cellsOf 23 = 1 := by kernel_rfl
theorem trod_intsZ {H : Type} {enc : TypeId × Value → H} {W : World} {fuel : Nat} {cs : List Value} {x : DataW H × List MemPlace}
    (h : DataW.trod enc Tryz.prog W 0 (fun _ => true) true fuel 23 cs = some x) (hz : ∀ k ∈ x.1.weights Tryz.prog 23, k ≤ reachBytes) :
    ∃ a n c xs, cs = [.slice a n c] ∧ SlI W a n c xs ∧ n ≤ 17592186044000 := by
  rcases open_ints Tryz.underlying23 Tryz.underlying3 law_cellsI h with ⟨rfl, _⟩ | ⟨y, n, c, zs, rfl, _, hl, hm, hzl, rfl, hcell, hwz⟩
  · exact ⟨none, 0, 0, [], rfl, SlI.nil _, Nat.zero_le _⟩
  · have hzl' : zs.length = c := by simpa using hzl
    have hb := hz (((lits (H := H) .i64 (zs.take n)).length + (lits (H := H) .i64 (zs.drop n)).length) * Tryz.prog.bytesOf 3) (by simp [DataW.weights, Tryz.underlying23])
    have hlen : (lits (H := H) .i64 (zs.take n)).length + (lits (H := H) .i64 (zs.drop n)).length = c := by
      simp [lits]; omega
    rw [hlen, law_bytesI] at hb
    unfold reachBytes at hb
    refine ⟨some y, n, c, zs.take n, rfl, ⟨by simp; omega, hl, hm, ?_⟩, by omega⟩
    by_cases h0 : n = 0
    · left; subst h0; simp
    · right
      obtain ⟨b, off, spot⟩ := y
      have c0 := hcell 0 (by omega)
      have hspot : spot = none := by simpa [Addr.add] using World.cell?_spot c0
      subst hspot
      refine ⟨b, off, rfl, ?_⟩
      intro i hi
      have hi' : i < n := by simp at hi; omega
      have e : (⟨b, off, none⟩ : Addr).add i = ⟨b, off + i, none⟩ := by unfold Addr.add; split <;> simp_all
      have hzi := hcell i (by omega)
      rw [e] at hzi
      rw [hzi]
      have e2 : (zs.take n).getD i 0 = zs.getD i 0 := by
        simp [List.getD, hi', show i < zs.length from by omega]
      rw [e2]
theorem law_cellsO : Tryz.prog.cellsOf 55 = 7 := by kernel_rfl
theorem law_bytesO : Tryz.prog.bytesOf 55 = 88 := by kernel_rfl
theorem law_cellsK : Tryz.prog.cellsOf 49 = 1 := by kernel_rfl
theorem law_cellsOs : Tryz.prog.cellsOf 22 = 1 := by kernel_rfl
theorem law_cellsT : Tryz.prog.cellsOf 25 = 3 := by kernel_rfl
theorem trod_s5 {H : Type} {enc : TypeId × Value → H} {P : Program} {w : World} {base : Nat} {spare : Nat → Bool} {held : Bool} {t : TypeId} {f0 f1 f2 f3 f4 : Field} {fuel : Nat} {cs : List Value} {x : DataW H × List MemPlace} (ht : P.underlying t = some (.struct #[f0, f1, f2, f3, f4])) (h : DataW.trod enc P w base spare held fuel t cs = some x) :
    ∃ y0 y1 y2 y3 y4 n, x = (.agg [y0.1, y1.1, y2.1, y3.1, y4.1], y0.2 ++ (y1.2 ++ (y2.2 ++ (y3.2 ++ y4.2)))) ∧ cs.length = P.cellsOf t ∧ DataW.trod enc P w base spare held n f0.type ((cs.drop f0.offset).take (P.cellsOf f0.type)) = some y0 ∧
      DataW.trod enc P w base spare held n f1.type ((cs.drop f1.offset).take (P.cellsOf f1.type)) = some y1 ∧ DataW.trod enc P w base spare held n f2.type ((cs.drop f2.offset).take (P.cellsOf f2.type)) = some y2 ∧ DataW.trod enc P w base spare held n f3.type ((cs.drop f3.offset).take (P.cellsOf f3.type)) = some y3 ∧
      DataW.trod enc P w base spare held n f4.type ((cs.drop f4.offset).take (P.cellsOf f4.type)) = some y4 := by
  obtain ⟨xs, n, _, rfl, hl, hlen, hf⟩ := DataW.trod_struct ht h
  match xs, hlen with
  | [y0, y1, y2, y3, y4], _ => exact ⟨y0, y1, y2, y3, y4, n, by simp, hl, by simpa using hf 0 f0 rfl, by simpa using hf 1 f1 rfl, by simpa using hf 2 f2 rfl, by simpa using hf 3 f3 rfl, by simpa using hf 4 f4 rfl⟩
set_option maxRecDepth 100000 in
theorem trod_opZ {H : Type} {enc : TypeId × Value → H} {W : World} {fuel : Nat} {cs : List Value} {x : DataW H × List MemPlace}
    (h : DataW.trod enc Tryz.prog W 0 (fun _ => true) true fuel 55 cs = some x) (hz : ∀ k ∈ x.1.weights Tryz.prog 55, k ≤ reachBytes) :
    ∃ o : On, cs = cellsO o ∧ NqZ W o.p := by
  obtain ⟨y0, y1, y2, y3, y4, k, rfl, hl, h0, h1, h2, h3, h4⟩ := trod_s5 Tryz.underlying55 h
  rw [law_cellsO] at hl
  match cs, hl with
  | [c0, c1, c2, c3, c4, c5, c6], _ =>
    simp only [List.drop_zero, List.drop_succ_cons, law_cellsI, law_cellsK, law_cellsR, List.take_succ_cons, List.take_zero] at h0 h1 h2 h3 h4
    obtain ⟨r0, e0, _⟩ := DataW.trod_int Tryz.underlying49 h0
    obtain ⟨r1, e1, _⟩ := DataW.trod_int Tryz.underlying3 h1
    obtain ⟨r2, e2, _⟩ := DataW.trod_int Tryz.underlying3 h2
    obtain ⟨r3, e3, _⟩ := DataW.trod_int Tryz.underlying3 h3
    obtain ⟨p, e4, hp⟩ := trod_ratZ h4 (fun k hk => hz k (by simp [DataW.weights, DataW.weightsEach, Tryz.underlying55, hk]))
    cases e0
    cases e1
    cases e2
    cases e3
    injection e4 with e4 e5
    injection e5 with e5 e6
    injection e6 with e6 e7
    subst e4 e5 e6
    exact ⟨⟨r0, r1, r2, r3, p⟩, rfl, hp⟩
set_option maxRecDepth 100000 in
theorem trod_opsZ {H : Type} {enc : TypeId × Value → H} {W : World} {fuel : Nat} {cs : List Value} {x : DataW H × List MemPlace}
    (h : DataW.trod enc Tryz.prog W 0 (fun _ => true) true fuel 22 cs = some x) (hz : ∀ k ∈ x.1.weights Tryz.prog 22, k ≤ reachBytes) :
    ∃ a n c os, cs = [.slice a n c] ∧ SlO W a n c os ∧ n ≤ 1599289640500 ∧ ∀ o ∈ os, NqZ W o.p := by
  rcases DataW.trod_slice Tryz.underlying22 h with ⟨hcs, _⟩ | ⟨a', n', c', elems, rest, m, _, hcs, hx, hb, hl, hm, hlen, hel, hsp, hns⟩
  · exact ⟨none, 0, 0, [], hcs, ⟨rfl, Nat.le_refl _, .inl rfl, fun e he => by cases he⟩, Nat.zero_le _, fun e he => by cases he⟩
  · have hd : x.1 = .slice (elems.map Prod.fst) (rest.map Prod.fst) := by rw [hx]
    rw [hd] at hz
    simp only [DataW.weights, Tryz.underlying22] at hz
    have hw0 := hz _ (List.mem_cons_self)
    rw [law_bytesO] at hw0
    simp only [List.length_map] at hw0
    unfold reachBytes at hw0
    have hwe : ∀ e ∈ elems.map Prod.fst, ∀ k ∈ e.weights Tryz.prog 55, k ≤ reachBytes := fun e he k hk => hz k (List.mem_cons_of_mem _ (List.mem_append_left _ (weights_all he hk)))
    by_cases h0 : n' = 0
    · subst h0
      exact ⟨_, 0, c', [], hcs, ⟨rfl, hl, .inl rfl, fun e he => by cases he⟩, Nat.zero_le _, fun e he => by cases he⟩
    · have hspot : ∃ b off, a' = ⟨b, off, none⟩ := by
        have h1 := hel 0 (by omega)
        rw [law_cellsO] at h1
        rw [List.getElem?_eq_getElem (by omega), Option.bind_eq_some_iff] at h1
        obtain ⟨cs', hcs, hy⟩ := h1
        have hh := World.cells?_some hcs
        have hc0 := hh.2.2 0 (by decide)
        rw [List.getElem?_eq_getElem (by rw [hh.2.1]; decide)] at hc0
        obtain ⟨b, off, spot⟩ := a'
        have := World.cell?_spot hc0
        have hs : spot = none := by simpa [Addr.add] using this
        subst hs
        exact ⟨b, off, rfl⟩
      obtain ⟨b, off, rfl⟩ := hspot
      have addr : ∀ (o i : Nat), (⟨b, o, none⟩ : Addr).add i = ⟨b, o + i, none⟩ := fun o i => by unfold Addr.add; split <;> simp_all
      have each : ∀ i, i < n' → ∃ o : On, OpAt W b (off + i * 7) o ∧ NqZ W o.p := by
        intro i hi
        have h1 := hel i hi
        rw [law_cellsO] at h1
        rw [List.getElem?_eq_getElem (by omega), Option.bind_eq_some_iff] at h1
        obtain ⟨cs', hcs, hy⟩ := h1
        obtain ⟨q, rfl, hq⟩ := trod_opZ hy (hwe _ (List.mem_map_of_mem (f := Prod.fst) (List.getElem_mem (show i < elems.length by omega))))
        have hh := World.cells?_some hcs
        have g0 := hh.2.2 0 (by decide)
        have g1 := hh.2.2 1 (by decide)
        have g2 := hh.2.2 2 (by decide)
        have g3 := hh.2.2 3 (by decide)
        have g4 := hh.2.2 4 (by decide)
        have g5 := hh.2.2 5 (by decide)
        have g6 := hh.2.2 6 (by decide)
        rw [addr, addr] at g0 g1 g2 g3 g4 g5 g6
        exact ⟨q, ⟨by simpa [cellsO] using g0, by simpa [cellsO] using g1, by simpa [cellsO] using g2, by simpa [cellsO] using g3, by simpa [cellsO] using g4, by simpa [cellsO] using g5, by simpa [cellsO] using g6⟩, hq⟩
      have hch : ∃ f : Nat → On, ∀ i, i < n' → OpAt W b (off + i * 7) (f i) ∧ NqZ W (f i).p := by
        refine ⟨fun i => if h : i < n' then Classical.choose (each i h) else ⟨0, 0, 0, 0, ⟨false, none, 0, 0, [], none, 0, 0, []⟩⟩, fun i hi => ?_⟩
        simp only [hi, dif_pos]
        exact Classical.choose_spec (each i hi)
      obtain ⟨f, hf⟩ := hch
      refine ⟨_, n', c', (List.range n').map f, hcs, ⟨by simp, hl, .inr ⟨b, off, rfl, fun i q hq => ?_⟩, fun q hq => ?_⟩, by omega, fun q hq => ?_⟩
      · obtain ⟨hi, e⟩ := List.getElem?_eq_some_iff.1 hq
        have hi' : i < n' := by simpa using hi
        simp at e
        subst e
        exact (hf i hi').1
      · obtain ⟨i, hi, rfl⟩ := List.mem_map.1 hq
        have := (hf i (List.mem_range.1 hi)).2.sl
        exact ⟨this.1.1, this.1.2, this.2.1, this.2.2⟩
      · obtain ⟨i, hi, rfl⟩ := List.mem_map.1 hq
        exact (hf i (List.mem_range.1 hi)).2
structure TapZ (W : World) (a : Option Addr) (n c : Nat) (os : List On) (b : Option Addr) (m d : Nat) (ys : List Int) : Prop where
  o : SlO W a n c os
  i : SlI W b m d ys
  ln : n ≤ 1599289640500
  lm : m ≤ 17592186044000
  sz : ∀ o ∈ os, o.p.n ≤ 35184372088000 ∧ o.p.m ≤ 35184372088000
  nil : ∀ o ∈ os, (o.p.a = none → o.p.c = 0) ∧ (o.p.b = none → o.p.d = 0)
set_option maxRecDepth 100000 in
theorem arg_tapZ {H : Type} {enc : TypeId × Value → H} {W : World} {v : Value} {d : DataW H} {p : List MemPlace} {r : Reach} {b0 : Nat}
    (hv : Value.okWide Tryz.prog W r b0 25 v) (h : DataW.Trod enc Tryz.prog W 0 (fun _ => true) true 25 v d p) (hz : ∀ k ∈ d.weights Tryz.prog 25, k ≤ reachBytes) :
    ∃ i a n c os b m e ys, v = tapV i a n c b m e ∧ TapZ W a n c os b m e ys := by
  obtain ⟨cs, rfl, hsz⟩ := okWide_struct Tryz.underlying25 hv
  obtain ⟨fuel, hf⟩ := h
  obtain ⟨y0, y1, y2, k, hx, hl, h0, h1, h2⟩ := trod_struct3 Tryz.underlying25 hf
  have hcs : (Value.agg cs).cells.toList = cs.toList := by simp [Value.cells]
  rw [hcs] at hl h0 h1 h2
  rw [law_cellsT] at hl
  have hd : d = .agg [y0.1, y1.1, y2.1] := by injection hx
  rw [hd] at hz
  obtain ⟨l, hll⟩ : ∃ l, cs.toList = l := ⟨_, rfl⟩
  rw [hll] at hl h0 h1 h2
  match l, hl with
  | [c0, c1, c2], _ =>
    simp only [List.drop_zero, List.drop_succ_cons, law_cellsI, law_cellsIs, law_cellsOs, List.take_succ_cons, List.take_zero] at h0 h1 h2
    obtain ⟨i, e0, _⟩ := DataW.trod_int Tryz.underlying3 h0
    obtain ⟨a, n, c, os, e1, k1, k2, k3⟩ := trod_opsZ h1 (fun k hk => hz k (by simp [DataW.weights, DataW.weightsEach, Tryz.underlying25, hk]))
    obtain ⟨b, m, e, ys, e2, k4, k5⟩ := trod_intsZ h2 (fun k hk => hz k (by simp [DataW.weights, DataW.weightsEach, Tryz.underlying25, hk]))
    cases e0
    cases e1
    cases e2
    refine ⟨i, a, n, c, os, b, m, e, ys, ?_, ⟨k1, k4, k2, k5, fun o ho => (k3 o ho).le, fun o ho => (k3 o ho).nil⟩⟩
    unfold tapV
    congr 1
    apply Array.ext'
    simpa using hll
end Go.Proofs.YtpicknbdfjjflaaGreatDoor
namespace Go.Proofs.YtpicknbdfjjflaaGreatDoor
open Go.RowKit Go.Deep
set_option linter.unusedVariables false
def givO : Obj := .cells #[.slice none 0 0, .slice none 0 0, .slice none 0 0, .slice none 0 0, .slice none 0 0, .slice none 0 0, .slice none 0 0, .slice none 0 0, .slice none 0 0, .slice none 0 0, .slice none 0 0, .slice none 0 0, .slice none 0 0, .slice none 0 0, .slice none 0 0, .slice none 0 0, .slice none 0 0, .slice none 0 0, .slice none 0 0, .slice none 0 0] 38
theorem nil20 (i : Nat) (h : i < 20) : (#[.slice none 0 0, .slice none 0 0, .slice none 0 0, .slice none 0 0, .slice none 0 0, .slice none 0 0, .slice none 0 0, .slice none 0 0, .slice none 0 0, .slice none 0 0, .slice none 0 0, .slice none 0 0, .slice none 0 0, .slice none 0 0, .slice none 0 0, .slice none 0 0, .slice none 0 0, .slice none 0 0, .slice none 0 0, .slice none 0 0] : Array Value)[i]? = some (.slice none 0 0) := by
  have : (#[.slice none 0 0, .slice none 0 0, .slice none 0 0, .slice none 0 0, .slice none 0 0, .slice none 0 0, .slice none 0 0, .slice none 0 0, .slice none 0 0, .slice none 0 0, .slice none 0 0, .slice none 0 0, .slice none 0 0, .slice none 0 0, .slice none 0 0, .slice none 0 0, .slice none 0 0, .slice none 0 0, .slice none 0 0, .slice none 0 0] : Array Value) = Array.replicate 20 (.slice none 0 0) := rfl
  rw [this, Array.getElem?_replicate, if_pos h]
theorem GivI.made (w : World) : GivI (w.alloc givO) w.heap.size (.slice none 0 0) (.slice none 0 0) [] (fun _ => .slice none 0 0) := by
  refine ⟨⟨_, alloc_block w _, rfl, rfl, rfl, fun i _ h20 => nil20 i h20⟩, ⟨rfl, .inl ⟨rfl, rfl⟩⟩, ⟨rfl, .inl ⟨rfl, rfl⟩⟩, fun k e => by simp [Value.ownBlock] at e, fun e he => by cases he⟩
theorem GvT.made (w : World) : GvT (w.alloc givO) w.heap.size (fun _ => .slice none 0 0) (fun _ => False) [] [] [] := by
  refine ⟨⟨⟨_, alloc_block w _, rfl, fun i hi => nil20 i hi⟩, fun i hi => ?_, (fun i j _ _ _ k e => by simp [Value.ownBlock] at e), (fun k e => e.elim), rfl⟩, (fun x hx => by cases hx), (fun x hx => by cases hx), (fun x hx => by cases hx)⟩
  have e : rowT [] [] [] i = [] := by unfold rowT; split <;> rfl
  rw [e]
  exact ⟨rfl, .inl ⟨rfl, rfl⟩⟩
theorem SlO.front {w : World} {a : Option Addr} {N n c : Nat} {os : List On} (h : SlO w a N c os) (hn : n ≤ N) : SlO w a n c (os.take n) := by
  refine ⟨by have := h.len; simp; omega, Nat.le_trans hn h.le, ?_, fun o ho => h.each o (List.mem_of_mem_take ho)⟩
  rcases h.cells with h0 | ⟨b, off, e, hc⟩
  · exact .inl (by rw [h0]; simp)
  · exact .inr ⟨b, off, e, fun i o hi => hc i o (by
      rw [List.getElem?_take] at hi
      split at hi
      · exact hi
      · cases hi)⟩
structure GtP (w wr : World) (B : Nat) (i : Int) (n m : Nat) (os : List On) (ys : List Int) (v : Value) : Prop where
  ex : ∃ (A : Nat) (c : Nat) (qs : List On) (b : Nat) (d : Nat), v = tapV i (some ⟨A, 0, none⟩) n c (some ⟨b, 0, none⟩) m d ∧ SlO wr (some ⟨A, 0, none⟩) n c qs ∧ SlI wr (some ⟨b, 0, none⟩) m d ys ∧ qs.map conO = os.map conO
  giv : ∃ f es is ts, GvT wr B f (fun _ => False) es is ts ∧ ∀ t ∈ ts, Tn.os t = [] ∨ (Tn.os t).length ≤ 140737488355328
  bel : Below w.heap.size w wr
theorem gtape_law {w w0 : World} (h0 : Below w0.heap.size w0 w) {B : Nat} (hB : w0.heap.size ≤ B) (hG : GvT w B (fun _ => .slice none 0 0) (fun _ => False) [] [] []) {i : Int} {a : Option Addr} {n c : Nat} {os : List On} {b : Option Addr} {m d : Nat} {ys : List Int} (hZ : TapZ w0 a n c os b m d ys) :
    Calls Tryz.prog 7 #[.pointer (some ⟨B, 0, none⟩), tapV i a n c b m d] w fun e w' => ∃ v, e = .returned v ∧ GtP w0 w' B i n m os ys v := by
  refine (gtape_any hG h0 hB i a n c os b m d ys hZ.o hZ.i hZ.ln hZ.lm hZ.sz (by have := hZ.ln; simp; omega) (by simp) (by simp)).mono ?_
  rintro e w' ⟨T, E, f', fs, rfl, hE, hT1, hT2, hfs, hg, hch⟩
  have gB : ∀ k, GO B (fun _ => Value.slice none 0 0) k → k = B := by
    rintro k (e | ⟨q, _, e⟩)
    · exact e
    · simp [Value.ownBlock] at e
  have hb : Below w0.heap.size w0 w' := h0.trans (hch.below (B := w0.heap.size) h0.size (fun k hk e => by have := gB k e; omega))
  have ht := (hg.t T (by simp)).1
  have hso := ht.1.1.fil.slo rfl ht.1.1.le ht.1.1.each
  rw [hT1] at hso
  have hlen := hZ.o.len
  have hi := (hg.i E (by simp)).1
  refine ⟨_, rfl, ⟨_, _, T.os.take n, _, _, rfl, hso.front (by omega), hi.1.1.front hE hZ.i.len, by rw [hT2]⟩, ⟨_, _, _, _, hg, fun t ht => ?_⟩, hb⟩
  obtain rfl : t = T := by simpa using ht
  have := hZ.ln
  exact .inr (by omega)
set_option maxRecDepth 100000 in
set_option maxHeartbeats 64000000 in
theorem tapePrints_walk (i : Int) (a : Option Addr) (n c : Nat) (os : List On) (b : Option Addr) (m d : Nat) (ys : List Int) (w : World) (hZ : TapZ w a n c os b m d ys) (hT : Tab64 w) (hS : TabSh w) (hP : TabPw w) :
    Calls Tryz.prog 4 #[tapV i a n c b m d] w fun e w' => e = .returned (.bool true) ∧ Below w.heap.size w w' := by
  obtain ⟨wa, hwa⟩ : ∃ x, w.alloc (.cells #[.int .i64 i, .slice a n c, .slice b m d] 25) = x := ⟨_, rfl⟩
  have bx : BoxP wa w.heap.size [.int .i64 i, .slice a n c, .slice b m d] := by rw [← hwa]; exact BoxP.made _ _ _
  have hba : Below w.heap.size w wa := by rw [← hwa]; exact (Below.refl _ _).alloc (Nat.le_refl _) _
  have d0 := (bx.all 0 _ rfl).1
  have d1 := (bx.all 1 _ rfl).1
  have d2 := (bx.all 2 _ rfl).1
  have hG := GvT.made wa
  unfold givO at hG
  obtain ⟨wg, hwg⟩ : ∃ x, wa.alloc (.cells #[.slice none 0 0, .slice none 0 0, .slice none 0 0, .slice none 0 0, .slice none 0 0, .slice none 0 0, .slice none 0 0, .slice none 0 0, .slice none 0 0, .slice none 0 0, .slice none 0 0, .slice none 0 0, .slice none 0 0, .slice none 0 0, .slice none 0 0, .slice none 0 0, .slice none 0 0, .slice none 0 0, .slice none 0 0, .slice none 0 0] 38) = x := ⟨_, rfl⟩
  rw [hwg] at hG
  have hbg : Below wa.heap.size wa wg := by rw [← hwg]; exact (Below.refl _ _).alloc (Nat.le_refl _) _
  have p0 := (hbg.cell (World.block_lt_of_cell? _ _ d0)).trans d0
  have p1 := (hbg.cell (World.block_lt_of_cell? _ _ d1)).trans d1
  have p2 := (hbg.cell (World.block_lt_of_cell? _ _ d2)).trans d2
  have hZa : TapZ wa a n c os b m d ys := ⟨hZ.o.below hba, hZ.i.below hba, hZ.ln, hZ.lm, hZ.sz, hZ.nil⟩
  have HG := hide hG
  have HZ := hide hZa
  have HB := hide hba
  have HBg := hide hbg
  have HT := hide (And.intro (hT.below hba) (And.intro (hS.below hba) (hP.below hba)))
  clear bx hba hbg hG hZ hZa hT hS hP
  unfold tapV
  go_enter Tryz.func4, Tryz.ntmps4
  go_wp2_with fail
  go_region_held3 (fun w' => w'.cell? ⟨w.heap.size, 0, none⟩ = some (.int .i64 i) ∧ w'.cell? ⟨w.heap.size, 1, none⟩ = some (.slice a n c) ∧ w'.cell? ⟨w.heap.size, 2, none⟩ = some (.slice b m d)) (first | go_keep | (exact ⟨r_0, r_1, r_2⟩) | (exact ⟨f_0, f_1, f_2⟩) | (exact ⟨s_0, s_1, s_2⟩) | (exact ⟨t_0, t_1, t_2⟩))
    (first
      | (go_at_call 7; have K := gtape_law (i := i) ((unhide HBg).trans ((Below.refl _ _).drew.mono (unhide HBg).size)) (Nat.le_refl _) ((unhide HG).below (Below.refl _ _).drew) (unhide HZ); unfold tapV at K; refine K.mono ?_; clear K; rintro _ wr0 ⟨v, rfl, hL⟩; have hbl := hL.bel; have r_0 := (hbl.cell (World.block_lt_of_cell? _ _ d0)).trans d0; have r_1 := (hbl.cell (World.block_lt_of_cell? _ _ d1)).trans d1; have r_2 := (hbl.cell (World.block_lt_of_cell? _ _ d2)).trans d2; obtain ⟨⟨A, ca, qs, bb, db, rfl, hq1, hq2, hq3⟩, hgv, hbel⟩ := hL; have HQ := hide (And.intro hq1 (And.intro hq2 hq3)); have HGV := hide hgv; have HR := hide hbel; unfold tapV; clear hq1 hq2 hq3 hgv hbel hbl)
      | (go_at_call 10; have K := l5prints_con i (some ⟨A, 0, none⟩) n ca qs (some ⟨bb, 0, none⟩) m db a c os b d ys wr0 (unhide HQ).1 (unhide HQ).2.1 ((unhide HZ).o.below (unhide HR)) ((unhide HZ).i.below (unhide HR)) (unhide HQ).2.2 ((unhide HT).1.below (unhide HR)) ((unhide HT).2.1.below (unhide HR)) ((unhide HT).2.2.below (unhide HR)); unfold tapV at K; refine K.mono ?_; clear K; rintro _ wf ⟨rfl, hb⟩; have hK := (unhide HR).trans (hb.mono (unhide HR).size); have f_0 := (hK.cell (World.block_lt_of_cell? _ _ d0)).trans d0; have f_1 := (hK.cell (World.block_lt_of_cell? _ _ d1)).trans d1; have f_2 := (hK.cell (World.block_lt_of_cell? _ _ d2)).trans d2; have HF := hide (And.intro hb hK); clear hK hb)
      | (go_at_call 8; obtain ⟨f9, es9, is9, ts9, hg9, ht9⟩ := unhide HGV; refine (intactO_any (hg9.below (unhide HF).1) (fun t ht => by rcases ht9 t ht with h | h; (rw [h]; exact Nat.zero_le _); exact h)).mono ?_; rintro _ ws ⟨rfl, hb⟩; have hK := (unhide HF).2.trans (hb.mono (unhide HF).2.size); have s_0 := (hK.cell (World.block_lt_of_cell? _ _ d0)).trans d0; have s_1 := (hK.cell (World.block_lt_of_cell? _ _ d1)).trans d1; have s_2 := (hK.cell (World.block_lt_of_cell? _ _ d2)).trans d2; have HI := hide hK; clear hK hb)
      | (go_at_call 9; refine (l5alive_any ws ((unhide HT).1.below (unhide HI)) ((unhide HT).2.1.below (unhide HI)) ((unhide HT).2.2.below (unhide HI))).mono ?_; rintro _ wt ⟨rfl, hb⟩; have hK := (unhide HI).trans (hb.mono (unhide HI).size); have t_0 := (hK.cell (World.block_lt_of_cell? _ _ d0)).trans d0; have t_1 := (hK.cell (World.block_lt_of_cell? _ _ d1)).trans d1; have t_2 := (hK.cell (World.block_lt_of_cell? _ _ d2)).trans d2; have HE := hide hK; clear hK hb))
  try go_wp2_with fail
  try go_ret
  exact ⟨rfl, (unhide HB).trans ((unhide HE).mono (unhide HB).size)⟩
end Go.Proofs.YtpicknbdfjjflaaGreatDoor
namespace Go.Proofs.YtpicknbdfjjflaaGreatDoor
open Go.ChangeShapes Go.WideShapes Go.ChangeAt Go.RowKit Go.Deep
set_option linter.unusedVariables false
def shD (k : Nat) : DataW Unit := .agg [.lit (.string ((shW k).map UInt8.ofNat)), .lit (.bool (shA k)), .lit (.bool (shB k)), .lit (.bool (shN k)), .lit (.bool (shC k))]
theorem take5 {cs : List Value} {a : Nat} {v0 v1 v2 v3 v4 : Value} (h0 : (cs.drop (a * 5)).take 5 = [v0, v1, v2, v3, v4]) (j : Nat) (hj : j < 5) : cs[a * 5 + j]? = [v0, v1, v2, v3, v4][j]? := by
  have h : ((cs.drop (a * 5)).take 5)[j]? = [v0, v1, v2, v3, v4][j]? := by rw [h0]
  rw [List.getElem?_take, if_pos hj, List.getElem?_drop] at h
  exact h
theorem strB_of {s : ByteArray} {k : Nat} (h : s.data.toList = (shW k).map UInt8.ofNat) : s = strB (shW k) := by
  have e : strB (shW k) = ⟨((shW k).map UInt8.ofNat).toArray⟩ := by
    unfold shW
    split <;> rfl
  rw [e, ← h]
set_option maxRecDepth 100000 in
theorem shapes_tab {W : World} {rest : List (String × DataW Unit)} (h : laidMet Tryz.prog (("slope/tape.shapes", Rows.laid_slope_tape_shapes) :: rest) W) : TabSh W := by
  obtain ⟨ps, ⟨g', t', cs, fuel, p, q, hg', ht', hvar, hD, _, _⟩, _⟩ := h
  have hg : Tryz.prog.globalNamed "slope/tape.shapes" = some 0 := by kernel_rfl
  obtain rfl := Option.some.inj (hg.symm.trans hg')
  obtain rfl := Option.some.inj ((show (Tryz.prog.globals[0]?).map (·.type) = some 144 by kernel_rfl).symm.trans ht')
  have e : (Rows.laid_slope_tape_shapes : DataW Unit) = .agg ((List.range 9).map shD) := by kernel_rfl
  rw [e] at hD
  obtain ⟨xs, f1, _, ex, hl, hxl, hel⟩ := DataW.trod_array Tryz.underlying144 hD
  have e1 := DataW.agg.inj (Prod.mk.inj ex).1
  intro a j ha hj
  have hE := hel a ha
  rw [show Tryz.prog.cellsOf 125 = 5 from by kernel_rfl] at hE
  have hd : ((List.range 9).map shD)[a]? = some (shD a) := by simp [ha]
  rw [e1, List.getElem?_map] at hd
  cases hxa : xs[a]? with
  | none => rw [hxa] at hd; cases hd
  | some ya =>
    rw [hxa] at hd hE
    simp only [Option.map_some, Option.some.injEq] at hd
    obtain ⟨d1, q1⟩ := ya
    dsimp only at hd
    subst hd
    obtain ⟨y0, y1, y2, y3, y4, k, hx, hl5, h0, h1, h2, h3, h4⟩ := trod_s5 Tryz.underlying125 hE
    simp only [show Tryz.prog.cellsOf 9 = 1 from by kernel_rfl, show Tryz.prog.cellsOf 4 = 1 from by kernel_rfl] at h0 h1 h2 h3 h4
    obtain ⟨s, c0, r0, _⟩ := DataW.trod_string Tryz.underlying9 h0
    obtain ⟨b1, c1, r1⟩ := DataW.trod_bool Tryz.underlying4 h1
    obtain ⟨b2, c2, r2⟩ := DataW.trod_bool Tryz.underlying4 h2
    obtain ⟨b3, c3, r3⟩ := DataW.trod_bool Tryz.underlying4 h3
    obtain ⟨b4, c4, r4⟩ := DataW.trod_bool Tryz.underlying4 h4
    have hx1 := (Prod.mk.inj hx).1
    unfold shD at hx1
    simp only [DataW.agg.injEq, List.cons.injEq, r0, r1, r2, r3, r4, DataW.lit.injEq, Lit.string.injEq, Lit.bool.injEq, and_true] at hx1
    obtain ⟨z0, z1, z2, z3, z4⟩ := hx1
    have h5 : ((cs.toList.drop (a * 5)).take 5) = [.string s, .bool b1, .bool b2, .bool b3, .bool b4] := by
      rw [show Tryz.prog.cellsOf 125 = 5 from by kernel_rfl] at hl5
      generalize (cs.toList.drop (a * 5)).take 5 = l at *
      match l, hl5 with
      | [u0, u1, u2, u3, u4], _ =>
        simp only [List.drop_zero, List.drop_succ_cons, List.take_succ_cons, List.take_zero, List.cons.injEq, and_true] at c0 c1 c2 c3 c4
        rw [c0, c1, c2, c3, c4]
    rw [World.var?_cell hg hvar (a * 5 + j)]
    have h6 := take5 h5 j hj
    rw [strB_of z0.symm, ← z1, ← z2, ← z3, ← z4] at h6
    simpa [shV] using h6
end Go.Proofs.YtpicknbdfjjflaaGreatDoor
