/-
  SETS THAT ARE HANDED IN.
-/
import Derived.Test.YtbendkndnojihaaDoorBt8
import Derived.Test.YtbendkndnojihaaDoorBta
namespace Go.Proofs.YtbendkndnojihaaDoor
open Go.ChangeShapes Go.WideShapes Go.ChangeAt Go.RowKit Go.Deep
set_option linter.unusedVariables false

def OkW (xs : List Nat) : Prop := ∀ x ∈ xs, x < 18446744073709551616
theorem law_bytesW : Tryd.prog.bytesOf 62 = 8 := by kernel_rfl
theorem law_cellsW : Tryd.prog.cellsOf 62 = 1 := by kernel_rfl
theorem law_cellsWs : Tryd.prog.cellsOf 22 = 1 := by kernel_rfl
theorem law_cellsS : Tryd.prog.cellsOf 24 = 2 := by kernel_rfl

theorem trod_words {H : Type} {enc : TypeId × Value → H} {W : World} {fuel : Nat} {cs : List Value} {x : DataW H × List MemPlace}
    (h : DataW.trod enc Tryd.prog W 0 (fun _ => true) true fuel 22 cs = some x) (hz : ∀ k ∈ x.1.weights Tryd.prog 22, k ≤ reachBytes) :
    ∃ a n c xs, cs = [.slice a n c] ∧ SlW W a n c xs ∧ OkW xs ∧ n ≤ 17592186043904 ∧ (a = none → n = 0 ∧ c = 0) := by
  rcases open_ints Tryd.underlying22 Tryd.underlying62 law_cellsW h with ⟨rfl, _⟩ | ⟨y, n, c, zs, rfl, _, hl, hm, hzl, rfl, hcell, hwz⟩
  · exact ⟨none, 0, 0, [], rfl, SlG.nil _, (fun x hx => by cases hx), Nat.zero_le _, fun _ => ⟨rfl, rfl⟩⟩
  · have hzl' : zs.length = c := by simpa using hzl
    have hb := hz (((lits (H := H) .u64 (zs.take n)).length + (lits (H := H) .u64 (zs.drop n)).length) * Tryd.prog.bytesOf 62) (by simp [DataW.weights, Tryd.underlying22])
    have hlen : (lits (H := H) .u64 (zs.take n)).length + (lits (H := H) .u64 (zs.drop n)).length = c := by
      simp [lits]; omega
    rw [hlen, law_bytesW] at hb
    unfold reachBytes at hb
    refine ⟨some y, n, c, (zs.take n).map Int.toNat, rfl, ⟨by simp; omega, hl, hm, ?_⟩, fun z hzz => ?_, by omega, fun h => by cases h⟩
    · by_cases h0 : n = 0
      · left; subst h0; simp
      · right
        obtain ⟨b, off, spot⟩ := y
        have c0 := hcell 0 (by omega)
        have hspot : spot = none := by simpa [Addr.add] using World.cell?_spot c0
        subst hspot
        refine ⟨b, off, rfl, ?_⟩
        intro i hi
        have hi' : i < n := by simp at hi; omega
        have hzi := hcell i (by omega)
        rw [addr_add] at hzi
        rw [hzi]
        have hmem : zs.getD i 0 ∈ zs := by
          have : zs.getD i 0 = zs[i]'(by omega) := by simp [List.getD, show i < zs.length from by omega]
          rw [this]; exact List.getElem_mem _
        have r := bounds_u64 (hwz _ hmem)
        have e2 : ((zs.take n).map Int.toNat).getD i 0 = (zs.getD i 0).toNat := by
          simp [List.getD, hi', show i < zs.length from by omega]
        rw [e2]
        unfold vU
        congr 2
        omega
    · obtain ⟨u, hu, rfl⟩ := List.mem_map.1 hzz
      have := bounds_u64 (hwz u (List.mem_of_mem_take hu))
      omega

set_option maxRecDepth 100000 in
/-- A set, out of its cells. -/
theorem trod_set {H : Type} {enc : TypeId × Value → H} {W : World} {fuel : Nat} {cs : List Value} {x : DataW H × List MemPlace}
    (h : DataW.trod enc Tryd.prog W 0 (fun _ => true) true fuel 24 cs = some x) (hz : ∀ k ∈ x.1.weights Tryd.prog 24, k ≤ reachBytes) :
    ∃ s a n c xs, cs = [.int .i64 s, .slice a n c] ∧ -9223372036854775808 ≤ s ∧ s ≤ 9223372036854775807 ∧ SlW W a n c xs ∧ OkW xs ∧ n ≤ 17592186043904 ∧ (a = none → n = 0 ∧ c = 0) := by
  obtain ⟨y0, y1, m, rfl, hl, h0, h1⟩ := trod_struct2 Tryd.underlying24 h
  rw [law_cellsS] at hl
  match cs, hl with
  | [c0, c1], _ =>
    simp only [List.drop_zero, List.drop_succ_cons, law_cellsI, law_cellsWs, List.take_succ_cons, List.take_zero] at h0 h1
    obtain ⟨s, e0, rfl, hw⟩ := DataW.trod_int Tryd.underlying3 h0
    obtain ⟨a, n, c, xs, e1, k1, k2, k3, k4⟩ := trod_words h1 (fun k hk => hz k (by simp [DataW.weights, DataW.weightsEach, Tryd.underlying24, hk]))
    cases e0
    cases e1
    exact ⟨s, a, n, c, xs, rfl, (bounds_i64 hw).1, (bounds_i64 hw).2, k1, k2, k3, k4⟩

set_option maxRecDepth 100000 in
theorem arg_set {H : Type} {enc : TypeId × Value → H} {W : World} {v : Value} {d : DataW H} {p : List MemPlace} {r : Reach} {b0 : Nat}
    (hv : Value.okWide Tryd.prog W r b0 24 v) (h : DataW.Trod enc Tryd.prog W 0 (fun _ => true) true 24 v d p) (hz : ∀ k ∈ d.weights Tryd.prog 24, k ≤ reachBytes) :
    ∃ s a n c xs, v = setV s a n c ∧ -9223372036854775808 ≤ s ∧ s ≤ 9223372036854775807 ∧ SlW W a n c xs ∧ OkW xs ∧ n ≤ 17592186043904 ∧ (a = none → n = 0 ∧ c = 0) := by
  obtain ⟨cs, rfl, hsz⟩ := okWide_struct Tryd.underlying24 hv
  obtain ⟨fuel, hf⟩ := h
  obtain ⟨s, a, n, c, xs, e, k⟩ := trod_set hf hz
  refine ⟨s, a, n, c, xs, ?_, k⟩
  unfold setV
  congr 1
  apply Array.ext'
  simpa [Value.cells] using e
end Go.Proofs.YtbendkndnojihaaDoor

namespace Go.Proofs.YtbendkndnojihaaDoor
open Go.RowKit Go.Deep
set_option linter.unusedVariables false

/-- A set in memory. -/
structure SetC where
  s : Int
  a : Option Addr
  n : Nat
  c : Nat
  xs : List Nat
def SetC.nul : SetC := ⟨0, none, 0, 0, []⟩
def SetC.In (e : SetC) (w : World) : Prop := SlW w e.a e.n e.c e.xs ∧ OkW e.xs
theorem SetC.In.below {e : SetC} {w w' : World} (h : e.In w) (k : Below w.heap.size w w') : e.In w' := ⟨h.1.below k, h.2⟩

/-- A slice of sets. -/
structure SlS (w : World) (a : Option Addr) (n c : Nat) (L : List SetC) : Prop where
  len : L.length = n
  le : n ≤ c
  cap : c ≤ maxLen
  cells : L = [] ∨ ∃ b off, a = some ⟨b, off, none⟩ ∧ ∀ i, i < L.length → w.cell? ⟨b, off + i * 2, none⟩ = some (.int .i64 (L.getD i .nul).s) ∧ w.cell? ⟨b, off + i * 2 + 1, none⟩ = some (.slice (L.getD i .nul).a (L.getD i .nul).n (L.getD i .nul).c)
  all : ∀ e ∈ L, e.In w
theorem SlS.below {w w' : World} {a : Option Addr} {n c : Nat} {L : List SetC} (h : SlS w a n c L) (hb : Below w.heap.size w w') : SlS w' a n c L :=
  ⟨h.len, h.le, h.cap, h.cells.imp id (fun ⟨b, off, e, k⟩ => ⟨b, off, e, fun i hi => ⟨below_cell hb (k i hi).1, below_cell hb (k i hi).2⟩⟩), fun e he => (h.all e he).below hb⟩
theorem SlS.at {w : World} {a : Option Addr} {n c : Nat} {L : List SetC} (h : SlS w a n c L) (hn : 0 < n) : ∃ b off, a = some ⟨b, off, none⟩ ∧ ∀ i, i < n → w.cell? ⟨b, off + i * 2, none⟩ = some (.int .i64 (L.getD i .nul).s) ∧ w.cell? ⟨b, off + i * 2 + 1, none⟩ = some (.slice (L.getD i .nul).a (L.getD i .nul).n (L.getD i .nul).c) := by
  rcases h.cells with e | ⟨b, off, e, k⟩
  · have := h.len; rw [e] at this; simp at this; omega
  · exact ⟨b, off, e, fun i hi => k i (by rw [h.len]; exact hi)⟩
theorem SlS.get {w : World} {a : Option Addr} {n c : Nat} {L : List SetC} (h : SlS w a n c L) (i : Nat) (hi : i < n) : (L.getD i .nul).In w := by
  have hl : i < L.length := by rw [h.len]; exact hi
  have : L.getD i .nul = L[i] := by simp [List.getD, hl]
  rw [this]; exact h.all _ (List.getElem_mem hl)

theorem any_takeS {l : List SetC} {k : Nat} (hk : k < l.length) (p : SetC → Bool) : (l.take (k + 1)).any p = (p (l.getD k .nul) || (l.take k).any p) := by
  rw [List.take_add_one, List.getElem?_eq_getElem hk, List.any_append, Bool.or_comm]
  simp [List.getD, hk]
theorem any_badS {l : List SetC} {p : SetC → Bool} {k : Nat} (hk : k < l.length) (h : p (l.getD k .nul) = true) : l.any p = true := by
  rw [List.any_eq_true]
  refine ⟨l[k], List.getElem_mem hk, ?_⟩
  simpa [List.getD, hk] using h

def notMay (e : SetC) : Bool := !MayS e.s e.xs
def offS (size : Int) (e : SetC) : Bool := decide (e.s ≠ size)
/-- Are they sets of one universe? -/
def alikeE (size : Int) (L : List SetC) : Int := if L.any notMay then 61 else if (!fitsI size) || L.any (offS size) then 60 else 0

end Go.Proofs.YtbendkndnojihaaDoor
