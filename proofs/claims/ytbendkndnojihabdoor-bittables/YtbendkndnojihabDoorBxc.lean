/-
  slopelaw3.keptAll: its contract; lists of sets that are handed in.
-/
import Derived.Test.YtbendkndnojihabDoorBtv
import Derived.Test.YtbendkndnojihabDoorBtc
import Derived.Test.YtbendkndnojihabDoorBtu
import Derived.Test.YtbendkndnojihabDoorBt4
namespace Go.Proofs.YtbendkndnojihabDoor
open Go.ChangeShapes Go.WideShapes Go.ChangeAt Go.RowKit Go.Deep
set_option linter.unusedVariables false

set_option maxHeartbeats 8000000 in
/-- slopelaw3.keptAll. -/
theorem keptAll_any (g cap : Nat) (a : Option Addr) (n c : Nat) (L T : List SetC) (w : World) (ht : Twins w g cap n L T) (h : SlS w a n c L) :
    Calls Tryd.prog 30 #[.slice (some ⟨g, 0, none⟩) n cap, .slice a n c] w fun e w' => e = .returned (.bool true) ∧ Below w.heap.size w w' := by
  have hle := h.le
  have hcap := h.cap
  have hlt := ht.lt
  have hcap2 := ht.sl.cap
  unfold maxLen at hcap hcap2
  have hl := ht.last
  have HA := hide (And.intro ht h)
  clear ht h
  go_enter Tryd.func30, Tryd.ntmps30
  go_wp2_with fail
  clear hl
  go_loopw [5] (fun i wr => ∃ k : Nat, k ≤ n ∧ i = .int .i64 k ∧ Below w.heap.size w wr) (fun i _ => n - (intOf i).toNat)
  case atStart => exact ⟨0, Nat.zero_le _, rfl, Below.refl _ _⟩
  case round =>
    obtain ⟨k, hk, rfl, hbl⟩ := hrel
    by_cases hkn : k < n
    · have hkn' : (k : Int) < (n : Int) := by omega
      have hS := (unhide HA).2.below hbl
      have hT := (unhide HA).1.below hbl
      obtain ⟨b, off, rfl, hcells⟩ := hS.at (by omega)
      have g1 := (hcells k hkn).1
      have g2 := (hcells k hkn).2
      obtain ⟨b2, off2, e2, hcells2⟩ := hT.sl.at (by omega)
      cases e2
      have g3 := (hcells2 k hkn).1
      have g4 := (hcells2 k hkn).2
      have hin := hS.get k hkn
      have htw := hT.tw k hkn
      obtain ⟨e, he⟩ : ∃ e, L.getD k .nul = e := ⟨_, rfl⟩
      obtain ⟨t, hte⟩ : ∃ t, T.getD k .nul = t := ⟨_, rfl⟩
      rw [he] at g1 g2 hin htw
      rw [hte] at g3 g4 htw
      obtain ⟨es, ea, en, ec, exs⟩ := e
      obtain ⟨ts, ta, tn, tc, txs⟩ := t
      obtain ⟨q1, q2, q3, ⟨bt, q4, q5⟩, q6⟩ := htw
      simp only at g1 g2 g3 g4 q1 q2 q3 q4 q5
      subst q1 q2 q3 q4
      rw [Nat.zero_add] at g3 g4
      have K := kept_any ts bt tc ea tn ec txs wr.drew (q5.below (Below.refl _ _).drew) (hin.1.below (Below.refl _ _).drew)
      unfold setV at K
      have HK := hide K
      have HB := hide (show Below w.heap.size w wr.drew ∧ w.heap.size ≤ wr.drew.heap.size from ⟨hbl.drew, hbl.size⟩)
      clear hcells hcells2 hS hT hin q5 q6 he hte K hbl
      go_wp2_with fail
      go_region_with (
        go_at_call 21
        refine (unhide HK).mono ?_
        rintro _ w1 ⟨rfl, hb1⟩
        have HB1 := hide ((unhide HB).1.trans (hb1.mono (unhide HB).2))
        clear hb1)
      all_goals
        go_wp2_with fail
        exact ⟨⟨k + 1, by omega, by go_num, unhide HB1⟩, by simp [intOf]; omega⟩
    · have hkn' : ¬ (k : Int) < (n : Int) := by omega
      go_wp2_with fail
      go_ret
      exact ⟨rfl, hbl⟩
end Go.Proofs.YtbendkndnojihabDoor

namespace Go.Proofs.YtbendkndnojihabDoor
open Go.ChangeShapes Go.WideShapes Go.ChangeAt Go.RowKit Go.Deep
set_option linter.unusedVariables false

theorem law_bytesS : Tryd.prog.bytesOf 35 = 32 := by kernel_rfl
theorem weightsAll_mem {H : Type} {P : Program} {e : TypeId} : ∀ {l : List (DataW H)} {d : DataW H} {k : Nat}, d ∈ l → k ∈ d.weights P e → k ∈ DataW.weightsAll P e l
  | [], d, k, h, _ => by cases h
  | x :: l, d, k, h, hk => by
    rcases List.mem_cons.1 h with rfl | h
    · simp [DataW.weightsAll, hk]
    · simp [DataW.weightsAll, weightsAll_mem h hk]

set_option maxRecDepth 100000 in
/-- A list of sets, out of its cells. -/
theorem trod_sets {H : Type} {enc : TypeId × Value → H} {W : World} {fuel : Nat} {cs : List Value} {x : DataW H × List MemPlace}
    (h : DataW.trod enc Tryd.prog W 0 (fun _ => true) true fuel 22 cs = some x) (hz : ∀ k ∈ x.1.weights Tryd.prog 22, k ≤ reachBytes) :
    ∃ a n c L, cs = [.slice a n c] ∧ SlS W a n c L ∧ (∀ e ∈ L, e.Arg) ∧ n ≤ 4398046510976 ∧ (a = none → n = 0 ∧ c = 0) := by
  rcases DataW.trod_slice Tryd.underlying22 h with ⟨rfl, _⟩ | ⟨a, n, c, elems, rest, m, _, rfl, rfl, hb, hl, hm, hlen, hel, hsp, hns⟩
  · exact ⟨none, 0, 0, [], rfl, ⟨rfl, Nat.le_refl _, Nat.zero_le _, .inl rfl, fun e he => by cases he⟩, (fun e he => by cases he), Nat.zero_le _, fun _ => ⟨rfl, rfl⟩⟩
  · have hbnd := hz ((elems.length + rest.length) * Tryd.prog.bytesOf 35) (by simp [DataW.weights, Tryd.underlying22])
    rw [law_bytesS] at hbnd
    unfold reachBytes at hbnd
    by_cases h0 : n = 0
    · subst h0
      exact ⟨some a, 0, c, [], rfl, ⟨rfl, hl, hm, .inl rfl, fun e he => by cases he⟩, (fun e he => by cases he), Nat.zero_le _, fun h => by cases h⟩
    · have hspot : ∃ b off, a = ⟨b, off, none⟩ := by
        have h1 := hel 0 (by omega)
        rw [law_cellsS] at h1
        rw [List.getElem?_eq_getElem (by omega), Option.bind_eq_some_iff] at h1
        obtain ⟨cs', hcs, hy⟩ := h1
        have hh := World.cells?_some hcs
        have hc0 := hh.2.2 0 (by decide)
        rw [List.getElem?_eq_getElem (by rw [hh.2.1]; decide)] at hc0
        obtain ⟨b, off, spot⟩ := a
        have := World.cell?_spot hc0
        have hs : spot = none := by simpa [Addr.add] using this
        subst hs
        exact ⟨b, off, rfl⟩
      obtain ⟨b, off, rfl⟩ := hspot
      have each : ∀ i, i < n → ∃ e : SetC, W.cell? ⟨b, off + i * 2, none⟩ = some (.int .i64 e.s) ∧ W.cell? ⟨b, off + i * 2 + 1, none⟩ = some (.slice e.a e.n e.c) ∧ e.In W ∧ e.Arg := by
        intro i hi
        have h1 := hel i hi
        rw [law_cellsS] at h1
        rw [List.getElem?_eq_getElem (by omega), Option.bind_eq_some_iff] at h1
        obtain ⟨cs', hcs, hy⟩ := h1
        obtain ⟨s, ea, en, ec, exs, rfl, _, _, k1, k2, k3, k4⟩ := trod_set hy (fun k hk => hz k (by
          simp only [DataW.weights, Tryd.underlying22]
          refine List.mem_cons_of_mem _ (List.mem_append_left _ (weightsAll_mem (d := (elems[i]'(by omega)).1) ?_ hk))
          exact List.mem_map.2 ⟨_, List.getElem_mem _, rfl⟩))
        have hh := World.cells?_some hcs
        refine ⟨⟨s, ea, en, ec, exs⟩, ?_, ?_, ⟨k1, k2⟩, ⟨k3, k4⟩⟩
        · have := hh.2.2 0 (by decide)
          rw [addr_add, addr_add] at this
          simpa using this
        · have := hh.2.2 1 (by decide)
          rw [addr_add, addr_add] at this
          simpa using this
      have hch : ∃ f : Nat → SetC, ∀ i, i < n → W.cell? ⟨b, off + i * 2, none⟩ = some (.int .i64 (f i).s) ∧ W.cell? ⟨b, off + i * 2 + 1, none⟩ = some (.slice (f i).a (f i).n (f i).c) ∧ (f i).In W ∧ (f i).Arg := by
        refine ⟨fun i => if h : i < n then Classical.choose (each i h) else .nul, fun i hi => ?_⟩
        simp only [hi, dif_pos]
        exact Classical.choose_spec (each i hi)
      obtain ⟨f, hf⟩ := hch
      refine ⟨_, n, c, lstG f n, rfl, ⟨lstG_len f n, hl, hm, .inr ⟨b, off, rfl, fun i hi => ?_⟩, fun e he => ?_⟩, fun e he => ?_, by omega, fun h => by cases h⟩
      · rw [lstG_len] at hi
        rw [lstG_getD f n i _ hi]
        exact ⟨(hf i hi).1, (hf i hi).2.1⟩
      · obtain ⟨i, hi, rfl⟩ := List.mem_map.1 he
        exact (hf i (List.mem_range.1 hi)).2.2.1
      · obtain ⟨i, hi, rfl⟩ := List.mem_map.1 he
        exact (hf i (List.mem_range.1 hi)).2.2.2

theorem arg_sets {H : Type} {enc : TypeId × Value → H} {W : World} {a : Option Addr} {n c : Nat} {d : DataW H} {p : List MemPlace}
    (h : DataW.Trod enc Tryd.prog W 0 (fun _ => true) true 22 (.slice a n c) d p) (hz : ∀ k ∈ d.weights Tryd.prog 22, k ≤ reachBytes) :
    ∃ L, SlS W a n c L ∧ (∀ e ∈ L, e.Arg) ∧ n ≤ 4398046510976 ∧ (a = none → n = 0 ∧ c = 0) := by
  obtain ⟨fuel, hf⟩ := h
  obtain ⟨a', n', c', L, e, k⟩ := trod_sets hf hz
  simp [Value.cells] at e
  obtain ⟨rfl, rfl, rfl⟩ := e
  exact ⟨L, k⟩
end Go.Proofs.YtbendkndnojihabDoor

namespace Go.Proofs.YtbendkndnojihabDoor
open Go.RowKit Go.Deep
set_option linter.unusedVariables false

def SetC.key (e : SetC) : Int × List Nat := (e.s, e.xs)
theorem any_key {p : SetC → Bool} {q : Int × List Nat → Bool} (h : ∀ e, p e = q e.key) (L : List SetC) : L.any p = (L.map SetC.key).any q := by
  rw [List.any_map]
  congr 1
  funext e
  exact h e
theorem all_key {p : SetC → Bool} {q : Int × List Nat → Bool} (h : ∀ e, p e = q e.key) (L : List SetC) : L.all p = (L.map SetC.key).all q := by
  rw [List.all_map]
  congr 1
  funext e
  exact h e
theorem alike_key {size : Int} {L T : List SetC} (h : T.map SetC.key = L.map SetC.key) : alikeE size T = alikeE size L := by
  unfold alikeE
  rw [any_key (p := notMay) (q := fun k => !MayS k.1 k.2) (fun _ => rfl) T, any_key (p := notMay) (q := fun k => !MayS k.1 k.2) (fun _ => rfl) L,
    any_key (p := offS size) (q := fun k => decide (k.1 ≠ size)) (fun _ => rfl) T, any_key (p := offS size) (q := fun k => decide (k.1 ≠ size)) (fun _ => rfl) L, h]
theorem many_key {size : Int} {L T : List SetC} (all : Bool) (h : T.map SetC.key = L.map SetC.key) : manyR size T all = manyR size L all := by
  have hm : ∀ x, manyB all T x = manyB all L x := by
    intro x
    unfold manyB
    rw [any_key (p := hasS x) (q := fun k => hasB (fun i => k.2.getD i 0) x) (fun _ => rfl) T, any_key (p := hasS x) (q := fun k => hasB (fun i => k.2.getD i 0) x) (fun _ => rfl) L,
      all_key (p := hasS x) (q := fun k => hasB (fun i => k.2.getD i 0) x) (fun _ => rfl) T, all_key (p := hasS x) (q := fun k => hasB (fun i => k.2.getD i 0) x) (fun _ => rfl) L, h]
  unfold manyR
  rw [alike_key h, show manyB all T = manyB all L from funext hm]
theorem Twins.key {w : World} {g cap n : Nat} {L T : List SetC} (h : Twins w g cap n L T) (hl : L.length = n) : T.map SetC.key = L.map SetC.key := by
  have hT := h.sl.len
  apply List.ext_getElem (by simp; omega)
  intro i h1 h2
  simp at h1 h2
  have t := h.tw i (by omega)
  rw [show T.getD i .nul = T[i] from by simp [List.getD, h1], show L.getD i .nul = L[i] from by simp [List.getD, h2]] at t
  simp [SetC.key, t.s, t.xs]

def fS (a : Option Addr) (n c : Nat) (L : List SetC) : Fact := ⟨fun w => SlS w a n c L, fun k h => h.below k⟩
def fTw (g cap n : Nat) (L T : List SetC) : Fact := ⟨fun w => Twins w g cap n L T, fun k h => h.below k⟩
theorem Facts.ss {w0 w : World} {F : List Fact} (h : Facts w0 w F) (a : Option Addr) (n c : Nat) (L : List SetC) (hm : fS a n c L ∈ F) : SlS w a n c L := h.all _ hm
theorem Facts.tw {w0 w : World} {F : List Fact} (h : Facts w0 w F) (g cap n : Nat) (L T : List SetC) (hm : fTw g cap n L T ∈ F) : Twins w g cap n L T := h.all _ hm
end Go.Proofs.YtbendkndnojihabDoor

namespace Go.Proofs.YtbendkndnojihabDoor
open Go.RowKit Go.Deep
set_option linter.unusedVariables false

/-- What a table's sets hold. -/
def tabK (sz n : Nat) (P : Nat → Nat → Bool) : List (Int × List Nat) := (List.range n).map (fun i => ((sz : Int), wordsL sz (P i)))
/-- A table that is answered. -/
def ResT (w w' : World) (s : Int) (K : List (Int × List Nat)) (e : Int) (r : Ending) : Prop :=
  ∃ a n c L, r = .returned (.tuple #[setV s a n c, .int .i64 e]) ∧ SlS w' a n c L ∧ L.map SetC.key = K ∧ Below w.heap.size w w'
theorem resT_zero {w w' : World} {er : Int} (h : Below w.heap.size w w') : ResT w w' 0 [] er (.returned (.tuple #[setV 0 none 0 0, .int .i64 er])) :=
  ⟨none, 0, 0, [], rfl, ⟨rfl, Nat.le_refl _, Nat.zero_le _, .inl rfl, fun e he => by cases he⟩, rfl, h⟩
theorem NewT.res {w w' : World} {sz n : Nat} {F : Nat → Nat → Nat} {v : Value} {P : Nat → Nat → Bool} (h : NewT w w' sz n F v) (hr : ∀ i, i < n → RepB (nW sz) (F i) (P i)) (hn : n ≤ 4096) : ResT w w' sz (tabK sz n P) 0 (.returned (.tuple #[v, .int .i64 0])) := by
  obtain ⟨T, bs, cs, rfl, ht, hb⟩ := h
  obtain ⟨L, hL⟩ : ∃ L : List SetC, L = (List.range n).map (fun i => (⟨(sz : Int), some ⟨bs i, 0, none⟩, nW sz, cs i, wordsL sz (P i)⟩ : SetC)) := ⟨_, rfl⟩
  have hlen : L.length = n := by rw [hL]; simp
  have hget : ∀ i, i < n → L.getD i .nul = ⟨(sz : Int), some ⟨bs i, 0, none⟩, nW sz, cs i, wordsL sz (P i)⟩ := fun i hi => by rw [hL]; simp [List.getD, hi]
  have hsl : ∀ i, i < n → SlW w' (some ⟨bs i, 0, none⟩) (nW sz) (cs i) (wordsL sz (P i)) := fun i hi => by
    have := (ht.words i hi).sl (d := 0) (ht.cap i hi).1 (ht.cap i hi).2
    rwa [show lstG (F i) (nW sz) = wordsL sz (P i) from wordsL_of (hr i hi)] at this
  refine ⟨_, _, _, L, rfl, ⟨hlen, Nat.le_refl _, by unfold maxLen; omega, .inr ⟨T, 0, rfl, fun i hi => ?_⟩, fun e he => ?_⟩, ?_, hb⟩
  · rw [hlen] at hi
    rw [hget i hi, Nat.zero_add]
    exact ht.row i hi
  · rw [hL] at he
    obtain ⟨i, hi, rfl⟩ := List.mem_map.1 he
    have hi' := List.mem_range.1 hi
    refine ⟨hsl i hi', ?_⟩
    intro x hx
    rw [show wordsL sz (P i) = (List.range (nW sz)).map (F i) from (wordsL_of (hr i hi')).symm] at hx
    obtain ⟨j, hj, rfl⟩ := List.mem_map.1 hx
    exact (hr i hi' j (List.mem_range.1 hj)).1
  · rw [hL, List.map_map]
    rfl
end Go.Proofs.YtbendkndnojihabDoor
