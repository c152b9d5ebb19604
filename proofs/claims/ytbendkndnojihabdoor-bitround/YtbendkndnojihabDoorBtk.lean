/-
  slopelaw3.keptAll: its contract; lists of sets that are handed in.
-/
import Derived.Test.YtbendkndnojihabDoorBtv
import Derived.Test.YtbendkndnojihabDoorBtc
import Derived.Test.YtbendkndnojihabDoorBtj
namespace Go.Proofs.YtbendkndnojihabDoor
open Go.ChangeShapes Go.WideShapes Go.ChangeAt Go.RowKit Go.Deep
set_option linter.unusedVariables false

set_option maxHeartbeats 8000000 in
/-- slopelaw3.keptAll. -/
theorem keptAll_any (g cap : Nat) (a : Option Addr) (n c : Nat) (L T : List SetC) (w : World) (ht : Twins w g cap n L T) (h : SlS w a n c L) :
    Calls Tryd.prog 30 #[.slice (some ⟨g, 0, none⟩) n cap, .slice a n c] w fun e w' => e = .returned (.bool true) ∧ Below w.heap.size w w' := by
  have hle := h.le
  have hcap := h.cap
  have hlt := ht.lt
  have hcap2 := ht.sl.cap
  unfold maxLen at hcap hcap2
  have hl := ht.last
  have HA := hide (And.intro ht h)
  clear ht h
  go_enter Tryd.func30, Tryd.ntmps30
  go_wp2_with fail
  clear hl
  go_loopw [5] (fun i wr => ∃ k : Nat, k ≤ n ∧ i = .int .i64 k ∧ Below w.heap.size w wr) (fun i _ => n - (intOf i).toNat)
  case atStart => exact ⟨0, Nat.zero_le _, rfl, Below.refl _ _⟩
  case round =>
    obtain ⟨k, hk, rfl, hbl⟩ := hrel
    by_cases hkn : k < n
    · have hkn' : (k : Int) < (n : Int) := by omega
      have hS := (unhide HA).2.below hbl
      have hT := (unhide HA).1.below hbl
      obtain ⟨b, off, rfl, hcells⟩ := hS.at (by omega)
      have g1 := (hcells k hkn).1
      have g2 := (hcells k hkn).2
      obtain ⟨b2, off2, e2, hcells2⟩ := hT.sl.at (by omega)
      cases e2
      have g3 := (hcells2 k hkn).1
      have g4 := (hcells2 k hkn).2
      have hin := hS.get k hkn
      have htw := hT.tw k hkn
      obtain ⟨e, he⟩ : ∃ e, L.getD k .nul = e := ⟨_, rfl⟩
      obtain ⟨t, hte⟩ : ∃ t, T.getD k .nul = t := ⟨_, rfl⟩
      rw [he] at g1 g2 hin htw
      rw [hte] at g3 g4 htw
      obtain ⟨es, ea, en, ec, exs⟩ := e
      obtain ⟨ts, ta, tn, tc, txs⟩ := t
      obtain ⟨q1, q2, q3, ⟨bt, q4, q5⟩, q6⟩ := htw
      simp only at g1 g2 g3 g4 q1 q2 q3 q4 q5
      subst q1 q2 q3 q4
      rw [Nat.zero_add] at g3 g4
      have K := kept_any ts bt tc ea tn ec txs wr.drew (q5.below (Below.refl _ _).drew) (hin.1.below (Below.refl _ _).drew)
      unfold setV at K
      have HK := hide K
      have HB := hide (show Below w.heap.size w wr.drew ∧ w.heap.size ≤ wr.drew.heap.size from ⟨hbl.drew, hbl.size⟩)
      clear hcells hcells2 hS hT hin q5 q6 he hte K hbl
      go_wp2_with fail
      go_region_with (
        go_at_call 21
        refine (unhide HK).mono ?_
        rintro _ w1 ⟨rfl, hb1⟩
        have HB1 := hide ((unhide HB).1.trans (hb1.mono (unhide HB).2))
        clear hb1)
      all_goals
        go_wp2_with fail
        exact ⟨⟨k + 1, by omega, by go_num, unhide HB1⟩, by simp [intOf]; omega⟩
    · have hkn' : ¬ (k : Int) < (n : Int) := by omega
      go_wp2_with fail
      go_ret
      exact ⟨rfl, hbl⟩
end Go.Proofs.YtbendkndnojihabDoor

namespace Go.Proofs.YtbendkndnojihabDoor
open Go.ChangeShapes Go.WideShapes Go.ChangeAt Go.RowKit Go.Deep
set_option linter.unusedVariables false

theorem law_bytesS : Tryd.prog.bytesOf 35 = 32 := by kernel_rfl
theorem weightsAll_mem {H : Type} {P : Program} {e : TypeId} : ∀ {l : List (DataW H)} {d : DataW H} {k : Nat}, d ∈ l → k ∈ d.weights P e → k ∈ DataW.weightsAll P e l
  | [], d, k, h, _ => by cases h
  | x :: l, d, k, h, hk => by
    rcases List.mem_cons.1 h with rfl | h
    · simp [DataW.weightsAll, hk]
    · simp [DataW.weightsAll, weightsAll_mem h hk]

set_option maxRecDepth 100000 in
/-- A list of sets, out of its cells. -/
theorem trod_sets {H : Type} {enc : TypeId × Value → H} {W : World} {fuel : Nat} {cs : List Value} {x : DataW H × List MemPlace}
    (h : DataW.trod enc Tryd.prog W 0 (fun _ => true) true fuel 22 cs = some x) (hz : ∀ k ∈ x.1.weights Tryd.prog 22, k ≤ reachBytes) :
    ∃ a n c L, cs = [.slice a n c] ∧ SlS W a n c L ∧ (∀ e ∈ L, e.Arg) ∧ n ≤ 4398046510976 ∧ (a = none → n = 0 ∧ c = 0) := by
  rcases DataW.trod_slice Tryd.underlying22 h with ⟨rfl, _⟩ | ⟨a, n, c, elems, rest, m, _, rfl, rfl, hb, hl, hm, hlen, hel, hsp, hns⟩
  · exact ⟨none, 0, 0, [], rfl, ⟨rfl, Nat.le_refl _, Nat.zero_le _, .inl rfl, fun e he => by cases he⟩, (fun e he => by cases he), Nat.zero_le _, fun _ => ⟨rfl, rfl⟩⟩
  · have hbnd := hz ((elems.length + rest.length) * Tryd.prog.bytesOf 35) (by simp [DataW.weights, Tryd.underlying22])
    rw [law_bytesS] at hbnd
    unfold reachBytes at hbnd
    by_cases h0 : n = 0
    · subst h0
      exact ⟨some a, 0, c, [], rfl, ⟨rfl, hl, hm, .inl rfl, fun e he => by cases he⟩, (fun e he => by cases he), Nat.zero_le _, fun h => by cases h⟩
    · have hspot : ∃ b off, a = ⟨b, off, none⟩ := by
        have h1 := hel 0 (by omega)
        rw [law_cellsS] at h1
        rw [List.getElem?_eq_getElem (by omega), Option.bind_eq_some_iff] at h1
        obtain ⟨cs', hcs, hy⟩ := h1
        have hh := World.cells?_some hcs
        have hc0 := hh.2.2 0 (by decide)
        rw [List.getElem?_eq_getElem (by rw [hh.2.1]; decide)] at hc0
        obtain ⟨b, off, spot⟩ := a
        have := World.cell?_spot hc0
        have hs : spot = none := by simpa [Addr.add] using this
        subst hs
        exact ⟨b, off, rfl⟩
      obtain ⟨b, off, rfl⟩ := hspot
      have each : ∀ i, i < n → ∃ e : SetC, W.cell? ⟨b, off + i * 2, none⟩ = some (.int .i64 e.s) ∧ W.cell? ⟨b, off + i * 2 + 1, none⟩ = some (.slice e.a e.n e.c) ∧ e.In W ∧ e.Arg := by
        intro i hi
        have h1 := hel i hi
        rw [law_cellsS] at h1
        rw [List.getElem?_eq_getElem (by omega), Option.bind_eq_some_iff] at h1
        obtain ⟨cs', hcs, hy⟩ := h1
        obtain ⟨s, ea, en, ec, exs, rfl, _, _, k1, k2, k3, k4⟩ := trod_set hy (fun k hk => hz k (by
          simp only [DataW.weights, Tryd.underlying22]
          refine List.mem_cons_of_mem _ (List.mem_append_left _ (weightsAll_mem (d := (elems[i]'(by omega)).1) ?_ hk))
          exact List.mem_map.2 ⟨_, List.getElem_mem _, rfl⟩))
        have hh := World.cells?_some hcs
        refine ⟨⟨s, ea, en, ec, exs⟩, ?_, ?_, ⟨k1, k2⟩, ⟨k3, k4⟩⟩
        · have := hh.2.2 0 (by decide)
          rw [addr_add, addr_add] at this
          simpa using this
        · have := hh.2.2 1 (by decide)
          rw [addr_add, addr_add] at this
          simpa using this
      have hch : ∃ f : Nat → SetC, ∀ i, i < n → W.cell? ⟨b, off + i * 2, none⟩ = some (.int .i64 (f i).s) ∧ W.cell? ⟨b, off + i * 2 + 1, none⟩ = some (.slice (f i).a (f i).n (f i).c) ∧ (f i).In W ∧ (f i).Arg := by
        refine ⟨fun i => if h : i < n then Classical.choose (each i h) else .nul, fun i hi => ?_⟩
        simp only [hi, dif_pos]
        exact Classical.choose_spec (each i hi)
      obtain ⟨f, hf⟩ := hch
      refine ⟨_, n, c, lstG f n, rfl, ⟨lstG_len f n, hl, hm, .inr ⟨b, off, rfl, fun i hi => ?_⟩, fun e he => ?_⟩, fun e he => ?_, by omega, fun h => by cases h⟩
      · rw [lstG_len] at hi
        rw [lstG_getD f n i _ hi]
        exact ⟨(hf i hi).1, (hf i hi).2.1⟩
      · obtain ⟨i, hi, rfl⟩ := List.mem_map.1 he
        exact (hf i (List.mem_range.1 hi)).2.2.1
      · obtain ⟨i, hi, rfl⟩ := List.mem_map.1 he
        exact (hf i (List.mem_range.1 hi)).2.2.2

theorem arg_sets {H : Type} {enc : TypeId × Value → H} {W : World} {a : Option Addr} {n c : Nat} {d : DataW H} {p : List MemPlace}
    (h : DataW.Trod enc Tryd.prog W 0 (fun _ => true) true 22 (.slice a n c) d p) (hz : ∀ k ∈ d.weights Tryd.prog 22, k ≤ reachBytes) :
    ∃ L, SlS W a n c L ∧ (∀ e ∈ L, e.Arg) ∧ n ≤ 4398046510976 ∧ (a = none → n = 0 ∧ c = 0) := by
  obtain ⟨fuel, hf⟩ := h
  obtain ⟨a', n', c', L, e, k⟩ := trod_sets hf hz
  simp [Value.cells] at e
  obtain ⟨rfl, rfl, rfl⟩ := e
  exact ⟨L, k⟩
end Go.Proofs.YtbendkndnojihabDoor

namespace Go.Proofs.YtbendkndnojihabDoor
open Go.RowKit Go.Deep
set_option linter.unusedVariables false

set_option maxHeartbeats 8000000 in
/-- bitset.join, by or. -/
theorem join_or (s1 s2 : Int) (b N cb : Nat) (f : Nat → Nat) (a : Option Addr) (n c : Nat) (xs : List Nat) (w : World) (hf : FnW w b 0 N f) (hlt : ∀ i, i < N → f i < 18446744073709551616)
    (h : SlW w a n c xs) (hok : OkW xs) (hn : n ≤ N) (hN : N ≤ 64) (hne : 0 < n → ∀ x, a = some x → x.block ≠ b) (hcb : cb ≤ maxLen) (hNc : N ≤ cb) :
    Calls Tryd.prog 75 #[setV s1 (some ⟨b, 0, none⟩) N cb, setV s2 a n c, .func (.func 46) #[] #[]] w fun r w' => r = .returned (.tuple #[]) ∧ FnW w' b 0 N (jnF jOr f xs n) ∧ Chg (fun j => j = b) w w' := by
  have hle := h.le
  have hcap := h.cap
  unfold maxLen at hcap hcb
  obtain ⟨wa, hwa⟩ : ∃ wa, w.alloc (.cells #[.int .i64 s1, .slice (some ⟨b, 0, none⟩) N cb] 35) = wa := ⟨_, rfl⟩
  obtain ⟨wb, hwb⟩ : ∃ wb, wa.alloc (.cells #[.int .i64 s2, .slice a n c] 35) = wb := ⟨_, rfl⟩
  have hba : Below w.heap.size w wa := by rw [← hwa]; exact (Below.refl _ _).alloc (Nat.le_refl _) _
  have hbb : Below wa.heap.size wa wb := by rw [← hwb]; exact (Below.refl _ _).alloc (Nat.le_refl _) _
  have tA : Two wb w.heap.size (.int .i64 s1) (.slice (some ⟨b, 0, none⟩) N cb) := by
    refine Two.keep (w := wa) ?_ hbb
    rw [← hwa]; exact Two.made _ _ _ _
  have tB : Two wb wa.heap.size (.int .i64 s2) (.slice a n c) := by rw [← hwb]; exact Two.made _ _ _ _
  have hB := hba.trans (hbb.mono hba.size)
  have hwl : w.heap.size < wa.heap.size := by rw [← hwa]; simp
  have hS := (h.below hba).below hbb
  have HA := hide (And.intro tA (And.intro tB (And.intro hS hB)))
  have HF := hide (show JnLp wb wb b N (jnF jOr f xs 0) from ⟨by rw [jnF_zero]; exact (hf.below hba).below hbb, Chg.refl _ _⟩)
  have HLt := hide hlt
  have HOk := hide hok
  have HNe := hide hne
  have HLn := hide h.len
  have HbA := hide (show 0 < N → b < w.heap.size from fun h0 => by
    have := World.block_lt_of_cell? _ _ (hf 0 h0).1
    exact this)
  have b1 := tB.c1
  clear hf hlt h hok hne hba hbb tA tB hB hS
  unfold setV
  go_enter Tryd.func75, Tryd.ntmps75
  go_wp2_with fail
  clear b1 hwb hwa
  go_loopw [11, 6, 7] (fun i _ _ wr => ∃ k : Nat, k ≤ n ∧ i = .int .i64 k ∧ JnLp wb wr b N (jnF jOr f xs k)) (fun i _ _ _ => n - (intOf i).toNat)
  case atStart => exact ⟨0, Nat.zero_le _, rfl, unhide HF⟩
  case round =>
    obtain ⟨k, hk, rfl, hst⟩ := hrel
    by_cases hlt : k < n
    · have hlt' : (k : Int) < (n : Int) := by omega
      have hltN : (k : Int) < (N : Int) := by omega
      have hbw := unhide HbA (by omega)
      obtain ⟨qA, qB, qS, qBl⟩ := unhide HA
      have hS2 := qS.chg hst.chg (fun x hx _ => unhide HNe (by omega) x hx)
      have tA := qA.chg hst.chg (by omega)
      obtain ⟨b2, o2, rfl, hc2⟩ := hS2.at (by omega)
      have g1 := hc2 k hlt
      have g2 := (hst.row k (by omega)).1
      have g3 := (hst.row k (by omega)).2
      rw [Nat.zero_add] at g2 g3
      have HS := hide (show JnLp wb (wr.setCell ⟨b, k, none⟩ (.int .u64 ((jOr (f k) (xs.getD k 0) : Nat) : Int))) b N (jnF jOr f xs (k + 1)) from ⟨jnF_step hst.row (by omega), hst.chg.trans (Chg.of_set (S := fun j => j = b) _ _ _ _ rfl)⟩)
      have hfk : jnF jOr f xs k k = f k := by simp [jnF]
      rw [hfk] at g2
      have hx := unhide HLt k (by omega)
      have hy : xs.getD k 0 < 18446744073709551616 := by
        have hkl : k < xs.length := by rw [unhide HLn]; exact hlt
        have : xs.getD k 0 = xs[k] := by simp [List.getD, hkl]
        rw [this]; exact unhide HOk _ (List.getElem_mem hkl)
      have HK := hide (fun w => or_fn (f k) (xs.getD k 0) w hx hy)
      unfold vU at g1 g2
      generalize f k = x at *
      generalize xs.getD k 0 = y at *
      generalize jOr x y = z at *
      have a1 := tA.c1
      clear hc2 hst qA qB qS qBl hS2 tA hfk hx hy
      go_wp2_with fail
      go_region_with (
        go_at_call 46
        refine (unhide HK _).mono ?_
        rintro _ w1 ⟨rfl, rfl⟩)
      all_goals
        go_wp2_with fail
        exact ⟨⟨k + 1, by omega, by go_num, ⟨(unhide HS).row.below (Below.refl _ _).drew, (unhide HS).chg.drew⟩⟩, by simp [intOf]; omega⟩
    · have hlt' : ¬ (k : Int) < (n : Int) := by omega
      have hkn : k = n := by omega
      subst hkn
      go_wp2_with fail
      refine bodyPost_end (results_none rfl _ _ _) rfl ?_
      exact ⟨rfl, hst.row, (Chg.of_below (unhide HA).2.2.2).trans hst.chg⟩
end Go.Proofs.YtbendkndnojihabDoor
