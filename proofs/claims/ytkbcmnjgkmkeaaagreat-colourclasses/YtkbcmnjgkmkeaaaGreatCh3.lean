/-
  COLOURS: slices.Max of whole numbers; colour.number: contracts.
-/
import Derived.Test.YtkbcmnjgkmkeaaaGreatCg5
import Derived.Lib.MinMax
namespace Go.Proofs.YtkbcmnjgkmkeaaaGreat
open Go.RowKit Go.Deep
set_option linter.unusedVariables false

/-- The greatest of the first k. -/
structure MaxTo (xs : List Int) (k : Nat) (v : Int) : Prop where
  at_ : ∃ i, i < k ∧ xs.getD i 0 = v
  le : ∀ i, i < k → xs.getD i 0 ≤ v
theorem MaxTo.next {xs : List Int} {k : Nat} {v x : Int} (h : MaxTo xs k v) (hx : xs.getD k 0 = x) : MaxTo xs (k + 1) (max v x) := by
  obtain ⟨i, hi, he⟩ := h.at_
  refine ⟨?_, fun j hj => ?_⟩
  · by_cases c : v ≤ x
    · exact ⟨k, by omega, by rw [hx]; omega⟩
    · exact ⟨i, by omega, by rw [he]; omega⟩
  · by_cases e : j = k
    · subst e; rw [hx]; omega
    · have := h.le j (by omega); omega
theorem MaxTo.one {xs : List Int} {k : Nat} {v u : Int} (h : MaxTo xs k v) (g : MaxTo xs k u) : v = u := by
  obtain ⟨i, hi, he⟩ := h.at_
  obtain ⟨j, hj, hf⟩ := g.at_
  have := h.le j hj
  have := g.le i hi
  omega
set_option maxRecDepth 20000 in
set_option maxHeartbeats 8000000 in
/-- slices.Max of whole numbers. -/
theorem smax_any (a : Option Addr) (n c : Nat) (xs : List Int) (w : World) (h : SlI w a n c xs) (hn : n ≤ 1000000) (h0 : 0 < n) :
    Calls Tryz.prog 23 #[.slice a n c] w fun e w' => ∃ v : Int, e = .returned (.int .i64 v) ∧ MaxTo xs n v ∧ Below w.heap.size w w' := by
  have HS := hide h
  obtain ⟨b, off, rfl, hc⟩ := h.at (by omega)
  have s0 := hc 0 h0
  rw [Nat.add_zero] at s0
  obtain ⟨x, hx⟩ : ∃ x, xs.getD 0 0 = x := ⟨_, rfl⟩
  rw [hx] at s0
  have HX := hide hx
  have hn1 : ¬ (n : Int) < 1 := by omega
  have hn2 : (0 : Int) < (n : Int) := by omega
  clear h hc hx
  go_enter Tryz.func23, Tryz.ntmps23
  go_wp2_with fail
  go_loopw [3, 4] (fun mv iv wr => ∃ (u : Int) (k : Nat), 1 ≤ k ∧ k ≤ n ∧ mv = .int .i64 u ∧ iv = .int .i64 (k : Int) ∧ Hid (MaxTo xs k u) ∧ Hid (Below w.heap.size w wr)) (fun _ iv _ => n - (intOf iv).toNat)
  case atStart => exact ⟨x, 1, Nat.le_refl _, by omega, rfl, rfl, hide ⟨⟨0, by omega, unhide HX⟩, fun i hi => by rw [show i = 0 by omega, unhide HX]; exact Int.le_refl _⟩, hide (Below.refl _ _)⟩
  case round =>
    obtain ⟨u, k, hk1, hk, rfl, rfl, HM, HW⟩ := hrel
    clear s0
    by_cases hlt : k < n
    · have hlt' : (k : Int) < (n : Int) := by omega
      obtain ⟨b', off', e1, hc⟩ := ((unhide HS).below (unhide HW)).at (by omega)
      cases e1
      have sk := hc k hlt
      obtain ⟨y, hy⟩ : ∃ y, xs.getD k 0 = y := ⟨_, rfl⟩
      rw [hy] at sk
      have HN := hide ((unhide HM).next hy)
      obtain ⟨z, hz⟩ : ∃ z, max u y = z := ⟨_, rfl⟩
      rw [hz] at HN
      clear hc hy
      go_wp2_with fail
      exact ⟨⟨z, k + 1, by omega, by omega, by (first | rfl | simp [hz]), by (first | rfl | go_num), HN, HW⟩, by simp [intOf]; omega⟩
    · obtain rfl : k = n := by omega
      have hlt' : ¬ (k : Int) < (k : Int) := by omega
      go_wp2_with fail
      try go_ret
      exact ⟨u, rfl, unhide HM, unhide HW⟩
theorem wrap_i64n (x : Int) : IntKind.i64.wrap x = (x + 9223372036854775808) % 18446744073709551616 - 9223372036854775808 := by
  simp [IntKind.wrap, IntKind.bits, IntKind.signed]
  split <;> omega
/-- How many colours there are. -/
def NumC (cs : List Int) (z : Int) : Prop := MaxTo (-1 :: cs) (cs.length + 1) (z - 1)
set_option maxRecDepth 20000 in
set_option maxHeartbeats 8000000 in
/-- colour.number. -/
theorem cnumber_any (a : Option Addr) (n c : Nat) (cs : List Int) (w : World) (h : SlI w a n c cs) (hn : n ≤ 128) (hr : ∀ i, i < n → cs.getD i 0 ≤ 65536) (hnil : a = none → c = 0) :
    Calls Tryz.prog 12 #[.slice a n c] w fun e w' => ∃ z : Int, e = .returned (.int .i64 z) ∧ NumC cs z ∧ Below w.heap.size w w' := by
  have HS := hide h
  obtain ⟨i64, hi, hz, hs, hb⟩ := info_parts Tryz.info_i64
  have HI := hide (And.intro hi (And.intro hz (And.intro hs hb)))
  have hlc := h.len
  have HV := hide (show ∀ v, MaxTo (-1 :: cs) (cs.length + 1) v → -1 ≤ v ∧ v ≤ 65536 from fun v hv => by
    refine ⟨by have := hv.le 0 (by omega); simpa using this, ?_⟩
    obtain ⟨i, hi, he⟩ := hv.at_
    cases i with
    | zero => simp at he; omega
    | succ i =>
      rw [List.getD_cons_succ] at he
      have := hr i (by omega)
      omega)
  obtain ⟨wa, hwa⟩ : ∃ x, w.alloc (.cells #[.int .i64 (-1)] 3) = x := ⟨_, rfl⟩
  have ba : Below w.heap.size w wa := by rw [← hwa]; exact (Below.refl _ _).alloc (Nat.le_refl _) _
  have hblk : wa.heap[w.heap.size]? = some (.cells #[.int .i64 (-1)] 3 (0, 0)) := by rw [← hwa]; exact alloc_block _ _
  have HOW := hide (show wa.ownsRow w.heap.size 3 1 (.slice (some ⟨w.heap.size, 0, none⟩) 1 1) 1 [.int .i64 (-1)] from ⟨rfl, .inr ⟨w.heap.size, 1, #[.int .i64 (-1)], rfl, Nat.le_refl _, hblk, Nat.le_refl _, by decide, rfl, rfl⟩⟩)
  have HBA := hide ba
  have HLC := hide hlc
  by_cases hn0 : n = 0
  · subst hn0
    have hcs : cs = [] := List.eq_nil_of_length_eq_zero hlc
    have KM := hide (smax_any (some ⟨w.heap.size, 0, none⟩) 1 1 [-1] wa ((own_slI (xs := [-1]) (unhide HOW)).elim (fun a h => h.elim (fun c h => by have e := h.1; injection e with e1 e2 e3; subst e1 e3; exact h.2))) (by omega) (by omega))
    clear h hr hi hz hs hb hblk ba hlc
    have HNN := hide (show a = none → 0 = 0 ∧ c = 0 from fun e => ⟨rfl, hnil e⟩)
    have HCC := hide (show ∀ ad, a = some ad → ∀ j u, ([] : List Value)[j]? = some u → wa.cell? (ad.add j) = some u from fun ad _ j u hj => by simp at hj)
    have HO1 := hide (show ∀ u ∈ ([] : List Value), u.oneCell' = true from fun u hu => by cases hu)
    subst hcs
    clear hnil KM
    go_enter Tryz.func12, Tryz.ntmps12
    go_wp2_with (at_builtin; refine wpList_append_fits_any _ rfl _ _ 22 rfl w.heap.size 3 i64 1 Tryz.underlying22 (unhide HI).1 (unhide HI).2.2.1 w.heap.size 1 1 [.int .i64 (-1)] rfl (unhide HOW) a 0 c [] rfl rfl (unhide HNN) (unhide HCC) (unhide HO1) (by decide) ?_)
    intro w3 hown hg
    have hb3 : Below w.heap.size w w3 := (unhide HBA).grown hg (unhide HBA).size (fun j hj => by injection hj with hj; omega)
    obtain ⟨a4, c4, e4, s4⟩ := own_slI (xs := [-1]) (show w3.ownsRow w.heap.size 3 1 (.slice (some ⟨w.heap.size, 0, none⟩) 1 1) 1 (valsI [-1]) from by simpa [valsI] using hown)
    injection e4 with e5 e6 e7
    subst e5 e7
    have KM := hide (smax_any (some ⟨w.heap.size, 0, none⟩) 1 1 [-1] w3 s4 (by omega) (by omega))
    have HB3 := hide hb3
    clear hown hg hb3 e6 s4
    go_wp2_with fail
    refine (unhide KM).mono ?_
    rintro _ w4 ⟨v, rfl, hv, b4⟩
    have hrg := unhide HV v hv
    have HV2 := hide hv
    have HB4 := hide ((unhide HB3).trans (b4.mono (unhide HB3).size))
    have hw7 : IntKind.i64.wrap (1 + v) = 1 + v := by rw [wrap_i64n]; omega
    clear KM hv b4 hrg
    go_wp2_with fail
    try go_ret
    exact ⟨1 + v, rfl, (show MaxTo _ _ (1 + v - 1) from by rw [show 1 + v - 1 = v by omega]; exact unhide HV2), unhide HB4⟩
  · obtain ⟨b, off, rfl, hc⟩ := (h.below ba).at (by omega)
    have hnews : ∀ j u, (valsI cs)[j]? = some u → wa.cell? ((⟨b, off, none⟩ : Addr).add j) = some u := fun j u hj => by
      obtain ⟨h3, h4⟩ := List.getElem?_eq_some_iff.1 hj
      simp [valsI] at h3 h4
      have e0 : (⟨b, off, none⟩ : Addr).add j = ⟨b, off + j, none⟩ := by unfold Addr.add; split <;> simp_all
      rw [e0, hc j (by omega), ← h4]
      simp [List.getD, h3]
    have HNW := hide hnews
    have HON := hide (show ∀ u ∈ valsI cs, u.oneCell' = true from fun u hu => by simp [valsI] at hu; obtain ⟨x, _, rfl⟩ := hu; rfl)
    have HVL := hide (show (valsI cs).length = n * 1 by simp [valsI]; omega)
    have hmx : 1 + n ≤ maxLen := by unfold maxLen; omega
    have hby : (1 + n) * 8 ≤ 140737488355328 := by omega
    have hpn : 0 < n := by omega
    have hle := ba.size
    clear h hr hi hz hs hb hblk ba hlc hc hnews hn0
    go_enter Tryz.func12, Tryz.ntmps12
    go_wp2_with (at_builtin; refine wpList_append_lies _ rfl _ _ 22 rfl w.heap.size 3 i64 (.int .i64 0) 1 8 Tryz.underlying22 (unhide HI).1 (unhide HI).2.1 (unhide HI).2.2.1 (unhide HI).2.2.2 rfl (by decide) (.slice (some ⟨w.heap.size, 0, none⟩) 1 1) 1 [.int .i64 (-1)] rfl (unhide HOW) ⟨b, off, none⟩ n c (valsI cs) rfl (unhide HVL) (unhide HNW) (unhide HON) hpn hmx hby hle wa.heap.size rfl ?_)
    intro g cap w3 hown hg hat hlt
    have hb3 : Below w.heap.size w w3 := (unhide HBA).grown hg (unhide HBA).size (fun j hj => by simp [Value.ownBlock] at hj; omega)
    obtain ⟨a4, c4, e4, s4⟩ := own_slI (xs := -1 :: cs) (show w3.ownsRow w.heap.size 3 1 (.slice (some ⟨g, 0, none⟩) (1 + n) cap) (1 + n) (valsI (-1 :: cs)) from by simpa [valsI] using hown)
    injection e4 with e5 e6 e7
    subst e5 e7
    have KM := hide (smax_any (some ⟨g, 0, none⟩) (1 + n) cap (-1 :: cs) w3 s4 (by omega) (by omega))
    have HB3 := hide hb3
    clear hown hg hat hlt hb3 e6 s4
    go_wp2_with fail
    refine (unhide KM).mono ?_
    rintro _ w4 ⟨v, rfl, hv, b4⟩
    have hv2 : MaxTo (-1 :: cs) (cs.length + 1) v := by rw [unhide HLC, Nat.add_comm]; exact hv
    have hrg := unhide HV v hv2
    have HV2 := hide hv2
    have HB4 := hide ((unhide HB3).trans (b4.mono (unhide HB3).size))
    have hw7 : IntKind.i64.wrap (1 + v) = 1 + v := by rw [wrap_i64n]; omega
    clear KM hv b4 hv2 hrg
    go_wp2_with fail
    try go_ret
    exact ⟨1 + v, rfl, (show MaxTo _ _ (1 + v - 1) from by rw [show 1 + v - 1 = v by omega]; exact unhide HV2), unhide HB4⟩
end Go.Proofs.YtkbcmnjgkmkeaaaGreat
