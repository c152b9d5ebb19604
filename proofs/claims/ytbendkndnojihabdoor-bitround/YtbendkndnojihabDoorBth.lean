/-
  bitset.May: its contract.
-/
import Derived.Test.YtbendkndnojihabDoorBt9
import Derived.Test.YtbendkndnojihabDoorBtb
namespace Go.Proofs.YtbendkndnojihabDoor
open Go.RowKit Go.Deep
set_option linter.unusedVariables false

theorem tb_ones (r j : Nat) : (2 ^ r - 1).testBit j = decide (j < r) := Nat.testBit_two_pow_sub_one r j
theorem pow_le64 {r : Nat} (h : r ≤ 64) : 2 ^ r - 1 < 18446744073709551616 := by
  have : (2:Nat) ^ r ≤ 2 ^ 64 := Nat.pow_le_pow_right (by decide) h
  have e : (2:Nat) ^ 64 = 18446744073709551616 := by decide
  have := Nat.two_pow_pos r
  omega
theorem lastB_le (n : Nat) : lastB n ≤ 64 := by unfold lastB; omega
theorem lastB_eq (n : Nat) (h : 0 < nW n) : 64 * (nW n - 1) + lastB n = n := by unfold lastB nW at *; omega
theorem top_zero {x r : Nat} (hx : x < 18446744073709551616) (hr : r ≤ 64) : (anot x (2 ^ r - 1) = 0) ↔ ∀ j, r ≤ j → j < 64 → x.testBit j = false := by
  constructor
  · intro h j h1 h2
    have := tb_anot (j := j) hx (pow_le64 hr)
    rw [h, tb_ones] at this
    simp at this
    cases hh : x.testBit j
    · rfl
    · have := this hh; omega
  · intro h
    apply Nat.eq_of_testBit_eq
    intro j
    rw [tb_anot hx (pow_le64 hr), tb_ones]
    simp
    intro h1
    by_cases hj : j < 64
    · by_cases hjr : j < r
      · exact hjr
      · rw [h j (by omega) hj] at h1; cases h1
    · rw [tb_big hx (by omega)] at h1; cases h1

theorem may_top {n : Nat} {xs : List Nat} (hok : ∀ x ∈ xs, x < 18446744073709551616) (hn : n ≤ 4096) (hl : xs.length = nW n) (h0 : 0 < nW n) : MayS n xs = ((anot (xs.getD (nW n - 1) 0) (2 ^ lastB n - 1) : Nat) == 0) := by
  have hx : xs.getD (nW n - 1) 0 < 18446744073709551616 := by
    have : xs.getD (nW n - 1) 0 = xs[nW n - 1]'(by omega) := by simp [List.getD, show nW n - 1 < xs.length from by omega]
    rw [this]; exact hok _ (List.getElem_mem _)
  have he := lastB_eq n h0
  have hlb := lastB_le n
  have key : MayS n xs = true ↔ ∀ j, lastB n ≤ j → j < 64 → (xs.getD (nW n - 1) 0).testBit j = false := by
    constructor
    · intro h j h1 h2
      have := MayS.zero h (64 * (nW n - 1) + j) (by simp; omega) (by rw [hl]; omega)
      unfold hasB at this
      rwa [show (64 * (nW n - 1) + j) / 64 = nW n - 1 from by omega, show (64 * (nW n - 1) + j) % 64 = j from by omega] at this
    · intro h
      refine MayS.mk (by simp [fitsI]; omega) (by simpa using hl) (fun x h1 h2 => ?_)
      simp at h1
      rw [hl] at h2
      have e1 : x / 64 = nW n - 1 := by omega
      unfold hasB
      rw [e1]
      exact h (x % 64) (by omega) (by omega)
  rw [Bool.eq_iff_iff, key, ← top_zero hx hlb]
  simp

set_option maxHeartbeats 2000000 in
/-- bitset.May. -/
theorem may_any (s : Int) (a : Option Addr) (n c : Nat) (xs : List Nat) (w : World) (h : SlW w a n c xs) (hok : ∀ x ∈ xs, x < 18446744073709551616) :
    Calls Tryd.prog 50 #[setV s a n c] w fun r w' => r = .returned (.bool (MayS s xs)) ∧ Below w.heap.size w w' := by
  have hle := h.le
  have hcap := h.cap
  unfold maxLen at hcap
  have hl := h.len
  obtain ⟨wa, hwa⟩ : ∃ wa, w.alloc (.cells #[.int .i64 s, .slice a n c] 35) = wa := ⟨_, rfl⟩
  have hb : Below w.heap.size w wa := by rw [← hwa]; exact (Below.refl _ _).alloc (Nat.le_refl _) _
  have hT : Two wa w.heap.size (.int .i64 s) (.slice a n c) := by rw [← hwa]; exact Two.made _ _ _ _
  have t0 := hT.c0
  have t1 := hT.c1
  have HB := hide hb
  have HS := hide (h.below hb)
  have HK := hide (fits_any s)
  have HOk := hide hok
  clear hT hb h hok
  unfold setV
  cases hf : fitsI s
  · have e0 : MayS s xs = false := by simp [MayS, hf]
    rw [e0]
    rw [hf] at HK
    clear hf
    go_enter Tryd.func50, Tryd.ntmps50
    go_wp2_with fail
    refine (unhide HK _).mono ?_
    rintro _ w' ⟨rfl, hw⟩
    obtain rfl := hw.symm
    go_wp2_with fail
    go_ret
    exact ⟨rfl, unhide HB⟩
  · obtain ⟨sz, rfl, hsz⟩ := fitsI_nat hf
    rw [hf] at HK
    clear hf
    have HW := hide (fun w => wordsFor_any sz w hsz)
    have HNN := hide (show (sz + 63) / 64 = nW sz from rfl)
    by_cases hne : n = nW sz
    · have HN0 := hide (fun h0 => may_top (unhide HOk) hsz (by rw [hl]; exact hne) h0)
      have hN : nW sz ≤ 64 := by unfold nW; omega
      by_cases h0 : n = 0
      · have e0 : MayS sz xs = true := MayS.mk (by simp [fitsI]; omega) (by rw [hl, hne]; simp) (fun x h1 h2 => by rw [hl] at h2; omega)
        rw [e0]
        rw [← hne] at HNN
        subst h0
        clear hne HN0
        go_enter Tryd.func50, Tryd.ntmps50
        go_wp2_with fail
        refine (unhide HK _).mono ?_
        rintro _ w' ⟨rfl, hw⟩
        obtain rfl := hw.symm
        go_wp2_with fail
        refine (unhide HW _).mono ?_
        rintro _ w' ⟨rfl, hw⟩
        obtain rfl := hw.symm
        rw [unhide HNN]
        go_wp2_with fail
        go_quiet (fail)
        go_wp2_with fail
        go_ret
        exact ⟨rfl, bel_drewN (unhide HB) _⟩
      · have hI := inside_any sz
        have e1 := unhide HN0 (by omega)
        obtain ⟨b, off, rfl, hc⟩ := (unhide HS).at (by omega)
        have hcell := hc (n - 1) (by omega)
        have hx : xs.getD (n - 1) 0 < 18446744073709551616 := by
          have : xs.getD (n - 1) 0 = xs[n - 1]'(by omega) := by simp [List.getD, show n - 1 < xs.length from by omega]
          rw [this]; exact (unhide HOk) _ (List.getElem_mem _)
        rw [← hne] at e1 HNN hN
        have hp := pow_le64 (lastB_le sz)
        have ha := u64_andNot_nat (xs.getD (n - 1) 0) (2 ^ lastB sz - 1) hx hp
        have HA := hide (show bits .andNot .u64 ((xs.getD (n - 1) 0 : Nat) : Int) ((2 ^ lastB sz - 1 : Nat) : Int) = ((anot (xs.getD (n - 1) 0) (2 ^ lastB sz - 1) : Nat) : Int) from ha)
        rw [e1]
        have HI := hide (fun w => hI w hsz)
        unfold vU at hcell
        have h1 : ((n : Int) == 0) = false := by simp; omega
        have h2 : ((n : Int) - 1).toNat = n - 1 := by omega
        have h3 : (0 : Int) ≤ (n : Int) - 1 := by omega
        have h4 : (n : Int) - 1 < (n : Int) := by omega
        generalize xs.getD (n - 1) 0 = x at *
        generalize (2 ^ lastB sz - 1) = m at *
        clear hc hI ha hne HN0 e1
        go_enter Tryd.func50, Tryd.ntmps50
        go_wp2_with fail
        refine (unhide HK _).mono ?_
        rintro _ w' ⟨rfl, hw⟩
        obtain rfl := hw.symm
        go_wp2_with fail
        refine (unhide HW _).mono ?_
        rintro _ w' ⟨rfl, hw⟩
        obtain rfl := hw.symm
        rw [unhide HNN]
        go_wp2_with fail
        go_quiet ((go_at_call 77; exact Calls.quiet_of_same (unhide HI _)))
        go_wp2_with fail
        go_ret
        refine ⟨?_, bel_drewN (unhide HB) _⟩
        show Ending.returned (.bool (bits .andNot .u64 (x : Int) (m : Int) == 0)) = _
        rw [unhide HA]
        generalize anot x m = y
        congr 2
        rw [Bool.eq_iff_iff]
        simp
    · have e0 : MayS sz xs = false := by
        simp [MayS]
        intro _ h3
        rw [hl] at h3
        exact absurd h3 hne
      rw [e0]
      have hN : nW sz ≤ 64 := by unfold nW; omega
      generalize nW sz = N at *
      have hne' : ((n : Int) == (N : Int)) = false := by simp; omega
      clear hne
      go_enter Tryd.func50, Tryd.ntmps50
      go_wp2_with fail
      refine (unhide HK _).mono ?_
      rintro _ w' ⟨rfl, hw⟩
      obtain rfl := hw.symm
      go_wp2_with fail
      refine (unhide HW _).mono ?_
      rintro _ w' ⟨rfl, hw⟩
      obtain rfl := hw.symm
      rw [unhide HNN]
      go_wp2_with fail
      go_ret
      exact ⟨rfl, unhide HB⟩
end Go.Proofs.YtbendkndnojihabDoor

namespace Go.Proofs.YtbendkndnojihabDoor
open Go.ChangeShapes Go.WideShapes Go.ChangeAt Go.RowKit Go.Deep
set_option linter.unusedVariables false

def OkW (xs : List Nat) : Prop := ∀ x ∈ xs, x < 18446744073709551616
theorem law_bytesW : Tryd.prog.bytesOf 65 = 8 := by kernel_rfl
theorem law_cellsW : Tryd.prog.cellsOf 65 = 1 := by kernel_rfl
theorem law_cellsWs : Tryd.prog.cellsOf 33 = 1 := by kernel_rfl
theorem law_cellsS : Tryd.prog.cellsOf 35 = 2 := by kernel_rfl

theorem trod_words {H : Type} {enc : TypeId × Value → H} {W : World} {fuel : Nat} {cs : List Value} {x : DataW H × List MemPlace}
    (h : DataW.trod enc Tryd.prog W 0 (fun _ => true) true fuel 33 cs = some x) (hz : ∀ k ∈ x.1.weights Tryd.prog 33, k ≤ reachBytes) :
    ∃ a n c xs, cs = [.slice a n c] ∧ SlW W a n c xs ∧ OkW xs ∧ n ≤ 17592186043904 ∧ (a = none → n = 0 ∧ c = 0) := by
  rcases open_ints Tryd.underlying33 Tryd.underlying65 law_cellsW h with ⟨rfl, _⟩ | ⟨y, n, c, zs, rfl, _, hl, hm, hzl, rfl, hcell, hwz⟩
  · exact ⟨none, 0, 0, [], rfl, SlG.nil _, (fun x hx => by cases hx), Nat.zero_le _, fun _ => ⟨rfl, rfl⟩⟩
  · have hzl' : zs.length = c := by simpa using hzl
    have hb := hz (((lits (H := H) .u64 (zs.take n)).length + (lits (H := H) .u64 (zs.drop n)).length) * Tryd.prog.bytesOf 65) (by simp [DataW.weights, Tryd.underlying33])
    have hlen : (lits (H := H) .u64 (zs.take n)).length + (lits (H := H) .u64 (zs.drop n)).length = c := by
      simp [lits]; omega
    rw [hlen, law_bytesW] at hb
    unfold reachBytes at hb
    refine ⟨some y, n, c, (zs.take n).map Int.toNat, rfl, ⟨by simp; omega, hl, hm, ?_⟩, fun z hzz => ?_, by omega, fun h => by cases h⟩
    · by_cases h0 : n = 0
      · left; subst h0; simp
      · right
        obtain ⟨b, off, spot⟩ := y
        have c0 := hcell 0 (by omega)
        have hspot : spot = none := by simpa [Addr.add] using World.cell?_spot c0
        subst hspot
        refine ⟨b, off, rfl, ?_⟩
        intro i hi
        have hi' : i < n := by simp at hi; omega
        have hzi := hcell i (by omega)
        rw [addr_add] at hzi
        rw [hzi]
        have hmem : zs.getD i 0 ∈ zs := by
          have : zs.getD i 0 = zs[i]'(by omega) := by simp [List.getD, show i < zs.length from by omega]
          rw [this]; exact List.getElem_mem _
        have r := bounds_u64 (hwz _ hmem)
        have e2 : ((zs.take n).map Int.toNat).getD i 0 = (zs.getD i 0).toNat := by
          simp [List.getD, hi', show i < zs.length from by omega]
        rw [e2]
        unfold vU
        congr 2
        omega
    · obtain ⟨u, hu, rfl⟩ := List.mem_map.1 hzz
      have := bounds_u64 (hwz u (List.mem_of_mem_take hu))
      omega

set_option maxRecDepth 100000 in
/-- A set, out of its cells. -/
theorem trod_set {H : Type} {enc : TypeId × Value → H} {W : World} {fuel : Nat} {cs : List Value} {x : DataW H × List MemPlace}
    (h : DataW.trod enc Tryd.prog W 0 (fun _ => true) true fuel 35 cs = some x) (hz : ∀ k ∈ x.1.weights Tryd.prog 35, k ≤ reachBytes) :
    ∃ s a n c xs, cs = [.int .i64 s, .slice a n c] ∧ -9223372036854775808 ≤ s ∧ s ≤ 9223372036854775807 ∧ SlW W a n c xs ∧ OkW xs ∧ n ≤ 17592186043904 ∧ (a = none → n = 0 ∧ c = 0) := by
  obtain ⟨y0, y1, m, rfl, hl, h0, h1⟩ := trod_struct2 Tryd.underlying35 h
  rw [law_cellsS] at hl
  match cs, hl with
  | [c0, c1], _ =>
    simp only [List.drop_zero, List.drop_succ_cons, law_cellsI, law_cellsWs, List.take_succ_cons, List.take_zero] at h0 h1
    obtain ⟨s, e0, rfl, hw⟩ := DataW.trod_int Tryd.underlying3 h0
    obtain ⟨a, n, c, xs, e1, k1, k2, k3, k4⟩ := trod_words h1 (fun k hk => hz k (by simp [DataW.weights, DataW.weightsEach, Tryd.underlying35, hk]))
    cases e0
    cases e1
    exact ⟨s, a, n, c, xs, rfl, (bounds_i64 hw).1, (bounds_i64 hw).2, k1, k2, k3, k4⟩

set_option maxRecDepth 100000 in
theorem arg_set {H : Type} {enc : TypeId × Value → H} {W : World} {v : Value} {d : DataW H} {p : List MemPlace} {r : Reach} {b0 : Nat}
    (hv : Value.okWide Tryd.prog W r b0 35 v) (h : DataW.Trod enc Tryd.prog W 0 (fun _ => true) true 35 v d p) (hz : ∀ k ∈ d.weights Tryd.prog 35, k ≤ reachBytes) :
    ∃ s a n c xs, v = setV s a n c ∧ -9223372036854775808 ≤ s ∧ s ≤ 9223372036854775807 ∧ SlW W a n c xs ∧ OkW xs ∧ n ≤ 17592186043904 ∧ (a = none → n = 0 ∧ c = 0) := by
  obtain ⟨cs, rfl, hsz⟩ := okWide_struct Tryd.underlying35 hv
  obtain ⟨fuel, hf⟩ := h
  obtain ⟨s, a, n, c, xs, e, k⟩ := trod_set hf hz
  refine ⟨s, a, n, c, xs, ?_, k⟩
  unfold setV
  congr 1
  apply Array.ext'
  simpa [Value.cells] using e
end Go.Proofs.YtbendkndnojihabDoor
