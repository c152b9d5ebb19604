/-
  sloperef3.MayTable: its contract.
-/
import Derived.Test.YtbendkndnojihabDoorBu1
import Derived.Test.YtbendkndnojihabDoorBv1
import Derived.Test.YtbendkndnojihabDoorBxc
import Derived.Test.YtbendkndnojihabDoorBt3
import Derived.Test.YtbendkndnojihabDoorBt7
namespace Go.Proofs.YtbendkndnojihabDoor
open Go.RowKit Go.Deep
set_option linter.unusedVariables false

set_option maxHeartbeats 16000000 in
/-- sloperef3.MayTable. -/
theorem rmayT_any (s : Int) (a : Option Addr) (n c : Nat) (L : List SetC) (w : World) (h : SlS w a n c L) :
    Calls Tryd.prog 10 #[setV s a n c] w fun r w' => r = .returned (.bool (MayT s L)) ∧ Below w.heap.size w w' := by
  have hle := h.le
  have hcap := h.cap
  unfold maxLen at hcap
  obtain ⟨wa, hwa⟩ : ∃ wa, w.alloc (.cells #[.int .i64 s, .slice a n c] 24) = wa := ⟨_, rfl⟩
  have hb : Below w.heap.size w wa := by rw [← hwa]; exact (Below.refl _ _).alloc (Nat.le_refl _) _
  have hT : Two wa w.heap.size (.int .i64 s) (.slice a n c) := by rw [← hwa]; exact Two.made _ _ _ _
  have t0 := hT.c0
  have t1 := hT.c1
  have HB := hide hb
  have HT := hide hT
  have HSl := hide h
  have hl := h.len
  have HLn := hide hl
  unfold setV
  clear h hb hT
  by_cases hf : s < 0 ∨ 4096 < s
  · have e0 : MayT s L = false := by
      have : fitsI s = false := by simp [fitsI]; omega
      simp [MayT, this]
    rw [e0]
    rcases hf with hf | hf
    all_goals
      go_enter Tryd.func10, Tryd.ntmps10
      go_wp2_with fail
      all_goals
        go_ret
        exact ⟨rfl, unhide HB⟩
  · have hf0 : ¬ (s < 0) := by omega
    have hf1 : ¬ (4096 < s) := by omega
    have hfit : fitsI s = true := by simp [fitsI]; omega
    clear hf
    by_cases h4 : 4096 < n
    · have e0 : MayT s L = false := by
        have : ¬ L.length ≤ 4096 := by omega
        simp [MayT, hfit, this]
      rw [e0]
      have h4' : (4096 : Int) < (n : Int) := by omega
      clear e0
      go_enter Tryd.func10, Tryd.ntmps10
      go_wp2_with fail
      go_ret
      exact ⟨rfl, unhide HB⟩
    · have e0 : MayT s L = !L.any (badT s) := by
        have : L.length ≤ 4096 := by omega
        simp [MayT, hfit, this]
      rw [e0]
      have h4' : ¬ (4096 : Int) < (n : Int) := by omega
      clear e0 hl hfit
      go_enter Tryd.func10, Tryd.ntmps10
      go_wp2_with fail
      clear t0 t1 hwa
      go_loopw [3] (fun i wr => ∃ k : Nat, k ≤ n ∧ i = .int .i64 k ∧ (L.take k).any (badT s) = false ∧ Two wr w.heap.size (.int .i64 s) (.slice a n c) ∧ Below w.heap.size w wr) (fun i _ => n - (intOf i).toNat)
      case atStart => exact ⟨0, Nat.zero_le _, rfl, rfl, unhide HT, unhide HB⟩
      case round =>
        obtain ⟨k, hk, rfl, hok, ht, hbl⟩ := hrel
        have u0 := ht.c0
        have u1 := ht.c1
        by_cases hlt : k < n
        · have hlt' : (k : Int) < (n : Int) := by omega
          have hkl : k < L.length := by rw [unhide HLn]; exact hlt
          have hS := (unhide HSl).below hbl
          obtain ⟨b, off, rfl, hcells⟩ := hS.at (by omega)
          have g1 := (hcells k hlt).1
          have g2 := (hcells k hlt).2
          have hin := hS.get k hlt
          have HAny := hide (any_takeS hkl (badT s))
          have HBad := hide (fun h => any_badS (p := badT s) hkl h)
          obtain ⟨e, he⟩ : ∃ e, L.getD k .nul = e := ⟨_, rfl⟩
          rw [he] at g1 g2 hin HAny HBad
          obtain ⟨es, ea, en, ec, exs⟩ := e
          simp only at g1 g2
          have F0 : ∀ x : Ext wr, x.w.cell? ⟨w.heap.size, 0, none⟩ = some (.int .i64 s) := fun x => x.cell u0
          have F1 : ∀ x : Ext wr, x.w.cell? ⟨w.heap.size, 1, none⟩ = some (.slice (some ⟨b, off, none⟩) n c) := fun x => x.cell u1
          have F2 : ∀ x : Ext wr, x.w.cell? ⟨b, off + k * 2, none⟩ = some (.int .i64 es) := fun x => x.cell g1
          have F3 : ∀ x : Ext wr, x.w.cell? ⟨b, off + k * 2 + 1, none⟩ = some (.slice ea en ec) := fun x => x.cell g2
          have hNE := Ext.ne wr
          have HIn := hide (fun x : Ext wr => hin.1.below x.bel)
          clear g1 g2 hcells hin he hS
          have HO := hide hok
          have HBl := hide hbl
          have HTw := hide ht
          have hbt : badT s ⟨es, ea, en, ec, exs⟩ = ((!MayS es exs) || decide (es ≠ s)) := rfl
          rw [hbt] at HAny HBad
          clear hok hbl ht hbt
          have K := fun x : Ext wr => rmay_any es ea en ec exs x.w (unhide HIn x)
          unfold setV at K
          cases hm : MayS es exs
          · rw [hm] at K HAny HBad
            have HK := hide K
            clear K hm
            go_wp2_with fail
            refine wp_region_ext (by kernel_rfl) (by kernel_rfl) ?_
            repeat (go_big_quiet_step ((rename_i x; exact Ext.call (unhide HK x) (fun e w' h => h))))
            refine wpQuiet_nil ?_
            rintro _ ⟨x, rfl⟩
            have HB2 := hide ((unhide HBl).trans (x.bel.mono (unhide HBl).size))
            go_wp2_with fail
            go_ret
            rw [unhide HBad (by simp)]
            exact ⟨rfl, unhide HB2⟩
          · rw [hm] at K HAny HBad
            have HK := hide K
            clear K hm
            by_cases hes : es = s
            · subst hes
              go_wp2_with fail
              refine wp_region_ext (by kernel_rfl) (by kernel_rfl) ?_
              repeat (go_big_quiet_step ((rename_i x; exact Ext.call (unhide HK x) (fun e w' h => h))))
              refine wpQuiet_nil ?_
              rintro _ ⟨x, rfl⟩
              have HB2 := hide ((unhide HBl).trans (x.bel.mono (unhide HBl).size))
              have HT2 := hide ((unhide HTw).keep x.bel)
              go_wp2_with fail
              exact ⟨⟨k + 1, by omega, by go_num, by rw [unhide HAny, unhide HO]; simp, unhide HT2, unhide HB2⟩, by simp [intOf]; omega⟩
            · have hes' : (es == s) = false := by simpa using hes
              have hes2 : (es != s) = true := by simpa using hes
              go_wp2_with fail
              refine wp_region_ext (by kernel_rfl) (by kernel_rfl) ?_
              repeat (go_big_quiet_step ((rename_i x; exact Ext.call (unhide HK x) (fun e w' h => h))))
              refine wpQuiet_nil ?_
              rintro _ ⟨x, rfl⟩
              have HB2 := hide ((unhide HBl).trans (x.bel.mono (unhide HBl).size))
              go_wp2_with fail
              go_ret
              rw [unhide HBad (by simp [hes])]
              exact ⟨rfl, unhide HB2⟩
        · have hlt' : ¬ (k : Int) < (n : Int) := by omega
          have hkn : k = n := by omega
          subst hkn
          have hall : L.take k = L := by rw [List.take_of_length_le]; rw [unhide HLn]; exact Nat.le_refl _
          rw [hall] at hok
          have HO := hide hok
          have HBl := hide hbl
          clear hok hbl hall ht
          go_wp2_with fail
          go_ret
          rw [unhide HO]
          exact ⟨rfl, unhide HBl⟩
end Go.Proofs.YtbendkndnojihabDoor

namespace Go.Proofs.YtbendkndnojihabDoor
open Go.ChangeShapes Go.WideShapes Go.ChangeAt Go.RowKit Go.Deep
set_option linter.unusedVariables false

theorem law_cellsT : Tryd.prog.cellsOf 24 = 2 := by kernel_rfl
theorem law_cellsSs : Tryd.prog.cellsOf 22 = 1 := by kernel_rfl
set_option maxRecDepth 100000 in
theorem arg_table {H : Type} {enc : TypeId × Value → H} {W : World} {v : Value} {d : DataW H} {p : List MemPlace} {r : Reach} {b0 : Nat}
    (hv : Value.okWide Tryd.prog W r b0 24 v) (h : DataW.Trod enc Tryd.prog W 0 (fun _ => true) true 24 v d p) (hz : ∀ k ∈ d.weights Tryd.prog 24, k ≤ reachBytes) :
    ∃ s a n c L, v = setV s a n c ∧ -9223372036854775808 ≤ s ∧ s ≤ 9223372036854775807 ∧ SlS W a n c L ∧ (∀ e ∈ L, e.Arg) ∧ n ≤ 4398046510976 ∧ (a = none → n = 0 ∧ c = 0) := by
  obtain ⟨cs, rfl, hsz⟩ := okWide_struct Tryd.underlying24 hv
  obtain ⟨fuel, hf⟩ := h
  obtain ⟨y0, y1, m, hx, hl, h0, h1⟩ := trod_struct2 Tryd.underlying24 hf
  simp only [Prod.mk.injEq] at hx
  obtain ⟨rfl, rfl⟩ := hx
  rw [law_cellsT] at hl
  obtain ⟨cl, hcl⟩ : ∃ cl, (Value.agg cs).cells.toList = cl := ⟨_, rfl⟩
  rw [hcl] at hl h0 h1
  match cl, hl, hcl with
  | [c0, c1], _, hcl =>
    simp only [List.drop_zero, List.drop_succ_cons, law_cellsI, law_cellsSs, List.take_succ_cons, List.take_zero] at h0 h1
    obtain ⟨s, e0, rfl, hw⟩ := DataW.trod_int Tryd.underlying3 h0
    obtain ⟨a, n, c, L, e1, k1, k2, k3, k4⟩ := trod_sets h1 (fun k hk => hz k (by simp [DataW.weights, DataW.weightsEach, Tryd.underlying24, hk]))
    cases e0
    cases e1
    refine ⟨s, a, n, c, L, ?_, (bounds_i64 hw).1, (bounds_i64 hw).2, k1, k2, k3, k4⟩
    unfold setV
    congr 1
    apply Array.ext'
    simpa [Value.cells] using hcl
theorem mayT_key {s : Int} {L T : List SetC} (h : T.map SetC.key = L.map SetC.key) : MayT s T = MayT s L := by
  have hl : T.length = L.length := by simpa using congrArg List.length h
  unfold MayT
  rw [hl, any_key (p := badT s) (q := fun k => (!MayS k.1 k.2) || decide (k.1 ≠ s)) (fun _ => rfl) T, any_key (p := badT s) (q := fun k => (!MayS k.1 k.2) || decide (k.1 ≠ s)) (fun _ => rfl) L, h]
end Go.Proofs.YtbendkndnojihabDoor

namespace Go.Proofs.YtbendkndnojihabDoor
open Go.RowKit Go.Deep
set_option linter.unusedVariables false

theorem mk_303 : mkR 5 [3, 0, 3] = (5, [9], 0) := by decide
theorem mk_5 : mkR 5 [5] = (0, [], 62) := by decide

set_option maxHeartbeats 4000000 in
/-- slopelaw3.alive. -/
theorem alive_any (w : World) : Calls Tryd.prog 8 #[] w fun e w' => e = .returned (.bool true) ∧ Below w.heap.size w w' := by
  obtain ⟨wa, hwa⟩ : ∃ x, w.alloc (.cells #[.int .i64 3, .int .i64 0, .int .i64 3] 3) = x := ⟨_, rfl⟩
  have hba : Below w.heap.size w wa := by rw [← hwa]; exact (Below.refl _ _).alloc (Nat.le_refl _) _
  have hs : SlI wa (some ⟨w.heap.size, 0, none⟩) 3 3 [3, 0, 3] := by
    refine ⟨rfl, Nat.le_refl _, by unfold maxLen; omega, .inr ⟨_, _, rfl, fun i hi => ?_⟩⟩
    have hi3 : i < 3 := hi
    match i, hi3 with
    | 0, _ => rw [← hwa]; simp [vI]
    | 1, _ => rw [← hwa]; simp [vI]
    | 2, _ => rw [← hwa]; simp [vI]
  have K1 := make_any 5 (some ⟨w.heap.size, 0, none⟩) 3 3 [3, 0, 3] wa hs
  rw [mk_303] at K1
  have HK1 := hide K1
  have HB := hide hba
  clear K1 hs hba
  go_enter Tryd.func8, Tryd.ntmps8
  go_wp2_with fail
  refine (unhide HK1).mono ?_
  rintro _ wb ⟨a1, n1, c1, rfl, hs1, hb1⟩
  have hbb := (unhide HB).trans (hb1.mono (unhide HB).size)
  have hl := hs1.len
  have hn1 : n1 = 1 := hl.symm
  subst hn1
  obtain ⟨b, off, rfl, hc⟩ := hs1.at (by decide)
  have g0 := hc 0 (by decide)
  simp [vU] at g0
  have hcap := hs1.cap
  have hle := hs1.le
  unfold maxLen at hcap
  have HG := hide (And.intro hbb g0)
  clear hb1 hs1 hc g0 hbb hl HK1 HB
  unfold setV
  obtain ⟨wc, hwc⟩ : ∃ x, wb.alloc (.cells #[.int .i64 5, .slice (some ⟨b, off, none⟩) 1 c1] 35) = x := ⟨_, rfl⟩
  obtain ⟨wd, hwd⟩ : ∃ x, wc.alloc (.cells #[.int .i64 5] 3) = x := ⟨_, rfl⟩
  have hbc : Below wb.heap.size wb wc := by rw [← hwc]; exact (Below.refl _ _).alloc (Nat.le_refl _) _
  have hbd : Below wc.heap.size wc wd := by rw [← hwd]; exact (Below.refl _ _).alloc (Nat.le_refl _) _
  have tS : Two wd wb.heap.size (.int .i64 5) (.slice (some ⟨b, off, none⟩) 1 c1) := Two.keep (w := wc) (by rw [← hwc]; exact Two.made _ _ _ _) hbd
  have hs : SlI wd (some ⟨wc.heap.size, 0, none⟩) 1 1 [5] := by
    refine ⟨rfl, Nat.le_refl _, by unfold maxLen; omega, .inr ⟨_, _, rfl, fun i hi => ?_⟩⟩
    have hi1 : i < 1 := hi
    match i, hi1 with
    | 0, _ => rw [← hwd]; simp [vI]
  have K2 := make_any 5 (some ⟨wc.heap.size, 0, none⟩) 1 1 [5] wd hs
  rw [mk_5] at K2
  have HK2 := hide K2
  have hbwd : Below wb.heap.size wb wd := hbc.trans (hbd.mono hbc.size)
  have HG2 := hide (And.intro tS (And.intro ((unhide HG).1.trans (hbwd.mono (unhide HG).1.size)) (below_cell hbwd (unhide HG).2)))
  clear K2 hs tS hbc hbd hbwd HG
  go_wp2_with fail
  refine (unhide HK2).mono ?_
  rintro _ we ⟨a2, n2, c2, rfl, hs2, hb2⟩
  have hbe := (unhide HG2).2.1.trans (hb2.mono (unhide HG2).2.1.size)
  have HG3 := hide (And.intro ((unhide HG2).1.keep hb2) (And.intro hbe (below_cell hb2 (unhide HG2).2.2)))
  clear hs2 hb2 hbe HK2 HG2 hwc hwd
  unfold setV
  obtain ⟨wf, hwf⟩ : ∃ x, we.alloc (.cells #[.int .i64 0, .slice a2 n2 c2] 35) = x := ⟨_, rfl⟩
  have hbf : Below we.heap.size we wf := by rw [← hwf]; exact (Below.refl _ _).alloc (Nat.le_refl _) _
  have tS := (unhide HG3).1.keep hbf
  have t0 := tS.c0
  have t1 := tS.c1
  have g0 := below_cell hbf (unhide HG3).2.2
  have HB := hide ((unhide HG3).2.1.trans (hbf.mono (unhide HG3).2.1.size))
  clear tS hbf HG3
  go_wp2_with fail
  refine (num_any 0 wf).mono ?_
  rintro _ w' ⟨rfl, hw⟩
  obtain rfl := hw.symm
  go_wp2_with fail
  refine (num_any 62 wf).mono ?_
  rintro _ w' ⟨rfl, hw⟩
  obtain rfl := hw.symm
  go_wp2_with fail
  go_ret
  exact ⟨rfl, unhide HB⟩
end Go.Proofs.YtbendkndnojihabDoor
