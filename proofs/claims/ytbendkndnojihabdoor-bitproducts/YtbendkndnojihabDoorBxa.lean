/-
  sloperef3.MayTable: its contract.
-/
import Derived.Test.YtbendkndnojihabDoorBu1
import Derived.Test.YtbendkndnojihabDoorBv1
import Derived.Test.YtbendkndnojihabDoorBl0
namespace Go.Proofs.YtbendkndnojihabDoor
open Go.RowKit Go.Deep
set_option linter.unusedVariables false

set_option maxHeartbeats 16000000 in
/-- sloperef3.MayTable. -/
theorem rmayT_any (s : Int) (a : Option Addr) (n c : Nat) (L : List SetC) (w : World) (h : SlS w a n c L) :
    Calls Tryd.prog 10 #[setV s a n c] w fun r w' => r = .returned (.bool (MayT s L)) ∧ Below w.heap.size w w' := by
  have hle := h.le
  have hcap := h.cap
  unfold maxLen at hcap
  obtain ⟨wa, hwa⟩ : ∃ wa, w.alloc (.cells #[.int .i64 s, .slice a n c] 24) = wa := ⟨_, rfl⟩
  have hb : Below w.heap.size w wa := by rw [← hwa]; exact (Below.refl _ _).alloc (Nat.le_refl _) _
  have hT : Two wa w.heap.size (.int .i64 s) (.slice a n c) := by rw [← hwa]; exact Two.made _ _ _ _
  have t0 := hT.c0
  have t1 := hT.c1
  have HB := hide hb
  have HT := hide hT
  have HSl := hide h
  have hl := h.len
  have HLn := hide hl
  unfold setV
  clear h hb hT
  by_cases hf : s < 0 ∨ 4096 < s
  · have e0 : MayT s L = false := by
      have : fitsI s = false := by simp [fitsI]; omega
      simp [MayT, this]
    rw [e0]
    rcases hf with hf | hf
    all_goals
      go_enter Tryd.func10, Tryd.ntmps10
      go_wp2_with fail
      all_goals
        go_ret
        exact ⟨rfl, unhide HB⟩
  · have hf0 : ¬ (s < 0) := by omega
    have hf1 : ¬ (4096 < s) := by omega
    have hfit : fitsI s = true := by simp [fitsI]; omega
    clear hf
    by_cases h4 : 4096 < n
    · have e0 : MayT s L = false := by
        have : ¬ L.length ≤ 4096 := by omega
        simp [MayT, hfit, this]
      rw [e0]
      have h4' : (4096 : Int) < (n : Int) := by omega
      clear e0
      go_enter Tryd.func10, Tryd.ntmps10
      go_wp2_with fail
      go_ret
      exact ⟨rfl, unhide HB⟩
    · have e0 : MayT s L = !L.any (badT s) := by
        have : L.length ≤ 4096 := by omega
        simp [MayT, hfit, this]
      rw [e0]
      have h4' : ¬ (4096 : Int) < (n : Int) := by omega
      clear e0 hl hfit
      go_enter Tryd.func10, Tryd.ntmps10
      go_wp2_with fail
      clear t0 t1 hwa
      go_loopw [3] (fun i wr => ∃ k : Nat, k ≤ n ∧ i = .int .i64 k ∧ (L.take k).any (badT s) = false ∧ Two wr w.heap.size (.int .i64 s) (.slice a n c) ∧ Below w.heap.size w wr) (fun i _ => n - (intOf i).toNat)
      case atStart => exact ⟨0, Nat.zero_le _, rfl, rfl, unhide HT, unhide HB⟩
      case round =>
        obtain ⟨k, hk, rfl, hok, ht, hbl⟩ := hrel
        have u0 := ht.c0
        have u1 := ht.c1
        by_cases hlt : k < n
        · have hlt' : (k : Int) < (n : Int) := by omega
          have hkl : k < L.length := by rw [unhide HLn]; exact hlt
          have hS := (unhide HSl).below hbl
          obtain ⟨b, off, rfl, hcells⟩ := hS.at (by omega)
          have g1 := (hcells k hlt).1
          have g2 := (hcells k hlt).2
          have hin := hS.get k hlt
          have HAny := hide (any_takeS hkl (badT s))
          have HBad := hide (fun h => any_badS (p := badT s) hkl h)
          obtain ⟨e, he⟩ : ∃ e, L.getD k .nul = e := ⟨_, rfl⟩
          rw [he] at g1 g2 hin HAny HBad
          obtain ⟨es, ea, en, ec, exs⟩ := e
          simp only at g1 g2
          have F0 : ∀ x : Ext wr, x.w.cell? ⟨w.heap.size, 0, none⟩ = some (.int .i64 s) := fun x => x.cell u0
          have F1 : ∀ x : Ext wr, x.w.cell? ⟨w.heap.size, 1, none⟩ = some (.slice (some ⟨b, off, none⟩) n c) := fun x => x.cell u1
          have F2 : ∀ x : Ext wr, x.w.cell? ⟨b, off + k * 2, none⟩ = some (.int .i64 es) := fun x => x.cell g1
          have F3 : ∀ x : Ext wr, x.w.cell? ⟨b, off + k * 2 + 1, none⟩ = some (.slice ea en ec) := fun x => x.cell g2
          have hNE := Ext.ne wr
          have HIn := hide (fun x : Ext wr => hin.1.below x.bel)
          clear g1 g2 hcells hin he hS
          have HO := hide hok
          have HBl := hide hbl
          have HTw := hide ht
          have hbt : badT s ⟨es, ea, en, ec, exs⟩ = ((!MayS es exs) || decide (es ≠ s)) := rfl
          rw [hbt] at HAny HBad
          clear hok hbl ht hbt
          have K := fun x : Ext wr => rmay_any es ea en ec exs x.w (unhide HIn x)
          unfold setV at K
          cases hm : MayS es exs
          · rw [hm] at K HAny HBad
            have HK := hide K
            clear K hm
            go_wp2_with fail
            refine wp_region_ext (by kernel_rfl) (by kernel_rfl) ?_
            repeat (go_big_quiet_step ((rename_i x; exact Ext.call (unhide HK x) (fun e w' h => h))))
            refine wpQuiet_nil ?_
            rintro _ ⟨x, rfl⟩
            have HB2 := hide ((unhide HBl).trans (x.bel.mono (unhide HBl).size))
            go_wp2_with fail
            go_ret
            rw [unhide HBad (by simp)]
            exact ⟨rfl, unhide HB2⟩
          · rw [hm] at K HAny HBad
            have HK := hide K
            clear K hm
            by_cases hes : es = s
            · subst hes
              go_wp2_with fail
              refine wp_region_ext (by kernel_rfl) (by kernel_rfl) ?_
              repeat (go_big_quiet_step ((rename_i x; exact Ext.call (unhide HK x) (fun e w' h => h))))
              refine wpQuiet_nil ?_
              rintro _ ⟨x, rfl⟩
              have HB2 := hide ((unhide HBl).trans (x.bel.mono (unhide HBl).size))
              have HT2 := hide ((unhide HTw).keep x.bel)
              go_wp2_with fail
              exact ⟨⟨k + 1, by omega, by go_num, by rw [unhide HAny, unhide HO]; simp, unhide HT2, unhide HB2⟩, by simp [intOf]; omega⟩
            · have hes' : (es == s) = false := by simpa using hes
              have hes2 : (es != s) = true := by simpa using hes
              go_wp2_with fail
              refine wp_region_ext (by kernel_rfl) (by kernel_rfl) ?_
              repeat (go_big_quiet_step ((rename_i x; exact Ext.call (unhide HK x) (fun e w' h => h))))
              refine wpQuiet_nil ?_
              rintro _ ⟨x, rfl⟩
              have HB2 := hide ((unhide HBl).trans (x.bel.mono (unhide HBl).size))
              go_wp2_with fail
              go_ret
              rw [unhide HBad (by simp [hes])]
              exact ⟨rfl, unhide HB2⟩
        · have hlt' : ¬ (k : Int) < (n : Int) := by omega
          have hkn : k = n := by omega
          subst hkn
          have hall : L.take k = L := by rw [List.take_of_length_le]; rw [unhide HLn]; exact Nat.le_refl _
          rw [hall] at hok
          have HO := hide hok
          have HBl := hide hbl
          clear hok hbl hall ht
          go_wp2_with fail
          go_ret
          rw [unhide HO]
          exact ⟨rfl, unhide HBl⟩
end Go.Proofs.YtbendkndnojihabDoor

namespace Go.Proofs.YtbendkndnojihabDoor
open Go.RowKit Go.Deep
set_option linter.unusedVariables false

set_option maxHeartbeats 4000000 in
/-- bitset.copyTable, of sets of one universe. -/
theorem copyTable_any (sz : Nat) (a : Option Addr) (n c : Nat) (L : List SetC) (w : World) (h : SlS w a n c L) (hsz : sz ≤ 4096) (hn : n ≤ 4096) (hu : ∀ i, i < n → (L.getD i .nul).s = (sz : Int) ∧ (L.getD i .nul).n = nW sz) :
    Calls Tryd.prog 39 #[.int .i64 (sz : Int), .slice a n c] w fun r w' => ∃ v, r = .returned v ∧ NewT w w' sz n (fun i j => (L.getD i .nul).xs.getD j 0) v := by
  have hm := make_sets n (by omega)
  have hle := h.le
  have hcap := h.cap
  unfold maxLen at hcap
  obtain ⟨wa, hwa⟩ : ∃ x, w.alloc (.cells #[.int .i64 0, .slice none 0 0] 24) = x := ⟨_, rfl⟩
  obtain ⟨wb, hwb⟩ : ∃ x, wa.alloc (.cells (madeCells #[.int .i64 0, .slice none 0 0] (n * 2)) 35) = x := ⟨_, rfl⟩
  obtain ⟨wc, hwc⟩ : ∃ x, wb.alloc (.cells #[.int .i64 (sz : Int), .slice (some ⟨wa.heap.size, 0, none⟩) n n] 24) = x := ⟨_, rfl⟩
  obtain ⟨hS, l1, l2, l3⟩ := BtI.start n (nW sz) sz (fun i j => (L.getD i .nul).xs.getD j 0) hwa hwb hwc
  have HS := hide hS
  have HSl := hide h
  have HU := hide hu
  clear hS h hu
  go_enter Tryd.func39, Tryd.ntmps39
  go_wp2_with fail
  clear hwa hwb hwc hm
  go_loopw [15, 6, 7] (fun i _ _ wr => ∃ k : Nat, k ≤ n ∧ i = .int .i64 k ∧ BtI w wr w.heap.size wa.heap.size wb.heap.size n (nW sz) sz (fun i j => (L.getD i .nul).xs.getD j 0) k) (fun i _ _ _ => n - (intOf i).toNat)
  case atStart => exact ⟨0, Nat.zero_le _, rfl, unhide HS⟩
  case round =>
    obtain ⟨k, hk, rfl, hst⟩ := hrel
    by_cases hlt : k < n
    · have hlt' : (k : Int) < (n : Int) := by omega
      have hS := (unhide HSl).below hst.bel
      obtain ⟨b, off, rfl, hcells⟩ := hS.at (by omega)
      have g1 := (hcells k hlt).1
      have g2 := (hcells k hlt).2
      have hin := hS.get k hlt
      have hu := unhide HU k hlt
      have HStep := hide (fun (W1 : World) (b c : Nat) (hb : Below wr.heap.size wr W1) (hb1 : wr.heap.size ≤ b) (hb2 : b < W1.heap.size) (hf : FnW W1 b 0 (nW sz) (fun j => (L.getD k .nul).xs.getD j 0)) (hc1 : nW sz ≤ c) (hc2 : c ≤ maxLen) => hst.step (by omega) (by omega) hlt hb hb1 hb2 hf hc1 hc2)
      generalize L.getD k .nul = e at *
      obtain ⟨es, ea, en, ec, exs⟩ := e
      simp only at g1 g2 hu
      obtain ⟨rfl, rfl⟩ := hu
      obtain ⟨ws, hws⟩ : ∃ y, wr.alloc (.cells #[.int .i64 (sz : Int), .slice ea (nW sz) ec] 35) = y := ⟨_, rfl⟩
      have hbs : Below wr.heap.size wr ws := by rw [← hws]; exact (Below.refl wr.heap.size wr).alloc (Nat.le_refl _) _
      have tS : Two ws wr.heap.size (.int .i64 (sz : Int)) (.slice ea (nW sz) ec) := by rw [← hws]; exact Two.made _ _ _ _
      have s0 := tS.c0
      have s1 := tS.c1
      have hI1 := hst.below hbs
      have z1 := hI1.tz.c1
      have hwl : wr.heap.size < ws.heap.size := by rw [← hws]; simp
      have HC := hide (fun (w' : World) (hb : Below ws.heap.size ws w') => clone_any sz ea (nW sz) ec exs w' ((hin.1.below hbs).below hb) hsz rfl)
      unfold setV at HC
      have HI := hide (And.intro hI1 (And.intro tS hbs))
      clear hst hI1 tS hbs hin hcells hS
      go_wp2_with fail
      go_region_with (
        go_at_call 69
        refine (unhide HC _ (by first | exact Below.refl _ _ | exact (Below.refl _ _).drew)).mono ?_
        rintro _ w1 ⟨v, rfl, b, c, rfl, hc1, hc2, hb1, hb2, hfn, hbel⟩
        unfold setV
        have hbel1 : Below ws.heap.size ws w1 := (Below.refl _ _).drew.trans hbel
        have hI1 := (unhide HI).1.below hbel1
        have y1 := hI1.tz.c1
        obtain ⟨bs, cs, ht⟩ := hI1.tb
        have t0 := (ht.rest k (Nat.le_refl _) hlt).1
        have t1 := (ht.rest k (Nat.le_refl _) hlt).2
        have q0 := ht.froz (k * 2) (by omega)
        have q1 := ht.froz (k * 2 + 1) (by omega)
        have hb1' : ws.heap.size ≤ b := hb1
        have HS2 := hide (unhide HStep w1 b c ((unhide HI).2.2.trans (hbel1.mono (by omega))) (by omega) hb2 hfn hc1 hc2)
        clear ht hI1 hbel hfn)
      all_goals
        go_wp2_with fail
        exact ⟨⟨k + 1, by omega, by go_num, unhide HS2⟩, by simp [intOf]; omega⟩
    · have hlt' : ¬ (k : Int) < (n : Int) := by omega
      have hkn : k = n := by omega
      subst hkn
      have z0 := hst.tz.c0
      have z1 := hst.tz.c1
      have r0 := hst.tr.c0
      have r1 := hst.tr.c1
      have f0 := hst.tr.f0
      have f1 := hst.tr.f1
      have T3 := hst.tr.set (.int .i64 sz) (.slice (some ⟨wa.heap.size, 0, none⟩) k k)
      have p0 := T3.c0
      have p1 := T3.c1
      have HD := hide hst.done
      clear hst T3
      go_wp2_with fail
      refine bodyPost_ret (by simp [results, Tryd.results39, go_sem, p0, p1]; try rfl) rfl ?_
      exact ⟨_, rfl, unhide HD⟩
end Go.Proofs.YtbendkndnojihabDoor
