/-
  bitset.copyTable: its contract.
-/
import Derived.Test.YtbendkndnojihabDoorBt4
import Derived.Test.YtbendkndnojihabDoorBz2
import Derived.Test.YtbendkndnojihabDoorBza
import Derived.Test.YtbendkndnojihabDoorBv1
namespace Go.Proofs.YtbendkndnojihabDoor
open Go.RowKit Go.Deep
set_option linter.unusedVariables false

set_option maxHeartbeats 4000000 in
/-- bitset.copyTable, of sets of one universe. -/
theorem copyTable_any (sz : Nat) (a : Option Addr) (n c : Nat) (L : List SetC) (w : World) (h : SlS w a n c L) (hsz : sz ≤ 4096) (hn : n ≤ 4096) (hu : ∀ i, i < n → (L.getD i .nul).s = (sz : Int) ∧ (L.getD i .nul).n = nW sz) :
    Calls Tryd.prog 39 #[.int .i64 (sz : Int), .slice a n c] w fun r w' => ∃ v, r = .returned v ∧ NewT w w' sz n (fun i j => (L.getD i .nul).xs.getD j 0) v := by
  have hm := make_sets n (by omega)
  have hle := h.le
  have hcap := h.cap
  unfold maxLen at hcap
  obtain ⟨wa, hwa⟩ : ∃ x, w.alloc (.cells #[.int .i64 0, .slice none 0 0] 24) = x := ⟨_, rfl⟩
  obtain ⟨wb, hwb⟩ : ∃ x, wa.alloc (.cells (madeCells #[.int .i64 0, .slice none 0 0] (n * 2)) 35) = x := ⟨_, rfl⟩
  obtain ⟨wc, hwc⟩ : ∃ x, wb.alloc (.cells #[.int .i64 (sz : Int), .slice (some ⟨wa.heap.size, 0, none⟩) n n] 24) = x := ⟨_, rfl⟩
  obtain ⟨hS, l1, l2, l3⟩ := BtI.start n (nW sz) sz (fun i j => (L.getD i .nul).xs.getD j 0) hwa hwb hwc
  have HS := hide hS
  have HSl := hide h
  have HU := hide hu
  clear hS h hu
  go_enter Tryd.func39, Tryd.ntmps39
  go_wp2_with fail
  clear hwa hwb hwc hm
  go_loopw [15, 6, 7] (fun i _ _ wr => ∃ k : Nat, k ≤ n ∧ i = .int .i64 k ∧ BtI w wr w.heap.size wa.heap.size wb.heap.size n (nW sz) sz (fun i j => (L.getD i .nul).xs.getD j 0) k) (fun i _ _ _ => n - (intOf i).toNat)
  case atStart => exact ⟨0, Nat.zero_le _, rfl, unhide HS⟩
  case round =>
    obtain ⟨k, hk, rfl, hst⟩ := hrel
    by_cases hlt : k < n
    · have hlt' : (k : Int) < (n : Int) := by omega
      have hS := (unhide HSl).below hst.bel
      obtain ⟨b, off, rfl, hcells⟩ := hS.at (by omega)
      have g1 := (hcells k hlt).1
      have g2 := (hcells k hlt).2
      have hin := hS.get k hlt
      have hu := unhide HU k hlt
      have HStep := hide (fun (W1 : World) (b c : Nat) (hb : Below wr.heap.size wr W1) (hb1 : wr.heap.size ≤ b) (hb2 : b < W1.heap.size) (hf : FnW W1 b 0 (nW sz) (fun j => (L.getD k .nul).xs.getD j 0)) (hc1 : nW sz ≤ c) (hc2 : c ≤ maxLen) => hst.step (by omega) (by omega) hlt hb hb1 hb2 hf hc1 hc2)
      generalize L.getD k .nul = e at *
      obtain ⟨es, ea, en, ec, exs⟩ := e
      simp only at g1 g2 hu
      obtain ⟨rfl, rfl⟩ := hu
      obtain ⟨ws, hws⟩ : ∃ y, wr.alloc (.cells #[.int .i64 (sz : Int), .slice ea (nW sz) ec] 35) = y := ⟨_, rfl⟩
      have hbs : Below wr.heap.size wr ws := by rw [← hws]; exact (Below.refl wr.heap.size wr).alloc (Nat.le_refl _) _
      have tS : Two ws wr.heap.size (.int .i64 (sz : Int)) (.slice ea (nW sz) ec) := by rw [← hws]; exact Two.made _ _ _ _
      have s0 := tS.c0
      have s1 := tS.c1
      have hI1 := hst.below hbs
      have z1 := hI1.tz.c1
      have hwl : wr.heap.size < ws.heap.size := by rw [← hws]; simp
      have HC := hide (fun (w' : World) (hb : Below ws.heap.size ws w') => clone_any sz ea (nW sz) ec exs w' ((hin.1.below hbs).below hb) hsz rfl)
      unfold setV at HC
      have HI := hide (And.intro hI1 (And.intro tS hbs))
      clear hst hI1 tS hbs hin hcells hS
      go_wp2_with fail
      go_region_with (
        go_at_call 69
        refine (unhide HC _ (by first | exact Below.refl _ _ | exact (Below.refl _ _).drew)).mono ?_
        rintro _ w1 ⟨v, rfl, b, c, rfl, hc1, hc2, hb1, hb2, hfn, hbel⟩
        unfold setV
        have hbel1 : Below ws.heap.size ws w1 := (Below.refl _ _).drew.trans hbel
        have hI1 := (unhide HI).1.below hbel1
        have y1 := hI1.tz.c1
        obtain ⟨bs, cs, ht⟩ := hI1.tb
        have t0 := (ht.rest k (Nat.le_refl _) hlt).1
        have t1 := (ht.rest k (Nat.le_refl _) hlt).2
        have q0 := ht.froz (k * 2) (by omega)
        have q1 := ht.froz (k * 2 + 1) (by omega)
        have hb1' : ws.heap.size ≤ b := hb1
        have HS2 := hide (unhide HStep w1 b c ((unhide HI).2.2.trans (hbel1.mono (by omega))) (by omega) hb2 hfn hc1 hc2)
        clear ht hI1 hbel hfn)
      all_goals
        go_wp2_with fail
        exact ⟨⟨k + 1, by omega, by go_num, unhide HS2⟩, by simp [intOf]; omega⟩
    · have hlt' : ¬ (k : Int) < (n : Int) := by omega
      have hkn : k = n := by omega
      subst hkn
      have z0 := hst.tz.c0
      have z1 := hst.tz.c1
      have r0 := hst.tr.c0
      have r1 := hst.tr.c1
      have f0 := hst.tr.f0
      have f1 := hst.tr.f1
      have T3 := hst.tr.set (.int .i64 sz) (.slice (some ⟨wa.heap.size, 0, none⟩) k k)
      have p0 := T3.c0
      have p1 := T3.c1
      have HD := hide hst.done
      clear hst T3
      go_wp2_with fail
      refine bodyPost_ret (by simp [results, Tryd.results39, go_sem, p0, p1]; try rfl) rfl ?_
      exact ⟨_, rfl, unhide HD⟩
end Go.Proofs.YtbendkndnojihabDoor

namespace Go.Proofs.YtbendkndnojihabDoor
open Go.RowKit Go.Deep
set_option linter.unusedVariables false

theorem tb_and (x j : Nat) : x.testBit j = !(((x &&& 2 ^ j : Nat) : Int) == 0) := by
  have h1 : (x &&& 2 ^ j).testBit j = x.testBit j := by rw [Nat.testBit_and, Nat.testBit_two_pow]; simp
  cases hv : x.testBit j
  · have : x &&& 2 ^ j = 0 := by
      apply Nat.eq_of_testBit_eq
      intro k
      rw [Nat.testBit_and, Nat.testBit_two_pow]
      by_cases e : j = k
      · subst e; simp [hv]
      · simp [e]
    rw [this]; rfl
  · rw [hv] at h1
    have := ne0_of_tb h1
    have h2 : ¬ (x &&& 2 ^ j) = 0 := by omega
    simp [h2]

set_option maxHeartbeats 8000000 in
set_option maxRecDepth 100000 in
/-- bitset.Has. -/
theorem has_any (s : Int) (a : Option Addr) (n c : Nat) (xs : List Nat) (e : Int) (w : World) (h : SlW w a n c xs) (o : OkW xs) (hl : -9223372036854775808 ≤ e) (hh : e ≤ 9223372036854775807) :
    Calls Tryd.prog 52 #[setV s a n c, .int .i64 e] w fun r w' => r = .returned (.bool (hasR s xs e)) ∧ Below w.heap.size w w' := by
  obtain ⟨wa, hwa⟩ : ∃ x, w.alloc (.cells #[.int .i64 s, .slice a n c] 35) = x := ⟨_, rfl⟩
  have hba : Below w.heap.size w wa := by rw [← hwa]; exact (Below.refl _ _).alloc (Nat.le_refl _) _
  have tA : Two wa w.heap.size (.int .i64 s) (.slice a n c) := by rw [← hwa]; exact Two.made _ _ _ _
  have K := may_any s a n c xs wa (h.below hba) o
  have a0 := tA.c0
  have a1 := tA.c1
  have hle := h.le
  have hcap := h.cap
  unfold maxLen at hcap
  have HA := hide (And.intro tA (And.intro (h.below hba) hba))
  have HO := hide o
  have HL := hide h.len
  clear tA hba h o
  unfold setV at K ⊢
  cases m : MayS s xs
  · rw [m] at K
    have e0 : hasR s xs e = false := by simp [hasR, m]
    rw [e0]
    clear e0 K
    have KM := fun x : Ext wa => may_any s a n c xs x.w ((unhide HA).2.1.below x.bel) (unhide HO)
    rw [m] at KM
    unfold setV at KM
    have HKM := hide KM
    have hNE := Ext.ne wa
    have F0 := fun x : Ext wa => x.cell a0
    have F1 := fun x : Ext wa => x.cell a1
    clear KM m
    go_enter Tryd.func52, Tryd.ntmps52
    go_wp2_with fail
    refine wp_region_ext (by kernel_rfl) (by kernel_rfl) ?_
    repeat (go_big_quiet_step (first | (go_at_call 50; rename_i x; exact Ext.call (unhide HKM x) (fun e w' h => h))))
    refine wpQuiet_nil ?_
    rintro _ ⟨x1, rfl⟩
    have HB := hide ((unhide HA).2.2.trans (x1.bel.mono (unhide HA).2.2.size))
    go_wp2_with fail
    go_ret
    exact ⟨rfl, unhide HB⟩
  · rw [m] at K
    have HK := hide K
    clear K
    obtain ⟨sz, rfl, hsz⟩ := fitsI_nat (MayS.fits m)
    have HM := hide m
    have hnn : n = nW sz := by have := MayS.len m; rw [unhide HL] at this; simpa using this
    have HN := hide hnn
    have hn64 : n ≤ 64 := by rw [hnn]; unfold nW; omega
    have hsn : sz ≤ 64 * n := by rw [hnn]; unfold nW; omega
    have HZ := hide (show ∀ x, sz ≤ x → x < 64 * n → hasB (gW xs) x = false from fun x h1 h2 => MayS.zero m x (by simpa using h1) (by rw [unhide HL]; exact h2))
    clear hnn
    by_cases h0 : 0 ≤ e
    · by_cases h1 : e < (sz : Int)
      · obtain ⟨k, rfl⟩ : ∃ k : Nat, e = (k : Int) := ⟨e.toNat, by omega⟩
        obtain ⟨q, hq⟩ : ∃ q, k / 64 = q := ⟨_, rfl⟩
        have hqi : (k : Int) / 64 = (q : Int) := by omega
        have hqw : IntKind.i64.wrap (q : Int) = (q : Int) := by rw [wrap_i64]; omega
        have hqn : q < n := by omega
        have hqn' : (q : Int) < (n : Int) := by omega
        have hq0 : (0 : Int) ≤ (q : Int) := by omega
        have hr : k % 64 < 64 := Nat.mod_lt _ (by decide)
        have hx := gW_ok (unhide HO) q
        have e0 : hasR (sz : Int) xs (k : Int) = (gW xs q).testBit (k % 64) := by
          simp only [hasR, m, Bool.true_and]
          rw [decide_eq_true (show (0 : Int) ≤ (k : Int) by omega), decide_eq_true h1]
          simp only [Bool.true_and]
          show hasB (gW xs) ((k : Int).toNat) = _
          rw [Int.toNat_natCast, hasB, hq]
        rw [e0]
        have KB := bit_any k
        have hm := pow_lt64 hr
        have ha := u64_and_nat (gW xs q) (2 ^ (k % 64)) hx hm
        have HT := hide (show (gW xs q).testBit (k % 64) = !(((gW xs q &&& 2 ^ (k % 64) : Nat) : Int) == 0) from tb_and _ _)
        generalize (gW xs q).testBit (k % 64) = tb at *
        generalize 2 ^ (k % 64) = mm at *
        obtain ⟨b, off, rfl, hcell⟩ := (unhide HA).2.1.at (by omega)
        have g : wa.cell? ⟨b, off + q, none⟩ = some (vU (gW xs q)) := hcell q hqn
        unfold vU at g
        generalize gW xs q = x0 at *
        have hk1 : k < 1000000 := by omega
        have HKB := hide (fun x : Ext wa => (KB x.w hk1).mono (fun e w' (h : _ ∧ _) => (⟨h.1, by rw [h.2]; exact Below.refl _ _⟩ : _ ∧ Below x.w.heap.size x.w w')))
        generalize x0 &&& mm = y at *
        have FG := fun x : Ext wa => x.cell g
        clear KB e0 hq hcell
        have KM := fun x : Ext wa => may_any sz (some ⟨b, off, none⟩) n c xs x.w ((unhide HA).2.1.below x.bel) (unhide HO)
        rw [unhide HM] at KM
        unfold setV at KM
        have HKM := hide KM
        have hNE := Ext.ne wa
        have F0 := fun x : Ext wa => x.cell a0
        have F1 := fun x : Ext wa => x.cell a1
        clear KM m
        go_enter Tryd.func52, Tryd.ntmps52
        go_wp2_with fail
        refine wp_region_ext (by kernel_rfl) (by kernel_rfl) ?_
        repeat (go_big_quiet_step (first | (go_at_call 50; rename_i x; exact Ext.call (unhide HKM x) (fun e w' h => h)) | (go_at_call 40; rename_i x; exact Ext.call (unhide HKB x) (fun e w' h => h))))
        refine wpQuiet_nil ?_
        rintro _ ⟨x1, rfl⟩
        have HB := hide ((unhide HA).2.2.trans (x1.bel.mono (unhide HA).2.2.size))
        go_wp2_with fail
        go_ret
        rw [unhide HT]
        exact ⟨rfl, unhide HB⟩
      · have e0 : hasR (sz : Int) xs e = false := by simp [hasR, h1]
        rw [e0]
        have hd : decide (e < (sz : Int)) = false := by simp [h1]
        clear e0
        have KM := fun x : Ext wa => may_any sz a n c xs x.w ((unhide HA).2.1.below x.bel) (unhide HO)
        rw [unhide HM] at KM
        unfold setV at KM
        have HKM := hide KM
        have hNE := Ext.ne wa
        have F0 := fun x : Ext wa => x.cell a0
        have F1 := fun x : Ext wa => x.cell a1
        clear KM m
        go_enter Tryd.func52, Tryd.ntmps52
        go_wp2_with fail
        refine wp_region_ext (by kernel_rfl) (by kernel_rfl) ?_
        repeat (go_big_quiet_step (first | (go_at_call 50; rename_i x; exact Ext.call (unhide HKM x) (fun e w' h => h))))
        refine wpQuiet_nil ?_
        rintro _ ⟨x1, rfl⟩
        have HB := hide ((unhide HA).2.2.trans (x1.bel.mono (unhide HA).2.2.size))
        go_wp2_with fail
        go_ret
        exact ⟨rfl, unhide HB⟩
    · have e0 : hasR (sz : Int) xs e = false := by simp [hasR, h0]
      rw [e0]
      have hd : decide (0 ≤ e) = false := by simp [h0]
      clear e0
      have KM := fun x : Ext wa => may_any sz a n c xs x.w ((unhide HA).2.1.below x.bel) (unhide HO)
      rw [unhide HM] at KM
      unfold setV at KM
      have HKM := hide KM
      have hNE := Ext.ne wa
      have F0 := fun x : Ext wa => x.cell a0
      have F1 := fun x : Ext wa => x.cell a1
      clear KM m
      go_enter Tryd.func52, Tryd.ntmps52
      go_wp2_with fail
      refine wp_region_ext (by kernel_rfl) (by kernel_rfl) ?_
      repeat (go_big_quiet_step (first | (go_at_call 50; rename_i x; exact Ext.call (unhide HKM x) (fun e w' h => h))))
      refine wpQuiet_nil ?_
      rintro _ ⟨x1, rfl⟩
      have HB := hide ((unhide HA).2.2.trans (x1.bel.mono (unhide HA).2.2.size))
      go_wp2_with fail
      go_ret
      exact ⟨rfl, unhide HB⟩
end Go.Proofs.YtbendkndnojihabDoor
