/-
  bitset.Has: contract.
-/
import Derived.Test.YtbendkndnojihabDoorBz2
import Derived.Test.YtbendkndnojihabDoorBza
import Derived.Test.YtbendkndnojihabDoorByf
namespace Go.Proofs.YtbendkndnojihabDoor
open Go.RowKit Go.Deep
set_option linter.unusedVariables false

theorem tb_and (x j : Nat) : x.testBit j = !(((x &&& 2 ^ j : Nat) : Int) == 0) := by
  have h1 : (x &&& 2 ^ j).testBit j = x.testBit j := by rw [Nat.testBit_and, Nat.testBit_two_pow]; simp
  cases hv : x.testBit j
  · have : x &&& 2 ^ j = 0 := by
      apply Nat.eq_of_testBit_eq
      intro k
      rw [Nat.testBit_and, Nat.testBit_two_pow]
      by_cases e : j = k
      · subst e; simp [hv]
      · simp [e]
    rw [this]; rfl
  · rw [hv] at h1
    have := ne0_of_tb h1
    have h2 : ¬ (x &&& 2 ^ j) = 0 := by omega
    simp [h2]

set_option maxHeartbeats 8000000 in
set_option maxRecDepth 100000 in
/-- bitset.Has. -/
theorem has_any (s : Int) (a : Option Addr) (n c : Nat) (xs : List Nat) (e : Int) (w : World) (h : SlW w a n c xs) (o : OkW xs) (hl : -9223372036854775808 ≤ e) (hh : e ≤ 9223372036854775807) :
    Calls Tryd.prog 52 #[setV s a n c, .int .i64 e] w fun r w' => r = .returned (.bool (hasR s xs e)) ∧ Below w.heap.size w w' := by
  obtain ⟨wa, hwa⟩ : ∃ x, w.alloc (.cells #[.int .i64 s, .slice a n c] 35) = x := ⟨_, rfl⟩
  have hba : Below w.heap.size w wa := by rw [← hwa]; exact (Below.refl _ _).alloc (Nat.le_refl _) _
  have tA : Two wa w.heap.size (.int .i64 s) (.slice a n c) := by rw [← hwa]; exact Two.made _ _ _ _
  have K := may_any s a n c xs wa (h.below hba) o
  have a0 := tA.c0
  have a1 := tA.c1
  have hle := h.le
  have hcap := h.cap
  unfold maxLen at hcap
  have HA := hide (And.intro tA (And.intro (h.below hba) hba))
  have HO := hide o
  have HL := hide h.len
  clear tA hba h o
  unfold setV at K ⊢
  cases m : MayS s xs
  · rw [m] at K
    have e0 : hasR s xs e = false := by simp [hasR, m]
    rw [e0]
    clear e0 K
    have KM := fun x : Ext wa => may_any s a n c xs x.w ((unhide HA).2.1.below x.bel) (unhide HO)
    rw [m] at KM
    unfold setV at KM
    have HKM := hide KM
    have hNE := Ext.ne wa
    have F0 := fun x : Ext wa => x.cell a0
    have F1 := fun x : Ext wa => x.cell a1
    clear KM m
    go_enter Tryd.func52, Tryd.ntmps52
    go_wp2_with fail
    refine wp_region_ext (by kernel_rfl) (by kernel_rfl) ?_
    repeat (go_big_quiet_step (first | (go_at_call 50; rename_i x; exact Ext.call (unhide HKM x) (fun e w' h => h))))
    refine wpQuiet_nil ?_
    rintro _ ⟨x1, rfl⟩
    have HB := hide ((unhide HA).2.2.trans (x1.bel.mono (unhide HA).2.2.size))
    go_wp2_with fail
    go_ret
    exact ⟨rfl, unhide HB⟩
  · rw [m] at K
    have HK := hide K
    clear K
    obtain ⟨sz, rfl, hsz⟩ := fitsI_nat (MayS.fits m)
    have HM := hide m
    have hnn : n = nW sz := by have := MayS.len m; rw [unhide HL] at this; simpa using this
    have HN := hide hnn
    have hn64 : n ≤ 64 := by rw [hnn]; unfold nW; omega
    have hsn : sz ≤ 64 * n := by rw [hnn]; unfold nW; omega
    have HZ := hide (show ∀ x, sz ≤ x → x < 64 * n → hasB (gW xs) x = false from fun x h1 h2 => MayS.zero m x (by simpa using h1) (by rw [unhide HL]; exact h2))
    clear hnn
    by_cases h0 : 0 ≤ e
    · by_cases h1 : e < (sz : Int)
      · obtain ⟨k, rfl⟩ : ∃ k : Nat, e = (k : Int) := ⟨e.toNat, by omega⟩
        obtain ⟨q, hq⟩ : ∃ q, k / 64 = q := ⟨_, rfl⟩
        have hqi : (k : Int) / 64 = (q : Int) := by omega
        have hqw : IntKind.i64.wrap (q : Int) = (q : Int) := by rw [wrap_i64]; omega
        have hqn : q < n := by omega
        have hqn' : (q : Int) < (n : Int) := by omega
        have hq0 : (0 : Int) ≤ (q : Int) := by omega
        have hr : k % 64 < 64 := Nat.mod_lt _ (by decide)
        have hx := gW_ok (unhide HO) q
        have e0 : hasR (sz : Int) xs (k : Int) = (gW xs q).testBit (k % 64) := by
          simp only [hasR, m, Bool.true_and]
          rw [decide_eq_true (show (0 : Int) ≤ (k : Int) by omega), decide_eq_true h1]
          simp only [Bool.true_and]
          show hasB (gW xs) ((k : Int).toNat) = _
          rw [Int.toNat_natCast, hasB, hq]
        rw [e0]
        have KB := bit_any k
        have hm := pow_lt64 hr
        have ha := u64_and_nat (gW xs q) (2 ^ (k % 64)) hx hm
        have HT := hide (show (gW xs q).testBit (k % 64) = !(((gW xs q &&& 2 ^ (k % 64) : Nat) : Int) == 0) from tb_and _ _)
        generalize (gW xs q).testBit (k % 64) = tb at *
        generalize 2 ^ (k % 64) = mm at *
        obtain ⟨b, off, rfl, hcell⟩ := (unhide HA).2.1.at (by omega)
        have g : wa.cell? ⟨b, off + q, none⟩ = some (vU (gW xs q)) := hcell q hqn
        unfold vU at g
        generalize gW xs q = x0 at *
        have hk1 : k < 1000000 := by omega
        have HKB := hide (fun x : Ext wa => (KB x.w hk1).mono (fun e w' (h : _ ∧ _) => (⟨h.1, by rw [h.2]; exact Below.refl _ _⟩ : _ ∧ Below x.w.heap.size x.w w')))
        generalize x0 &&& mm = y at *
        have FG := fun x : Ext wa => x.cell g
        clear KB e0 hq hcell
        have KM := fun x : Ext wa => may_any sz (some ⟨b, off, none⟩) n c xs x.w ((unhide HA).2.1.below x.bel) (unhide HO)
        rw [unhide HM] at KM
        unfold setV at KM
        have HKM := hide KM
        have hNE := Ext.ne wa
        have F0 := fun x : Ext wa => x.cell a0
        have F1 := fun x : Ext wa => x.cell a1
        clear KM m
        go_enter Tryd.func52, Tryd.ntmps52
        go_wp2_with fail
        refine wp_region_ext (by kernel_rfl) (by kernel_rfl) ?_
        repeat (go_big_quiet_step (first | (go_at_call 50; rename_i x; exact Ext.call (unhide HKM x) (fun e w' h => h)) | (go_at_call 40; rename_i x; exact Ext.call (unhide HKB x) (fun e w' h => h))))
        refine wpQuiet_nil ?_
        rintro _ ⟨x1, rfl⟩
        have HB := hide ((unhide HA).2.2.trans (x1.bel.mono (unhide HA).2.2.size))
        go_wp2_with fail
        go_ret
        rw [unhide HT]
        exact ⟨rfl, unhide HB⟩
      · have e0 : hasR (sz : Int) xs e = false := by simp [hasR, h1]
        rw [e0]
        have hd : decide (e < (sz : Int)) = false := by simp [h1]
        clear e0
        have KM := fun x : Ext wa => may_any sz a n c xs x.w ((unhide HA).2.1.below x.bel) (unhide HO)
        rw [unhide HM] at KM
        unfold setV at KM
        have HKM := hide KM
        have hNE := Ext.ne wa
        have F0 := fun x : Ext wa => x.cell a0
        have F1 := fun x : Ext wa => x.cell a1
        clear KM m
        go_enter Tryd.func52, Tryd.ntmps52
        go_wp2_with fail
        refine wp_region_ext (by kernel_rfl) (by kernel_rfl) ?_
        repeat (go_big_quiet_step (first | (go_at_call 50; rename_i x; exact Ext.call (unhide HKM x) (fun e w' h => h))))
        refine wpQuiet_nil ?_
        rintro _ ⟨x1, rfl⟩
        have HB := hide ((unhide HA).2.2.trans (x1.bel.mono (unhide HA).2.2.size))
        go_wp2_with fail
        go_ret
        exact ⟨rfl, unhide HB⟩
    · have e0 : hasR (sz : Int) xs e = false := by simp [hasR, h0]
      rw [e0]
      have hd : decide (0 ≤ e) = false := by simp [h0]
      clear e0
      have KM := fun x : Ext wa => may_any sz a n c xs x.w ((unhide HA).2.1.below x.bel) (unhide HO)
      rw [unhide HM] at KM
      unfold setV at KM
      have HKM := hide KM
      have hNE := Ext.ne wa
      have F0 := fun x : Ext wa => x.cell a0
      have F1 := fun x : Ext wa => x.cell a1
      clear KM m
      go_enter Tryd.func52, Tryd.ntmps52
      go_wp2_with fail
      refine wp_region_ext (by kernel_rfl) (by kernel_rfl) ?_
      repeat (go_big_quiet_step (first | (go_at_call 50; rename_i x; exact Ext.call (unhide HKM x) (fun e w' h => h))))
      refine wpQuiet_nil ?_
      rintro _ ⟨x1, rfl⟩
      have HB := hide ((unhide HA).2.2.trans (x1.bel.mono (unhide HA).2.2.size))
      go_wp2_with fail
      go_ret
      exact ⟨rfl, unhide HB⟩
end Go.Proofs.YtbendkndnojihabDoor
