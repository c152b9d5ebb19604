/-
  bitset's reader: ended, skip: contracts.
-/
import Derived.Test.YtbendkndnojihaaBt3
import Derived.Test.YtbendkndnojihaaBq0
namespace Go.Proofs.Ytbendkndnojihaa
open Go.RowKit Go.Deep
set_option linter.unusedVariables false

def bySt (s : ByteArray) (i : Nat) : Nat := (s.get! i).toNat
theorem bySt_lt (s : ByteArray) (i : Nat) : bySt s i < 256 := by
  unfold bySt
  have := (s.get! i).toNat_lt
  omega

set_option maxHeartbeats 2000000 in
theorem ended_any (R : Nat) (s : ByteArray) (p : Nat) (w : World) (h : Two w R (.string s) (.int .i64 (p : Int))) (hN : s.size ≤ 65536) (hp : p ≤ s.size) :
    Calls Try.prog 77 #[.pointer (some ⟨R, 0, none⟩)] w fun r w' => r = .returned (.bool (decide (p = s.size))) ∧ Below w.heap.size w w' := by
  have c0 := h.c0
  have c1 := h.c1
  have F0 := fun x : Ext w => x.cell c0
  have F1 := fun x : Ext w => x.cell c1
  have hNE := Ext.ne w
  have e0 : ((p : Int) == (s.size : Int)) = decide (p = s.size) := by
    by_cases e : p = s.size
    · simp [e]
    · simp [e]; omega
  have e1 : ∀ b, decide (p = s.size) = b → ((p : Int) == (s.size : Int)) = b := fun b hb => e0.trans hb
  generalize decide (p = s.size) = bv at *
  have e2 := e1 bv rfl
  clear h c0 c1 e0 e1
  go_enter Try.func77, Try.ntmps77
  go_wp2_with fail
  refine wp_region_ext (by kernel_rfl) (by kernel_rfl) ?_
  repeat (go_big_quiet_step (fail))
  refine wpQuiet_nil ?_
  rintro _ ⟨x, rfl⟩
  clear F0 F1
  go_wp2_with fail
  go_ret
  exact ⟨rfl, x.bel⟩

theorem bySt_get (s : ByteArray) (p : Nat) (h : p < s.size) : (s[p]'h).toNat = bySt s p := by
  unfold bySt
  cases s with
  | mk d =>
    have h2 : p < d.size := h
    show (d[p]'h2).toNat = (d[p]!).toNat
    simp [h2]
/-- Behind skip. -/
def skB (s : ByteArray) (p c : Nat) : Bool := decide (p < s.size) && (bySt s p == c)
def skP (s : ByteArray) (p c : Nat) : Nat := if skB s p c then p + 1 else p
theorem Two.put1 {w : World} {R : Nat} {v0 v1 : Value} (h : Two w R v0 v1) (u : Value) : Two (w.setCell ⟨R, 1, none⟩ u) R v0 u :=
  ⟨by rw [World.cell?_setCell_other _ _ _ _ (by simp)]; exact h.c0, World.cell?_setCell_same _ _ _ h.c1, by rw [World.frozen?_setCell]; exact h.f0, by rw [World.frozen?_setCell]; exact h.f1⟩

set_option maxHeartbeats 4000000 in
theorem skip_any (R : Nat) (s : ByteArray) (p c : Nat) (w : World) (h : Two w R (.string s) (.int .i64 (p : Int))) (hN : s.size ≤ 65536) (hp : p ≤ s.size) (hc : c < 256) :
    Calls Try.prog 76 #[.pointer (some ⟨R, 0, none⟩), .int .u8 (c : Int)] w fun r w' => r = .returned (.bool (skB s p c)) ∧ Two w' R (.string s) (.int .i64 ((skP s p c : Nat) : Int)) ∧ Chg (fun j => j = R) w w' := by
  have HT := hide h
  have c0 := h.c0
  have c1 := h.c1
  have K := fun x : Ext w => ended_any R s p x.w (h.keep x.bel) hN hp
  have F0 := fun x : Ext w => x.cell c0
  have F1 := fun x : Ext w => x.cell c1
  have hNE := Ext.ne w
  clear h
  by_cases e : p = s.size
  · have e2 : decide (p = s.size) = true := by simp [e]
    have hb : skB s p c = false := by simp [skB, e]
    rw [e2] at K
    have HK := hide K
    rw [show skP s p c = p from by unfold skP; rw [hb]; rfl, hb]
    clear e2 hb K c0 c1
    go_enter Try.func76, Try.ntmps76
    go_wp2_with fail
    refine wp_region_ext (by kernel_rfl) (by kernel_rfl) ?_
    repeat (go_big_quiet_step (first | (go_at_call 77; rename_i x; exact Ext.call (unhide HK x) (fun e w' h => h))))
    refine wpQuiet_nil ?_
    rintro _ ⟨x, rfl⟩
    clear F0 F1
    go_wp2_with fail
    go_ret
    exact ⟨rfl, (unhide HT).keep x.bel, Chg.of_below x.bel⟩
  · have e2 : decide (p = s.size) = false := by simp [e]
    have hlt : p < s.size := by omega
    have hlt' : (p : Int) < (s.size : Int) := by omega
    have hp0 : (0 : Int) ≤ (p : Int) := by omega
    have hbb : skB s p c = (bySt s p == c) := by simp [skB, hlt]
    rw [e2] at K
    have HK := hide K
    unfold skP
    rw [hbb]
    have hby := bySt_lt s p
    have hsp := bySt_get s p hlt
    by_cases hc2 : bySt s p = c
    · have q1 : (bySt s p == c) = true := by simp [hc2]
      rw [q1]
      simp only [if_true]
      have q2 : (((s[p]'hlt).toNat : Int) != (c : Int)) = false := by rw [hsp, hc2]; simp
      have HT2 := hide (fun x : Ext w => (unhide HT).keep x.bel)
      clear e2 K hbb q1 c0 c1 e hsp hc2 hby
      go_enter Try.func76, Try.ntmps76
      go_wp2_with fail
      refine wp_region_ext (by kernel_rfl) (by kernel_rfl) ?_
      repeat (go_big_quiet_step (first | (go_at_call 77; rename_i x; exact Ext.call (unhide HK x) (fun e w' h => h))))
      refine wpQuiet_nil ?_
      rintro _ ⟨x, rfl⟩
      have t2 := unhide HT2 x
      have k1 := t2.c1
      have k2 := t2.f1
      have HE := hide (And.intro (t2.put1 (.int .i64 ((p : Int) + 1))) ((Chg.of_below x.bel).trans (Chg.of_set (S := fun j => j = R) x.w R 1 (.int .i64 ((p : Int) + 1)) rfl)))
      clear F0 F1 t2
      go_wp2_with fail
      try go_region
      all_goals
        try go_wp2_with fail
        go_ret
        first
          | exact ⟨rfl, (unhide HE).1, (unhide HE).2⟩
          | exact ⟨rfl, (unhide HE).1.keep (Below.refl _ _).drew, (unhide HE).2.drew⟩
    · have q1 : (bySt s p == c) = false := by simp [hc2]
      rw [q1]
      have q2 : (((s[p]'hlt).toNat : Int) != (c : Int)) = true := by rw [hsp]; simp; omega
      clear e2 K hbb q1 c0 c1 e hsp hc2 hby
      go_enter Try.func76, Try.ntmps76
      go_wp2_with fail
      refine wp_region_ext (by kernel_rfl) (by kernel_rfl) ?_
      repeat (go_big_quiet_step (first | (go_at_call 77; rename_i x; exact Ext.call (unhide HK x) (fun e w' h => h))))
      refine wpQuiet_nil ?_
      rintro _ ⟨x, rfl⟩
      clear F0 F1
      go_wp2_with fail
      go_ret
      exact ⟨rfl, (unhide HT).keep x.bel, Chg.of_below x.bel⟩
end Go.Proofs.Ytbendkndnojihaa
