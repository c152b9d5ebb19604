/-
  sloperef1.Shl, Shr at every argument.
-/
import Derived.Test.YtokgcpnnbajlkaaShr
namespace Go.Proofs.Ytokgcpnnbajlkaa
open Go.RowKit Go.Deep
set_option linter.unusedVariables false

set_option maxHeartbeats 1000000 in
theorem rshl_nil (a : Option Addr) (c : Nat) (w : World) (k l s : Nat) (hkl : (k:Int) / 32 = (l:Int)) (hks : (k:Int) % 32 = (s:Int)) (hs32 : s < 32) (hk0 : k ≤ 65536) (hl0 : l ≤ 2048)
    (K1 : Hid (Calls Try.prog 60 #[.slice a 0 c] w fun e w' => e = .returned (.bool true) ∧ w' = w)) :
    Calls Try.prog 41 #[.slice a 0 c, .int .i64 (k : Nat)] w fun e w' => Res2 w w' (fitL 0) e := by
  have hmk : ∀ w, (Instr.makeSlice 23 (.int .i64 ((l : Int) + 1)) (.int .i64 ((l : Int) + 1))).run Try.prog w = .ok (.slice (some ⟨w.heap.size, 0, none⟩) (l + 1) (l + 1)) (w.alloc (.cells (madeCells #[.int .u32 0] (l + 1)) 80)) := fun w => make_len1 l (by omega) w
  have hk00 : ¬ (k:Int) < 0 := by omega
  have hk01 : ¬ (65536:Int) < (k:Int) := by omega
  go_enter Try.func41, Try.ntmps41
  go_wp2_with fail
  refine (unhide K1).mono ?_
  rintro e w' ⟨rfl, hw⟩
  obtain rfl := hw.symm
  clear K1
  go_wp2_with fail
  go_loopw [7] (fun i wr => i = .int .i64 0 ∧ Fn wr w.heap.size 0 (l + 1) (fun _ => 0) ∧ Below w.heap.size w wr) (fun i _ => (intOf i).toNat)
  case atStart => exact ⟨rfl, Fn.made w (l + 1) _, (Below.refl _ _).alloc (Nat.le_refl _) _⟩
  case round =>
    obtain ⟨rfl, hf, hbel⟩ := hrel
    have KT := rfit_any _ (l + 1) (l + 1) _ wr (hf.sl (Nat.le_refl _) (by unfold maxLen; omega)) (lst_ok (fun _ _ => by decide)) (by omega)
    rw [lst_val, valF_zero] at KT
    have KT' := hide KT
    have HB := hide hbel
    clear hf KT hbel
    go_wp2_with fail
    refine (unhide KT').mono ?_
    rintro e w2 ⟨a2', m2, c2', rfl, hs2, ha2, hb2⟩
    have HX := hide (And.intro hs2 (And.intro ha2 hb2))
    clear hs2 ha2 hb2
    go_wp2
    go_ret2
    exact ⟨a2', m2, c2', rfl, (unhide HX).1, fun x hx => Nat.le_trans (unhide HB).size ((unhide HX).2.1 x hx), (unhide HB).trans ((unhide HX).2.2.mono (unhide HB).size)⟩

set_option maxHeartbeats 1000000 in
/-- sloperef1.Shl. -/
theorem rshl_any (a : Option Addr) (n c : Nat) (xs : List Nat) (w : World) (k : Int) (h : Sl w a n c xs) (ox : Ok xs) :
    Calls Try.prog 41 #[.slice a n c, .int .i64 k] w fun e w' => Res2 w w' (shlL xs k) e := by
  have K1 := rmay_any a n c xs w h
  by_cases m1 : MayL xs = true
  · rw [m1] at K1
    have K1' := hide K1
    by_cases hlo : k < 0
    · have HC := hide (show shlL xs k = ([], 1) from by unfold shlL; rw [m1]; simp; omega)
      clear K1 m1 h ox
      go_enter Try.func41, Try.ntmps41
      go_wp2_with fail
      refine (unhide K1').mono ?_
      rintro e w' ⟨rfl, hw⟩
      obtain rfl := hw.symm
      go_wp2
      go_ret2
      rw [unhide HC]
      exact ⟨none, 0, 0, rfl, sl_nil _, newAt_nil _, Below.refl _ _⟩
    · by_cases hhi : 65536 < k
      · have HC := hide (show shlL xs k = ([], 1) from by unfold shlL; rw [m1]; simp; omega)
        clear K1 m1 h ox
        go_enter Try.func41, Try.ntmps41
        go_wp2_with fail
        refine (unhide K1').mono ?_
        rintro e w' ⟨rfl, hw⟩
        obtain rfl := hw.symm
        go_wp2
        go_ret2
        rw [unhide HC]
        exact ⟨none, 0, 0, rfl, sl_nil _, newAt_nil _, Below.refl _ _⟩
      · obtain ⟨k, rfl⟩ := Int.eq_ofNat_of_zero_le (show 0 ≤ k by omega)
        have hn : n ≤ 2048 := by have := h.len; have := MayL.len m1; omega
        rw [show shlL xs k = fitL (val xs * 2 ^ k) from by unfold shlL; rw [m1]; simp; omega]
        by_cases h0 : xs = []
        · have hl := h.len
          subst h0
          simp at hl
          subst hl
          have := rshl_nil a c w k (k / 32) (k % 32) (by omega) (by omega) (by omega) (by omega) (by omega) K1'
          simpa [val] using this
        · have hp : 0 < xs.length := List.length_pos_iff.2 h0
          rcases h.cells with e | ⟨b, off, rfl, hc⟩
          · exact absurd e h0
          · exact rshl_some b off n c xs w k (k / 32) (k % 32) h.len hc ox (by omega) (by omega) (by omega) (by omega) (by omega) (by have := h.len; omega) hn K1'
  · have m1' : MayL xs = false := by simpa using m1
    rw [m1'] at K1
    have K1' := hide K1
    have HC := hide (show shlL xs k = ([], 20) from by unfold shlL; rw [m1']; simp)
    clear K1 m1 m1' h ox
    go_enter Try.func41, Try.ntmps41
    go_wp2_with fail
    refine (unhide K1').mono ?_
    rintro e w' ⟨rfl, hw⟩
    obtain rfl := hw.symm
    go_wp2
    go_ret2
    rw [unhide HC]
    exact ⟨none, 0, 0, rfl, sl_nil _, newAt_nil _, Below.refl _ _⟩

set_option maxHeartbeats 1000000 in
/-- sloperef1.Shr. -/
theorem rshr_any (a : Option Addr) (n c : Nat) (xs : List Nat) (w : World) (k : Int) (h : Sl w a n c xs) (ox : Ok xs) :
    Calls Try.prog 43 #[.slice a n c, .int .i64 k] w fun e w' => Res2 w w' (shrL xs k) e := by
  have K1 := rmay_any a n c xs w h
  by_cases m1 : MayL xs = true
  · rw [m1] at K1
    have K1' := hide K1
    by_cases hlo : k < 0
    · have HC := hide (show shrL xs k = ([], 1) from by unfold shrL; rw [m1]; simp; omega)
      clear K1 m1 h ox
      go_enter Try.func43, Try.ntmps43
      go_wp2_with fail
      refine (unhide K1').mono ?_
      rintro e w' ⟨rfl, hw⟩
      obtain rfl := hw.symm
      go_wp2
      go_ret2
      rw [unhide HC]
      exact ⟨none, 0, 0, rfl, sl_nil _, newAt_nil _, Below.refl _ _⟩
    · by_cases hhi : 65536 < k
      · have HC := hide (show shrL xs k = ([], 1) from by unfold shrL; rw [m1]; simp; omega)
        clear K1 m1 h ox
        go_enter Try.func43, Try.ntmps43
        go_wp2_with fail
        refine (unhide K1').mono ?_
        rintro e w' ⟨rfl, hw⟩
        obtain rfl := hw.symm
        go_wp2
        go_ret2
        rw [unhide HC]
        exact ⟨none, 0, 0, rfl, sl_nil _, newAt_nil _, Below.refl _ _⟩
      · obtain ⟨k, rfl⟩ := Int.eq_ofNat_of_zero_le (show 0 ≤ k by omega)
        have hn : n ≤ 2048 := by have := h.len; have := MayL.len m1; omega
        rw [show shrL xs k = (limbs (val xs / 2 ^ k), 0) from by unfold shrL; rw [m1]; simp; omega]
        exact rshr_core a n c xs w k (k / 32) (k % 32) h ox (by omega) (by omega) (by omega) (by omega) hn K1'
  · have m1' : MayL xs = false := by simpa using m1
    rw [m1'] at K1
    have K1' := hide K1
    have HC := hide (show shrL xs k = ([], 20) from by unfold shrL; rw [m1']; simp)
    clear K1 m1 m1' h ox
    go_enter Try.func43, Try.ntmps43
    go_wp2_with fail
    refine (unhide K1').mono ?_
    rintro e w' ⟨rfl, hw⟩
    obtain rfl := hw.symm
    go_wp2
    go_ret2
    rw [unhide HC]
    exact ⟨none, 0, 0, rfl, sl_nil _, newAt_nil _, Below.refl _ _⟩
end Go.Proofs.Ytokgcpnnbajlkaa
