/-
  sloperef1.Ones, Tail: contracts.
-/
import Derived.Test.YtokgcpnnbajlkaaDoorMy2
namespace Go.Proofs.YtokgcpnnbajlkaaDoor
open Go.RowKit Go.Deep
set_option linter.unusedVariables false

def sumB (v : Nat) : Nat → Nat
  | 0 => 0
  | m + 1 => sumB v m + bitN v m
theorem sumB_limb {xs : List Nat} (ox : Ok xs) (k : Nat) : ∀ (f : Nat), f ≤ 32 → sumB (val xs) (32 * k + f) = sumB (val xs) (32 * k) + Lib.popAux f (xs.getD k 0)
  | 0, _ => by simp [Lib.popAux]
  | f + 1, h => by
    rw [← Nat.add_assoc]
    simp only [sumB]
    rw [sumB_limb ox k f (by omega), popAux_add f 1, bit_limb ox (l := k) (s := f) (by omega) (by omega)]
    simp only [Lib.popAux]
    omega
theorem sumB_ones {xs : List Nat} (ox : Ok xs) : ∀ (k : Nat), sumB (val xs) (32 * k) = onesF (fun i => xs.getD i 0) k
  | 0 => rfl
  | k + 1 => by
    rw [show 32 * (k + 1) = 32 * k + 32 from by omega, sumB_limb ox k 32 (Nat.le_refl _), sumB_ones ox k]
    rfl
theorem sumB_le (v : Nat) : ∀ (m : Nat), sumB v m ≤ m
  | 0 => Nat.le_refl _
  | m + 1 => by
    have := sumB_le v m
    have := bitN_lt v m
    simp only [sumB]
    omega
theorem bits_none : ∀ (m v : Nat), v < 2 ^ m → (∀ j, j < m → bitN v j = 0) → v = 0
  | 0, v, h, _ => by simp at h; exact h
  | m + 1, v, h, hb => bits_none m v (bit_zero h (hb m (by omega))) (fun j hj => hb j (by omega))

set_option maxHeartbeats 2000000 in
/-- sloperef1.Ones. -/
theorem rones_any (a : Option Addr) (n c : Nat) (xs : List Nat) (w : World) (h : Sl w a n c xs) (ox : Ok xs) (m : MayL xs = true) :
    Calls Tryd.prog 12 #[.slice a n c] w fun e w' => e = .returned (.int .i64 (onesN xs : Nat)) ∧ w' = w := by
  have KM := rmay_any a n c xs w h
  rw [m] at KM
  have KM' := hide KM
  have hn : n ≤ 2048 := by have := h.len; have := MayL.len m; omega
  have KB := hide (fun i hi => rbit_any a n c xs w i h ox m hi)
  have HE := hide (show sumB (val xs) (32 * n) = onesN xs from by rw [sumB_ones ox]; unfold onesN; rw [h.len])
  clear KM h m
  go_enter Tryd.func12, Tryd.ntmps12
  go_wp2_with fail
  refine (unhide KM').mono ?_
  rintro e w' ⟨rfl, hw⟩
  obtain rfl := hw.symm
  clear hw
  go_wp2_with fail
  go_loop [3, 4] (fun kv iv => ∃ i : Nat, i ≤ 32 * n ∧ iv = .int .i64 (i : Nat) ∧ kv = .int .i64 (sumB (val xs) i : Nat)) (fun _ iv => 32 * n - (intOf iv).toNat)
  case atStart => exact ⟨0, Nat.zero_le _, rfl, rfl⟩
  case round =>
    obtain ⟨i, hi, rfl, rfl⟩ := hrel
    have hs := sumB_le (val xs) i
    by_cases hlt : i < 32 * n
    · have hlt' : (i:Int) < 32 * (n:Int) := by omega
      have KI := hide (unhide KB i (by omega))
      have hb := bitN_lt (val xs) i
      have HS := hide (show sumB (val xs) i + bitN (val xs) i = sumB (val xs) (i + 1) from rfl)
      generalize bitN (val xs) i = z at *
      generalize sumB (val xs) i = y at *
      go_wp2_with fail
      refine (unhide KI).mono ?_
      rintro e w' ⟨rfl, hw⟩
      obtain rfl := hw.symm
      clear hw
      go_wp2_with fail
      have hs2 := unhide HS
      exact ⟨⟨i + 1, by omega, by go_num, by rw [← hs2]; go_num⟩, by simp [intOf]; omega⟩
    · have hin : i = 32 * n := by omega
      have hlt' : ¬ (i:Int) < 32 * (n:Int) := by omega
      have HS := hide (show sumB (val xs) i = onesN xs from by rw [hin]; exact unhide HE)
      generalize sumB (val xs) i = y at *
      clear hin
      go_wp2
      go_ret
      exact ⟨by rw [unhide HS]; rfl, rfl⟩

set_option maxHeartbeats 2000000 in
/-- sloperef1.Tail. -/
theorem rtail_any (a : Option Addr) (n c : Nat) (xs : List Nat) (w : World) (h : Sl w a n c xs) (ox : Ok xs) (m : MayL xs = true) :
    Calls Tryd.prog 14 #[.slice a n c] w fun e w' => TailPost w xs e w' := by
  have KM := rmay_any a n c xs w h
  rw [m] at KM
  have KM' := hide KM
  have hn : n ≤ 2048 := by have := h.len; have := MayL.len m; omega
  have KB := hide (fun i hi => rbit_any a n c xs w i h ox m hi)
  have HV := hide (show val xs < 2 ^ (32 * n) from by
    have := val_lt ox
    rwa [h.len, pow_limb] at this)
  clear KM h m
  go_enter Tryd.func14, Tryd.ntmps14
  go_wp2_with fail
  refine (unhide KM').mono ?_
  rintro e w' ⟨rfl, hw⟩
  obtain rfl := hw.symm
  clear hw
  go_wp2_with fail
  go_loop [3] (fun iv => ∃ i : Nat, i ≤ 32 * n ∧ iv = .int .i64 (i : Nat) ∧ Hid (∀ j, j < i → bitN (val xs) j = 0)) (fun iv => 32 * n - (intOf iv).toNat)
  case atStart => exact ⟨0, Nat.zero_le _, rfl, fun j hj => by omega⟩
  case round =>
    obtain ⟨i, hi, rfl, HZ⟩ := hrel
    by_cases hlt : i < 32 * n
    · have hlt' : (i:Int) < 32 * (n:Int) := by omega
      have KI := unhide KB i (by omega)
      have hb := bitN_lt (val xs) i
      by_cases h1 : bitN (val xs) i = 1
      · have HR := hide (show IsTail (val xs) i from .inr ⟨h1, unhide HZ⟩)
        rw [h1] at KI
        have KI' := hide KI
        clear KI h1 hb HZ
        go_wp2_with fail
        refine (unhide KI').mono ?_
        rintro e w' ⟨rfl, hw⟩
        obtain rfl := hw.symm
        clear hw
        go_wp2
        go_ret
        exact ⟨i, by omega, unhide HR, rfl, 0, rfl⟩
      · have h0 : bitN (val xs) i = 0 := by omega
        have HZ2 := hide (show ∀ j, j < i + 1 → bitN (val xs) j = 0 from fun j hj => by
          by_cases e : j = i
          · rw [e]; exact h0
          · exact unhide HZ j (by omega))
        rw [h0] at KI
        have KI' := hide KI
        clear KI h1 h0 hb HZ
        go_wp2_with fail
        refine (unhide KI').mono ?_
        rintro e w' ⟨rfl, hw⟩
        obtain rfl := hw.symm
        clear hw
        go_wp2_with fail
        exact ⟨⟨i + 1, by omega, by go_num, unhide HZ2⟩, by simp [intOf]; omega⟩
    · have hin : i = 32 * n := by omega
      have hlt' : ¬ (i:Int) < 32 * (n:Int) := by omega
      have HR := hide (show IsTail (val xs) 0 from .inl ⟨bits_none _ _ (unhide HV) (by rw [← hin]; exact unhide HZ), rfl⟩)
      clear HZ hin
      go_wp2
      go_ret
      exact ⟨0, by omega, unhide HR, rfl, 0, rfl⟩

theorem rones_all (a : Option Addr) (n c : Nat) (xs : List Nat) (w : World) (h : Sl w a n c xs) (ox : Ok xs) :
    Calls Tryd.prog 12 #[.slice a n c] w fun e w' => e = .returned (.int .i64 (onesI xs : Nat)) ∧ w' = w := by
  unfold onesI
  cases m : MayL xs
  · exact rones_no a n c xs w h m
  · exact rones_any a n c xs w h ox m

/-- What Tail of a list is. -/
def TailI (xs : List Nat) (t : Nat) : Prop := (MayL xs = false ∧ t = 0) ∨ (MayL xs = true ∧ IsTail (val xs) t)
theorem TailI.unique {xs : List Nat} {t s : Nat} (h : TailI xs t) (k : TailI xs s) : t = s := by
  rcases h with ⟨h0, h1⟩ | ⟨h0, h1⟩
  · rcases k with ⟨_, k1⟩ | ⟨k0, _⟩
    · omega
    · rw [h0] at k0; cases k0
  · rcases k with ⟨k0, _⟩ | ⟨_, k1⟩
    · rw [h0] at k0; cases k0
    · exact h1.unique k1
def TailAll (w : World) (xs : List Nat) (e : Ending) (w' : World) : Prop := ∃ t : Nat, t ≤ 65536 ∧ TailI xs t ∧ e = .returned (.int .i64 (t : Nat)) ∧ ∃ k, w' = w.drewN k
theorem ntail_all (a : Option Addr) (n c : Nat) (xs : List Nat) (w : World) (h : Sl w a n c xs) (ox : Ok xs) (hT : Tab32 w) :
    Calls Tryd.prog 13 #[.slice a n c] w fun e w' => TailAll w xs e w' := by
  cases m : MayL xs
  · exact (ntail_no a n c xs w h m).mono fun _ _ ⟨he, hw⟩ => ⟨0, by omega, .inl ⟨m, rfl⟩, he, 0, hw⟩
  · exact (ntail_any a n c xs w h ox m hT).mono fun _ _ ⟨t, h1, h2, h3, h4⟩ => ⟨t, h1, .inr ⟨m, h2⟩, h3, h4⟩
theorem rtail_all (a : Option Addr) (n c : Nat) (xs : List Nat) (w : World) (h : Sl w a n c xs) (ox : Ok xs) :
    Calls Tryd.prog 14 #[.slice a n c] w fun e w' => TailAll w xs e w' := by
  cases m : MayL xs
  · exact (rtail_no a n c xs w h m).mono fun _ _ ⟨he, hw⟩ => ⟨0, by omega, .inl ⟨m, rfl⟩, he, 0, hw⟩
  · exact (rtail_any a n c xs w h ox m).mono fun _ _ ⟨t, h1, h2, h3, h4⟩ => ⟨t, h1, .inr ⟨m, h2⟩, h3, h4⟩
end Go.Proofs.YtokgcpnnbajlkaaDoor
