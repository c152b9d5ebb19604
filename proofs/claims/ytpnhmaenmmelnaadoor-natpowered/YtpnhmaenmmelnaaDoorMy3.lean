/-
  sloperef1.Ones, Tail: contracts.
-/
import Derived.Test.YtpnhmaenmmelnaaDoorMy2
namespace Go.Proofs.YtpnhmaenmmelnaaDoor
open Go.RowKit Go.Deep
set_option linter.unusedVariables false

def sumB (v : Nat) : Nat → Nat
  | 0 => 0
  | m + 1 => sumB v m + bitN v m
theorem sumB_limb {xs : List Nat} (ox : Ok xs) (k : Nat) : ∀ (f : Nat), f ≤ 32 → sumB (val xs) (32 * k + f) = sumB (val xs) (32 * k) + Lib.popAux f (xs.getD k 0)
  | 0, _ => by simp [Lib.popAux]
  | f + 1, h => by
    rw [← Nat.add_assoc]
    simp only [sumB]
    rw [sumB_limb ox k f (by omega), popAux_add f 1, bit_limb ox (l := k) (s := f) (by omega) (by omega)]
    simp only [Lib.popAux]
    omega
theorem sumB_ones {xs : List Nat} (ox : Ok xs) : ∀ (k : Nat), sumB (val xs) (32 * k) = onesF (fun i => xs.getD i 0) k
  | 0 => rfl
  | k + 1 => by
    rw [show 32 * (k + 1) = 32 * k + 32 from by omega, sumB_limb ox k 32 (Nat.le_refl _), sumB_ones ox k]
    rfl
theorem sumB_le (v : Nat) : ∀ (m : Nat), sumB v m ≤ m
  | 0 => Nat.le_refl _
  | m + 1 => by
    have := sumB_le v m
    have := bitN_lt v m
    simp only [sumB]
    omega
theorem bits_none : ∀ (m v : Nat), v < 2 ^ m → (∀ j, j < m → bitN v j = 0) → v = 0
  | 0, v, h, _ => by simp at h; exact h
  | m + 1, v, h, hb => bits_none m v (bit_zero h (hb m (by omega))) (fun j hj => hb j (by omega))

/-- What Tail of a list is. -/
def TailI (xs : List Nat) (t : Nat) : Prop := (MayL xs = false ∧ t = 0) ∨ (MayL xs = true ∧ IsTail (val xs) t)
theorem TailI.unique {xs : List Nat} {t s : Nat} (h : TailI xs t) (k : TailI xs s) : t = s := by
  rcases h with ⟨h0, h1⟩ | ⟨h0, h1⟩
  · rcases k with ⟨_, k1⟩ | ⟨k0, _⟩
    · omega
    · rw [h0] at k0; cases k0
  · rcases k with ⟨k0, _⟩ | ⟨_, k1⟩
    · rw [h0] at k0; cases k0
    · exact h1.unique k1
def TailAll (w : World) (xs : List Nat) (e : Ending) (w' : World) : Prop := ∃ t : Nat, t ≤ 65536 ∧ TailI xs t ∧ e = .returned (.int .i64 (t : Nat)) ∧ ∃ k, w' = w.drewN k
theorem ntail_all (a : Option Addr) (n c : Nat) (xs : List Nat) (w : World) (h : Sl w a n c xs) (ox : Ok xs) (hT : Tab32 w) :
    Calls Tryd.prog 25 #[.slice a n c] w fun e w' => TailAll w xs e w' := by
  cases m : MayL xs
  · exact (ntail_no a n c xs w h m).mono fun _ _ ⟨he, hw⟩ => ⟨0, by omega, .inl ⟨m, rfl⟩, he, 0, hw⟩
  · exact (ntail_any a n c xs w h ox m hT).mono fun _ _ ⟨t, h1, h2, h3, h4⟩ => ⟨t, h1, .inr ⟨m, h2⟩, h3, h4⟩
end Go.Proofs.YtpnhmaenmmelnaaDoor
