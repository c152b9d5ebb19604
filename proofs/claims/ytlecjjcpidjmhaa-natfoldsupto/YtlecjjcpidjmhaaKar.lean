/-
  natural.multiplyPieces: its contract.
-/
import Derived.Test.YtlecjjcpidjmhaaNMul
namespace Go.Proofs.Ytlecjjcpidjmhaa
open Go.RowKit Go.Deep
set_option linter.unusedVariables false

/-- multiplyInto, of factors that are together not longer than N. -/
def MI (N : Nat) : Prop := ∀ (w : World) (bz oz nz cz : Nat) (a1 : Option Addr) (n1 c1 : Nat) (xs : List Nat) (a2 : Option Addr) (n2 c2 : Nat) (ys : List Nat), n1 + n2 ≤ N → MulPre w bz oz nz cz a1 n1 c1 xs a2 n2 c2 ys →
  Calls Try.prog 74 #[.slice (some ⟨bz, oz, none⟩) nz cz, .slice a1 n1 c1, .slice a2 n2 c2] w fun e w' => MulPost w bz oz nz (val xs * val ys) e w'

theorem Fn.below {w w' : World} {b off n : Nat} {f : Nat → Nat} (h : Fn w b off n f) (k : Below w.heap.size w w') : Fn w' b off n f := by
  intro i hi
  have := h i hi
  have hlt := World.block_lt_of_cell? _ _ this.1
  exact ⟨(k.cell hlt).trans this.1, (k.frozen hlt).trans this.2⟩

theorem Fn.part {w : World} {b off n : Nat} {f : Nat → Nat} (h : Fn w b off n f) (k m : Nat) (hm : k + m ≤ n) : Fn w b (off + k) m (fun i => f (k + i)) := by
  intro i hi
  have := h (k + i) (by omega)
  rw [← Nat.add_assoc] at this
  exact this

/-- Two parts side by side. -/
theorem Fn.join {w : World} {b off k m : Nat} {f g : Nat → Nat} (h1 : Fn w b off k f) (h2 : Fn w b (off + k) m g) : Fn w b off (k + m) (fun i => if i < k then f i else g (i - k)) := by
  intro i hi
  by_cases e : i < k
  · simp only [e, if_true]; exact h1 i e
  · simp only [e, if_false]
    have := h2 (i - k) (by omega)
    rw [show off + k + (i - k) = off + i from by omega] at this
    exact this

theorem valF_join (f g : Nat → Nat) (k m : Nat) : valF (fun i => if i < k then f i else g (i - k)) (k + m) = valF f k + 4294967296 ^ k * valF g m := by
  rw [valF_add, valF_congr (g := f) (fun i hi => by simp [hi]), valF_congr (f := fun j => if k + j < k then f (k + j) else g (k + j - k)) (g := g) (fun i hi => by rw [if_neg (by omega), Nat.add_sub_cancel_left])]

theorem rep_len_le {v j : Nat} {zs : List Nat} (h : Rep v zs) (hv : v < 4294967296 ^ j) : zs.length ≤ j := by
  rcases Nat.lt_or_ge j zs.length with hlt | hge
  · exfalso
    have h1 := val_ge_of_norm h.norm (by intro e; subst e; simp at hlt)
    rw [h.val] at h1
    have h2 : 4294967296 ^ j ≤ 4294967296 ^ (zs.length - 1) := pow_mono (by omega)
    omega
  · exact hge

theorem carry_zero {x y P c : Nat} (h : x + P * c = y) (hy : y < P) : c = 0 ∧ x = y := by
  rcases Nat.eq_zero_or_pos c with h0 | h0
  · subst h0; simp at h; exact ⟨rfl, h⟩
  · exfalso
    have : P * 1 ≤ P * c := Nat.mul_le_mul_left _ h0
    omega

/-- What a round of multiplyPieces leaves. -/
structure PieceR (wr w : World) (bz oz nz : Nat) (xs ys : List Nat) (k : Nat) (f : Nat → Nat) : Prop where
  fn : Fn wr bz oz nz f
  ok : ∀ i, i < nz → f i < 4294967296
  vl : valF f nz = val (xs.take k) * val ys
  upd : Upd bz oz (oz + nz) w wr

theorem take_lt {xs : List Nat} (ox : Ok xs) (t : Nat) (h : t ≤ xs.length) : val (xs.take t) < 4294967296 ^ t := by
  have := val_lt (ox.take t)
  rwa [List.length_take, Nat.min_eq_left h] at this

theorem take_split (xs : List Nat) (k p : Nat) (h : k + p ≤ xs.length) : val (xs.take (k + p)) = val (xs.take k) + 4294967296 ^ k * val ((xs.drop k).take p) := by
  rw [List.take_add, val_append, List.length_take, Nat.min_eq_left (by omega)]

theorem PieceR.step {wr w w5 w6 : World} {bz oz nz n1 n2 : Nat} {xs ys : List Nat} {k p k' c : Nat} {f f' : Nat → Nat} (h : PieceR wr w bz oz nz xs ys k f) (hl1 : xs.length = n1) (hl2 : ys.length = n2) (hnz : n1 + n2 = nz) (ox : Ok xs) (oy : Ok ys) (hp : k + p ≤ n1)
    (hk' : xs.take k' = xs.take (k + p)) (bz5 : bz < wr.heap.size) (b5 : Below wr.heap.size wr w5) (hF : Fn w6 bz (oz + k) (nz - k) f') (hok : ∀ i, i < nz - k → f' i < 4294967296)
    (hval : valF f' (nz - k) + 4294967296 ^ (nz - k) * c = valF (fun i => f (k + i)) (nz - k) + val ((xs.drop k).take p) * val ys) (hupd : Upd bz (oz + k) (oz + k + (nz - k)) w5 w6) :
    ∃ g, PieceR w6 w bz oz nz xs ys k' g := by
  have hkn : k + (nz - k) = nz := by omega
  have u1 : Upd bz oz (oz + nz) wr w5 := .of_below bz5 b5
  have u2 : Upd bz oz (oz + nz) w5 w6 := hupd.mono (by omega) (by omega)
  have fl : Fn w6 bz oz k f := by
    have := ((h.fn.below b5).part 0 k (by omega))
    simp only [Nat.zero_add, Nat.add_zero] at this
    exact hupd.fn this (.inr (.inl (by omega)))
  have hj := Fn.join fl hF
  rw [hkn] at hj
  refine ⟨_, hj, ?_, ?_, (h.upd.trans u1).trans u2⟩
  · intro i hi
    by_cases e : i < k
    · simp only [e, if_true]; exact h.ok i hi
    · simp only [e, if_false]; exact hok _ (by omega)
  · have e1 := valF_join f f' k (nz - k)
    rw [hkn] at e1
    rw [e1, hk', take_split xs k p (by omega)]
    have e2 := valF_add f k (nz - k)
    rw [hkn, h.vl] at e2
    have e3 : valF f k + 4294967296 ^ k * valF f' (nz - k) + 4294967296 ^ nz * c = (val (xs.take k) + 4294967296 ^ k * val ((xs.drop k).take p)) * val ys := by
      have e4 : 4294967296 ^ nz * c = 4294967296 ^ k * (4294967296 ^ (nz - k) * c) := by rw [← Nat.mul_assoc, ← Nat.pow_add, hkn]
      rw [e4, Nat.add_assoc, ← Nat.mul_add, hval, Nat.mul_add, ← Nat.add_assoc, ← e2, Nat.add_mul, Nat.mul_assoc]
    have hlt : (val (xs.take k) + 4294967296 ^ k * val ((xs.drop k).take p)) * val ys < 4294967296 ^ nz := by
      rw [← take_split xs k p (by omega)]
      have a1 := take_lt ox (k + p) (by omega)
      have a2 := val_lt oy
      have a3 : 4294967296 ^ (k + p) ≤ 4294967296 ^ n1 := pow_mono hp
      rw [← hnz, Nat.pow_add, ← hl2]
      exact Nat.mul_lt_mul_of_lt_of_le (by omega) (by omega) (pow_pos _)
    exact (carry_zero e3 hlt).2

end Go.Proofs.Ytlecjjcpidjmhaa
