/-
  natural.multiplyRows: its contract.
-/
import Derived.Test.YtokgcpnnbajlkaaDoorSub
namespace Go.Proofs.YtokgcpnnbajlkaaDoor
open Go.RowKit Go.Deep
set_option linter.unusedVariables false

theorem valF_add (f : Nat → Nat) (i : Nat) : ∀ (m : Nat), valF f (i + m) = valF f i + 4294967296 ^ i * valF (fun k => f (i + k)) m
  | 0 => by simp [valF]
  | m + 1 => by
    rw [← Nat.add_assoc]
    simp only [valF]
    rw [valF_add f i m, Nat.pow_add, Nat.mul_add, Nat.mul_assoc]
    omega

/-- The two limbs of x * y + r + c. -/
def mdl (x y r c : Nat) : Nat := (x * y + r + c) % 4294967296
def mdh (x y r c : Nat) : Nat := (x * y + r + c) / 4294967296
theorem mdl_lt (x y r c : Nat) : mdl x y r c < 4294967296 := by unfold mdl; exact Nat.mod_lt _ (by decide)
theorem md_eq (x y r c : Nat) : mdl x y r c + 4294967296 * mdh x y r c = x * y + r + c := by unfold mdl mdh; exact Nat.mod_add_div _ _
theorem mul_bound {x y : Nat} (hx : x < 4294967296) (hy : y < 4294967296) : x * y ≤ 18446744065119617025 := by
  have : x * y ≤ 4294967295 * 4294967295 := Nat.mul_le_mul (by omega) (by omega)
  omega
theorem mdh_lt {x y r c : Nat} (hx : x < 4294967296) (hy : y < 4294967296) (hr : r < 4294967296) (hc : c < 4294967296) : mdh x y r c < 4294967296 := by
  have := mul_bound hx hy
  unfold mdh
  generalize x * y = p at *
  omega
theorem mdl_int (x y r c : Nat) : ((x : Int) * y + r + c) % 4294967296 = ((mdl x y r c : Nat) : Int) := by
  unfold mdl
  rw [← Int.natCast_mul]
  generalize x * y = p
  omega
theorem mdh_int (x y r c : Nat) : ((x : Int) * y + r + c) / 4294967296 = ((mdh x y r c : Nat) : Int) := by
  unfold mdh
  rw [← Int.natCast_mul]
  generalize x * y = p
  omega

/-- What a round of the inner loop of multiplyRows leaves: g is f but for the limbs i .. i + j - 1. -/
structure RowR (wr w : World) (bz oz nz : Nat) (f : Nat → Nat) (i y : Nat) (xs : List Nat) (j c : Nat) (g : Nat → Nat) : Prop where
  cle : c < 4294967296
  fn : Fn wr bz oz nz g
  ok : ∀ k, k < nz → g k < 4294967296
  lo : ∀ k, k < i → g k = f k
  hi : ∀ k, i + j ≤ k → k < nz → g k = f k
  val : valF (fun k => g (i + k)) j + 4294967296 ^ j * c = valF (fun k => f (i + k)) j + valF (fun k => xs.getD k 0) j * y
  upd : Upd bz oz (oz + nz) w wr

theorem row_arith {P A F X c l h x y r : Nat} (h1 : A + P * c = F + X * y) (e : l + 4294967296 * h = x * y + r + c) : A + P * l + P * 4294967296 * h = F + P * r + (X + P * x) * y := by
  have h2 : P * l + P * 4294967296 * h = P * (x * y) + P * r + P * c := by
    rw [Nat.mul_assoc, ← Nat.mul_add, e, Nat.mul_add, Nat.mul_add]
  rw [Nat.add_mul, Nat.mul_assoc P x y]
  generalize P * l = a1 at *
  generalize P * 4294967296 * h = a2 at *
  generalize P * (x * y) = a3 at *
  generalize P * r = a4 at *
  generalize P * c = a5 at *
  generalize X * y = a6 at *
  omega

theorem RowR.step {wr w : World} {bz oz nz : Nat} {f : Nat → Nat} {i y : Nat} {xs : List Nat} {j c : Nat} {g : Nat → Nat} (h : RowR wr w bz oz nz f i y xs j c g) (hj : i + j < nz) (hx : xs.getD j 0 < 4294967296) (hy : y < 4294967296) :
    RowR (wr.setCell ⟨bz, oz + i + j, none⟩ (.int .u32 (mdl (xs.getD j 0) y (g (i + j)) c : Nat))) w bz oz nz f i y xs (j + 1) (mdh (xs.getD j 0) y (g (i + j)) c) (fun k => if k = i + j then mdl (xs.getD j 0) y (g (i + j)) c else g k) := by
  have ew : oz + i + j = oz + (i + j) := by omega
  rw [ew]
  refine ⟨mdh_lt hx hy (h.ok _ hj) h.cle, h.fn.set (i + j) _ hj, ?_, ?_, ?_, ?_, h.upd.set _ _ (by omega) (by omega)⟩
  · intro k hk
    by_cases e : k = i + j
    · simp only [e, if_true]; exact mdl_lt _ _ _ _
    · simp only [e, if_false]; exact h.ok k hk
  · intro k hk
    have : k ≠ i + j := by omega
    simp only [this, if_false]; exact h.lo k hk
  · intro k h1 h2
    have : k ≠ i + j := by omega
    simp only [this, if_false]; exact h.hi k (by omega) h2
  · simp only [valF]
    rw [valF_congr (g := fun k => g (i + k)) (fun k hk => by rw [if_neg (by omega)]), if_pos trivial, Nat.pow_succ]
    have e := md_eq (xs.getD j 0) y (g (i + j)) c
    have := row_arith h.val e
    rw [h.hi (i + j) (Nat.le_refl _) hj] at this ⊢
    exact this

theorem RowR.drewN {wr w : World} {bz oz nz : Nat} {f : Nat → Nat} {i y : Nat} {xs : List Nat} {j c : Nat} {g : Nat → Nat} (h : RowR wr w bz oz nz f i y xs j c g) (k : Nat) : RowR (wr.drewN k) w bz oz nz f i y xs j c g := ⟨h.cle, h.fn, h.ok, h.lo, h.hi, h.val, h.upd.drewN k⟩

/-- What a round of the outer loop leaves. -/
structure RowsR (wr w : World) (bz oz nz : Nat) (xs ys : List Nat) (i : Nat) (f : Nat → Nat) : Prop where
  fn : Fn wr bz oz nz f
  ok : ∀ k, k < nz → f k < 4294967296
  zero : ∀ k, i + xs.length ≤ k → k < nz → f k = 0
  val : valF f (i + xs.length) = Go.Proofs.YtokgcpnnbajlkaaDoor.val xs * valF (fun k => ys.getD k 0) i
  upd : Upd bz oz (oz + nz) w wr

theorem RowsR.step {wr w w1 : World} {bz oz nz : Nat} {xs ys : List Nat} {i c : Nat} {f g : Nat → Nat} (h : RowsR wr w bz oz nz xs ys i f) (hr : RowR w1 w bz oz nz f i (ys.getD i 0) xs xs.length c g) (hi : i + xs.length < nz) :
    RowsR (w1.setCell ⟨bz, oz + i + xs.length, none⟩ (.int .u32 (c : Nat))) w bz oz nz xs ys (i + 1) (fun k => if k = i + xs.length then c else g k) := by
  have ew : oz + i + xs.length = oz + (i + xs.length) := by omega
  rw [ew]
  refine ⟨hr.fn.set _ _ hi, ?_, ?_, ?_, hr.upd.set _ _ (by omega) (by omega)⟩
  · intro k hk
    by_cases e : k = i + xs.length
    · simp only [e, if_true]; exact hr.cle
    · simp only [e, if_false]; exact hr.ok k hk
  · intro k h1 h2
    have : k ≠ i + xs.length := by omega
    simp only [this, if_false]
    rw [hr.hi k (by omega) h2]; exact h.zero k (by omega) h2
  · have e1 : i + 1 + xs.length = i + (xs.length + 1) := by omega
    rw [e1, valF_add]
    simp only [valF]
    rw [if_pos trivial]
    rw [valF_congr (f := fun k => if k = i + xs.length then c else g k) (g := f) (fun k hk => by rw [if_neg (by omega)]; exact hr.lo k hk)]
    rw [valF_congr (f := fun k => if i + k = i + xs.length then c else g (i + k)) (g := fun k => g (i + k)) (fun k hk => by rw [if_neg (by omega)])]
    rw [hr.val, valF_list]
    have hv := h.val
    rw [valF_add] at hv
    rw [Nat.mul_add, Nat.mul_add, ← Nat.add_assoc, hv]
    have : 4294967296 ^ i * (Go.Proofs.YtokgcpnnbajlkaaDoor.val xs * ys.getD i 0) = Go.Proofs.YtokgcpnnbajlkaaDoor.val xs * (4294967296 ^ i * ys.getD i 0) := by rw [Nat.mul_left_comm]
    rw [this]

theorem RowsR.drewN {wr w : World} {bz oz nz : Nat} {xs ys : List Nat} {i : Nat} {f : Nat → Nat} (h : RowsR wr w bz oz nz xs ys i f) (k : Nat) : RowsR (wr.drewN k) w bz oz nz xs ys i f := ⟨h.fn, h.ok, h.zero, h.val, h.upd.drewN k⟩

theorem RowsR.begin {wr w : World} {bz oz nz : Nat} {xs ys : List Nat} {i : Nat} {f : Nat → Nat} (h : RowsR wr w bz oz nz xs ys i f) (y : Nat) : RowR wr w bz oz nz f i y xs 0 0 f :=
  ⟨by decide, h.fn, h.ok, fun _ _ => rfl, fun _ _ _ => rfl, by simp [valF], h.upd⟩

theorem rows_step {wr w w1 : World} {bz oz nz n1 : Nat} {xs ys : List Nat} {i c : Nat} {f g : Nat → Nat} (hl : xs.length = n1) (h : RowsR wr w bz oz nz xs ys i f) (hr : RowR w1 w bz oz nz f i (ys.getD i 0) xs n1 c g) (hi : i + n1 < nz) :
    RowsR (w1.setCell ⟨bz, oz + i + n1, none⟩ (.int .u32 (c : Nat))) w bz oz nz xs ys (i + 1) (fun k => if k = i + n1 then c else g k) := by
  subst hl
  exact h.step hr hi

end Go.Proofs.YtokgcpnnbajlkaaDoor
