/-
  sloperef1.Bytes: contract.
-/
import Derived.Test.YtlecjjcpidjmhaaBy1
import Derived.Test.YtlecjjcpidjmhaaRAdd
namespace Go.Proofs.Ytlecjjcpidjmhaa
open Go.RowKit Go.Deep
set_option linter.unusedVariables false

theorem byte_high {xs : List Nat} (ox : Ok xs) {i : Nat} (h : bytesN xs ≤ i) : byteN (val xs) i = 0 := by
  unfold byteN
  rw [Nat.div_eq_of_lt, Nat.zero_mod]
  refine Nat.lt_of_lt_of_le (val_lt_bits ox) ?_
  rw [show (256:Nat) = 2 ^ 8 from rfl, ← Nat.pow_mul]
  refine Nat.pow_le_pow_right (by decide) ?_
  unfold bytesN at h
  omega
theorem byte_top {xs : List Nat} (ox : Ok xs) (nx : Norm xs) (h : 0 < bytesN xs) : byteN (val xs) (bytesN xs - 1) ≠ 0 := by
  have hx : xs ≠ [] := by intro e; rw [e] at h; simp [bytesN, bitsN] at h
  have hh := val_ge_bits ox nx hx
  have e : bitsN xs = bitsL xs := by unfold bitsN; rw [if_neg hx]
  unfold byteN
  have h1 : 256 ^ (bytesN xs - 1) ≤ val xs := by
    rw [show (256:Nat) = 2 ^ 8 from rfl, ← Nat.pow_mul]
    refine Nat.le_trans (Nat.pow_le_pow_right (by decide) ?_) hh.2
    unfold bytesN at h ⊢
    omega
  have h2 : val xs < 256 ^ (bytesN xs - 1) * 256 := by
    rw [← Nat.pow_succ, show (256:Nat) = 2 ^ 8 from rfl, ← Nat.pow_mul]
    refine Nat.lt_of_lt_of_le (val_lt_bits ox) (Nat.pow_le_pow_right (by decide) ?_)
    unfold bytesN at h ⊢
    omega
  have hp : 0 < 256 ^ (bytesN xs - 1) := Nat.pow_pos (by decide)
  have h3 : 1 ≤ val xs / 256 ^ (bytesN xs - 1) := (Nat.le_div_iff_mul_le hp).2 (by omega)
  have h4 : val xs / 256 ^ (bytesN xs - 1) < 256 := (Nat.div_lt_iff_lt_mul hp).2 (by rw [Nat.mul_comm]; exact h2)
  rw [Nat.mod_eq_of_lt h4]
  omega

def valsB (xs : List Nat) : List Value := xs.map (fun x => .int .u8 (x : Nat))
/-- The bytes that sloperef1.Bytes has behind k bytes to go. -/
def outB (xs : List Nat) (k : Nat) : List Nat := lst (fun p => byteN (val xs) (bytesN xs - 1 - p)) (bytesN xs - k)

structure ByR (wr w : World) (xs : List Nat) (v : Value) (k : Nat) : Prop where
  own : wr.ownsRow w.heap.size 5 1 v (bytesN xs - k) (valsB (outB xs k))
  bel : Below w.heap.size w wr

theorem ByR.step {wr w w1 : World} {xs : List Nat} {v v' : Value} {k : Nat} {o : Obj} (h : ByR wr w xs v (k + 1)) (hk : k < bytesN xs)
    (hown : w1.ownsRow w.heap.size 5 1 v' (bytesN xs - (k + 1) + 1) (valsB (outB xs (k + 1)) ++ [.int .u8 (byteN (val xs) k : Nat)])) (hg : (wr.alloc o).grownBy w1 v.ownBlock) : ByR w1 w xs v' k := by
  have hs := h.bel.size
  refine ⟨?_, Below.grown (h.bel.alloc (by omega) o) hg (by simp; omega) (fun k hk => (own_ge h.own k hk).1)⟩
  have e1 : bytesN xs - (k + 1) + 1 = bytesN xs - k := by omega
  have e : valsB (outB xs (k + 1)) ++ [.int .u8 (byteN (val xs) k : Nat)] = valsB (outB xs k) := by
    unfold outB valsB
    rw [← e1]
    simp only [lst, List.range_succ, List.map_append, List.map_cons, List.map_nil]
    rw [show bytesN xs - 1 - (bytesN xs - (k + 1)) = k from by omega]
  rw [e, e1] at hown
  exact hown
theorem ByR.skip {wr w : World} {xs : List Nat} {v : Value} {k : Nat} (h : ByR wr w xs v (k + 1)) (hk : bytesN xs ≤ k) : ByR wr w xs v k := by
  have e : bytesN xs - (k + 1) = bytesN xs - k := by omega
  refine ⟨?_, h.bel⟩
  have := h.own
  unfold outB at *
  rw [e] at this
  exact this

theorem own_len {w : World} {base k : Nat} {e : TypeId} {v : Value} {ws : List Value} (h : w.ownsRow base e 1 v k ws) : ∃ a c, v = .slice a k c := by
  rcases h.2 with ⟨e, h0⟩ | ⟨g, cap, cur, e, hb, h5, h6, h7, h8, h9⟩
  · subst e h0
    exact ⟨none, 0, rfl⟩
  · subst e
    exact ⟨_, _, rfl⟩

def RbPost (w : World) (xs : List Nat) (e : Ending) (w' : World) : Prop :=
  ∃ v, e = .returned (.tuple #[v, .int .i64 0]) ∧ w'.ownsRow w.heap.size 5 1 v (bytesN xs) (valsB (outB xs 0)) ∧ Below w.heap.size w w'

end Go.Proofs.Ytlecjjcpidjmhaa
