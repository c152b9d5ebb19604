/-
  PLAIN NUMBERS: shifts of limbs.
-/
import Derived.Test.YtlecjjcpidjmhaaSub
namespace Go.Proofs.Ytlecjjcpidjmhaa
open Go.RowKit Go.Deep
set_option linter.unusedVariables false

def sv (x s : Nat) : Nat := x * 2 ^ s
def slo (x s : Nat) : Nat := x * 2 ^ s % 4294967296
def shi (x s : Nat) : Nat := x * 2 ^ s / 4294967296

theorem pow_s {s : Nat} (h : s < 32) : 1 ≤ 2 ^ s ∧ 2 ^ s ≤ 2147483648 := by
  refine ⟨Nat.pow_pos (by decide), ?_⟩
  have : 2 ^ s ≤ 2 ^ 31 := Nat.pow_le_pow_right (by decide) (by omega)
  simpa using this

theorem pow_split {s : Nat} (h : s < 32) : 2 ^ s * 2 ^ (32 - s) = 4294967296 := by
  rw [← Nat.pow_add, show s + (32 - s) = 32 from by omega]

theorem sv_lt {x s : Nat} (hx : x < 4294967296) (h : s < 32) : sv x s < 9223372036854775808 := by
  obtain ⟨h1, h2⟩ := pow_s h
  have : x * 2 ^ s ≤ 4294967295 * 2147483648 := Nat.mul_le_mul (by omega) h2
  unfold sv
  omega

theorem sv_int {x s : Nat} (hx : x < 4294967296) (h : s < 32) : IntKind.u64.wrap ((x : Int) * 2 ^ s) = ((sv x s : Nat) : Int) := by
  have hb := sv_lt hx h
  have e : (x : Int) * 2 ^ s = ((sv x s : Nat) : Int) := by unfold sv; rw [Int.natCast_mul, Int.natCast_pow]; rfl
  rw [e, IntKind.wrap_u64]
  omega

theorem slo_int (x s : Nat) : ((sv x s : Nat) : Int) % 4294967296 = ((slo x s : Nat) : Int) := by unfold slo sv; omega
theorem shi_int (x s : Nat) : ((sv x s : Nat) : Int) / 4294967296 = ((shi x s : Nat) : Int) := by unfold shi sv; omega
theorem sh_eq (x s : Nat) : slo x s + 4294967296 * shi x s = x * 2 ^ s := by unfold slo shi; exact Nat.mod_add_div _ _
theorem slo_lt (x s : Nat) : slo x s < 4294967296 := by unfold slo; exact Nat.mod_lt _ (by decide)
theorem shi_lt {x s : Nat} (hx : x < 4294967296) (h : s < 32) : shi x s < 2 ^ s := by
  unfold shi
  obtain ⟨h1, h2⟩ := pow_s h
  rw [Nat.div_lt_iff_lt_mul (by decide), Nat.mul_comm]
  exact Nat.mul_lt_mul_of_pos_left hx (by omega)

theorem slo_mul {x s : Nat} (h : s < 32) : slo x s = 2 ^ s * (x % 2 ^ (32 - s)) := by
  unfold slo
  rw [← pow_split h, Nat.mul_comm x, Nat.mul_mod_mul_left]

theorem or_slo {o x s : Nat} (h : s < 32) (ho : o < 2 ^ s) : o ||| slo x s = o + slo x s := by
  rw [slo_mul h]
  have := Nat.shiftLeft_add_eq_or_of_lt (i := s) (b := o) ho (x % 2 ^ (32 - s))
  rw [Nat.shiftLeft_eq, Nat.mul_comm] at this
  rw [Nat.or_comm, ← this, Nat.add_comm]

theorem or_slo_lt {o x s : Nat} (h : s < 32) (ho : o < 2 ^ s) : o + slo x s < 4294967296 := by
  rw [← or_slo h ho]
  have : (o ||| slo x s) < 2 ^ 32 := Nat.or_lt_two_pow (by have := (pow_s h).2; omega) (slo_lt x s)
  exact this

def orv (o x s : Nat) : Nat := o + slo x s
theorem or_int {o x s : Nat} (h : s < 32) (ho : o < 2 ^ s) : bits .or .u32 (o : Int) ((slo x s : Nat) : Int) = ((orv o x s : Nat) : Int) := by
  rw [u32_or_nat _ _ (by have := (pow_s h).2; omega) (slo_lt x s), or_slo h ho]
  rfl

/-- What a round of a left shift leaves. -/
structure ShR (wr w : World) (m l s : Nat) (xs : List Nat) (i : Nat) (g : Nat → Nat) : Prop where
  fn : Fn wr w.heap.size 0 m g
  ok : ∀ k, k < m → g k < 4294967296
  top : g (l + i) < 2 ^ s
  zero : ∀ k, l + i < k → g k = 0
  val : valF g (l + i + 1) = valF (fun k => xs.getD k 0) i * 2 ^ s * 4294967296 ^ l
  bel : Below w.heap.size w wr

theorem ShR.step {wr w : World} {m l s : Nat} {xs : List Nat} {i : Nat} {g : Nat → Nat} (h : ShR wr w m l s xs i g) (hs : s < 32) (hm : l + i + 1 < m) (ox : Ok xs) :
    ShR ((wr.setCell ⟨w.heap.size, l + i, none⟩ (.int .u32 (orv (g (l + i)) (xs.getD i 0) s : Nat))).setCell ⟨w.heap.size, l + i + 1, none⟩ (.int .u32 (shi (xs.getD i 0) s : Nat))) w m l s xs (i + 1)
      (fun k => if k = l + i + 1 then shi (xs.getD i 0) s else if k = l + i then orv (g (l + i)) (xs.getD i 0) s else g k) := by
  have f1 := h.fn.set (l + i) (orv (g (l + i)) (xs.getD i 0) s) (by omega)
  have f2 := f1.set (l + i + 1) (shi (xs.getD i 0) s) hm
  simp only [Nat.zero_add] at f2
  have hh := shi_lt (ox.getD i) hs
  have hp := pow_s hs
  refine ⟨f2, ?_, ?_, ?_, ?_, (h.bel.setCell (Nat.le_refl _) _).setCell (Nat.le_refl _) _⟩
  · intro k hk
    by_cases e : k = l + i + 1
    · simp only [e, if_true]; omega
    · by_cases e2 : k = l + i
      · simp only [e2, show ¬ l + i = l + i + 1 from by omega, if_true, if_false]; exact or_slo_lt hs h.top
      · simp only [e, e2, if_false]; exact h.ok k hk
  · simp only [show l + (i + 1) = l + i + 1 from by omega, if_true]; exact hh
  · intro k hk
    simp only [show ¬ k = l + i + 1 from by omega, show ¬ k = l + i from by omega, if_false]
    exact h.zero k (by omega)
  · have e1 : l + (i + 1) + 1 = l + i + 1 + 1 := by omega
    rw [e1]
    simp only [valF]
    simp only [if_true, show ¬ l + i = l + i + 1 from by omega, if_false]
    rw [valF_congr (g := g) (fun k hk => by rw [if_neg (by omega), if_neg (by omega)])]
    have hv := h.val
    simp only [valF] at hv
    have e := sh_eq (xs.getD i 0) s
    have e2 : orv (g (l + i)) (xs.getD i 0) s = g (l + i) + slo (xs.getD i 0) s := rfl
    rw [e2, Nat.mul_add, Nat.pow_succ, Nat.add_mul, Nat.add_mul, ← hv]
    have e3 : 4294967296 ^ (l + i) * slo (xs.getD i 0) s + 4294967296 ^ (l + i) * 4294967296 * shi (xs.getD i 0) s = 4294967296 ^ i * xs.getD i 0 * 2 ^ s * 4294967296 ^ l := by
      rw [Nat.mul_assoc, ← Nat.mul_add, e, Nat.pow_add]
      rw [Nat.mul_comm (4294967296 ^ l), Nat.mul_assoc, Nat.mul_comm (4294967296 ^ l), ← Nat.mul_assoc, ← Nat.mul_assoc]
    generalize 4294967296 ^ (l + i) * slo (xs.getD i 0) s = t1 at *
    generalize 4294967296 ^ (l + i) * 4294967296 * shi (xs.getD i 0) s = t2 at *
    generalize 4294967296 ^ i * xs.getD i 0 * 2 ^ s * 4294967296 ^ l = t3 at *
    generalize 4294967296 ^ (l + i) * g (l + i) = t4 at *
    omega

theorem ShR.begin (w : World) (m l s : Nat) (xs : List Nat) (hs : s < 32) : ShR (w.alloc (.cells (madeCells #[.int .u32 0] m) 77)) w m l s xs 0 (fun _ => 0) :=
  ⟨Fn.made w m _, fun _ _ => by decide, (pow_s hs).1, fun _ _ => rfl, by rw [valF_zero]; simp [valF], (Below.refl _ _).alloc (Nat.le_refl _) _⟩

theorem sh_total {v k l s : Nat} (hl : k / 32 = l) (hs : k % 32 = s) : v * 2 ^ s * 4294967296 ^ l = v * 2 ^ k := by
  have e : k = s + 32 * l := by omega
  have p : (4294967296 : Nat) ^ l = 2 ^ (32 * l) := by rw [Nat.pow_mul]
  rw [e, Nat.pow_add, p, Nat.mul_assoc]
end Go.Proofs.Ytlecjjcpidjmhaa
