/-
  natural.FromBytes: contract.
-/
import Derived.Test.YtlecjjcpidjmhaaBy2
import Derived.Test.YtlecjjcpidjmhaaOnes
namespace Go.Proofs.Ytlecjjcpidjmhaa
open Go.RowKit Go.Deep
set_option linter.unusedVariables false

/-- Bytes at a place. -/
structure SlB (w : World) (a : Option Addr) (n c : Nat) (bs : List Nat) : Prop where
  len : bs.length = n
  le : n ≤ c
  ok : ∀ x ∈ bs, x < 256
  cells : bs = [] ∨ ∃ b off, a = some ⟨b, off, none⟩ ∧ ∀ i, i < bs.length → w.cell? ⟨b, off + i, none⟩ = some (.int .u8 (bs.getD i 0 : Nat))
theorem SlB.below {w w' : World} {a : Option Addr} {n c : Nat} {bs : List Nat} (h : SlB w a n c bs) (k : Below w.heap.size w w') : SlB w' a n c bs := by
  refine ⟨h.len, h.le, h.ok, ?_⟩
  rcases h.cells with e | ⟨b, off, e, hc⟩
  · exact .inl e
  · refine .inr ⟨b, off, e, fun i hi => ?_⟩
    have h1 := hc i hi
    rw [k.cell (World.block_lt_of_cell? _ _ h1)]
    exact h1

/-- The number of bytes, the first the highest. -/
def valB : List Nat → Nat
  | [] => 0
  | x :: r => x * 256 ^ r.length + valB r
/-- Without zeros ahead. -/
def stripB : List Nat → List Nat
  | [] => []
  | x :: r => if x = 0 then stripB r else x :: r
def fromBytesL (bs : List Nat) : List Nat × Int := if 8192 < (stripB bs).length then ([], 2) else (limbs (valB (stripB bs)), 0)

/-- The number of the last k bytes. -/
def lowB (bs : List Nat) : Nat → Nat
  | 0 => 0
  | k + 1 => lowB bs k + bs.getD (bs.length - 1 - k) 0 * 256 ^ k
theorem lowB_cons (x : Nat) (r : List Nat) : ∀ (k : Nat), k ≤ r.length → lowB (x :: r) k = lowB r k
  | 0, _ => rfl
  | k + 1, h => by
    simp only [lowB]
    rw [lowB_cons x r k (by omega)]
    congr 2
    rw [show (x :: r).length - 1 - k = (r.length - 1 - k) + 1 from by simp; omega]
    simp
theorem lowB_all : ∀ (bs : List Nat), lowB bs bs.length = valB bs
  | [] => rfl
  | x :: r => by
    simp only [List.length_cons, lowB, valB]
    rw [lowB_cons x r r.length (Nat.le_refl _), lowB_all r]
    simp
    omega

theorem strip_drop : ∀ (bs : List Nat) (d : Nat), d ≤ bs.length → (∀ i, i < d → bs.getD i 0 = 0) → (d = bs.length ∨ bs.getD d 0 ≠ 0) → stripB bs = bs.drop d
  | [], d, hd, _, _ => by simp [stripB]
  | x :: r, 0, hd, hz, he => by
    rcases he with e | e
    · simp at e
    · simp at e
      simp [stripB, e]
  | x :: r, d + 1, hd, hz, he => by
    have h0 : x = 0 := by have := hz 0 (by omega); simpa using this
    simp only [stripB, h0, if_true, List.drop_succ_cons]
    refine strip_drop r d (by simpa using hd) (fun i hi => by have := hz (i + 1) (by omega); simpa using this) ?_
    rcases he with e | e
    · left; simpa using e
    · right; simpa using e

theorem lowB_lt {bs : List Nat} (ok : ∀ x ∈ bs, x < 256) : ∀ (k : Nat), lowB bs k < 256 ^ k
  | 0 => by simp [lowB]
  | k + 1 => by
    have h1 := lowB_lt ok k
    simp only [lowB]
    have h2 : bs.getD (bs.length - 1 - k) 0 < 256 := by
      by_cases hl : bs.length - 1 - k < bs.length
      · rw [show bs.getD (bs.length - 1 - k) 0 = bs[bs.length - 1 - k] from by simp [List.getD, hl]]
        exact ok _ (List.getElem_mem _)
      · rw [getD_ge (by omega)]; decide
    have h3 : bs.getD (bs.length - 1 - k) 0 * 256 ^ k ≤ 255 * 256 ^ k := Nat.mul_le_mul_right _ (by omega)
    rw [Nat.pow_succ]
    generalize 256 ^ k = P at *
    omega

theorem valF_putB {f : Nat → Nat} {l d : Nat} : ∀ {n : Nat}, l < n → valF (fun i => if i = l then f l + d else f i) n = valF f n + 4294967296 ^ l * d
  | 0, h => by omega
  | n + 1, h => by
    simp only [valF]
    by_cases e : n = l
    · subst e
      rw [valF_congr (g := f) (fun i hi => by rw [if_neg (by omega)])]
      simp only [if_true, Nat.mul_add]
      omega
    · rw [valF_putB (n := n) (by omega), if_neg e]
      omega

/-- A byte more. -/
theorem byte_put {f : Nat → Nat} {M i l s c : Nat} (ok : ∀ j, j < M → f j < 4294967296) (hl : i / 4 = l) (hs : i % 4 = s) (hM : l < M) (hv : valF f M < 256 ^ i) (hc : c < 256) :
    bits .or .u32 (f l : Int) ((c * 2 ^ (8 * s) : Nat) : Int) = ((f l + c * 2 ^ (8 * s) : Nat) : Int) ∧ f l + c * 2 ^ (8 * s) < 4294967296 ∧ c * 2 ^ (8 * s) < 4294967296 ∧ 4294967296 ^ l * (c * 2 ^ (8 * s)) = c * 256 ^ i := by
  have p1 : (256:Nat) ^ i = 4294967296 ^ l * 2 ^ (8 * s) := by
    rw [show i = 4 * l + s from by omega, show (256:Nat) = 2 ^ 8 from rfl, ← Nat.pow_mul, pow_limb, ← Nat.pow_add]
    congr 1
    omega
  have hd : f l < 2 ^ (8 * s) := by
    rw [valF_digit ok hM]
    refine Nat.lt_of_le_of_lt (Nat.mod_le _ _) ?_
    rw [Nat.div_lt_iff_lt_mul (pow_pos l), Nat.mul_comm, ← p1]
    exact hv
  have hp : 2 ^ (8 * s) * 256 ≤ 4294967296 := by
    rw [show (256:Nat) = 2 ^ 8 from rfl, ← Nat.pow_add]
    exact Nat.le_trans (Nat.pow_le_pow_right (by decide) (show 8 * s + 8 ≤ 32 by omega)) (by decide)
  have hcm : c * 2 ^ (8 * s) + 2 ^ (8 * s) ≤ 2 ^ (8 * s) * 256 := by
    rw [← Nat.succ_mul, Nat.mul_comm]
    exact Nat.mul_le_mul_left _ hc
  have hP := Nat.two_pow_pos (8 * s)
  have ho : c * 2 ^ (8 * s) ||| f l = c * 2 ^ (8 * s) + f l := by
    have := Nat.shiftLeft_add_eq_or_of_lt hd c
    rw [Nat.shiftLeft_eq] at this
    exact this.symm
  have h1 : c * 2 ^ (8 * s) < 4294967296 := by omega
  have h2 : f l < 4294967296 := ok l hM
  refine ⟨?_, by omega, h1, ?_⟩
  · rw [u32_or_nat _ _ h2 h1, Nat.or_comm, ho, Nat.add_comm]
  · rw [p1, ← Nat.mul_assoc, Nat.mul_comm _ c, Nat.mul_assoc]
end Go.Proofs.Ytlecjjcpidjmhaa
