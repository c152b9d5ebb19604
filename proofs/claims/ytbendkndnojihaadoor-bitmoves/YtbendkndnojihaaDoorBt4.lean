/-
  bitset.Range: its contract.
-/
import Derived.Test.YtbendkndnojihaaDoorBt3
namespace Go.Proofs.YtbendkndnojihaaDoor
open Go.RowKit Go.Deep
set_option linter.unusedVariables false

def rangeR (size low high : Int) : Int × List Nat × Int :=
  if fitsI size then (size, wordsL size.toNat (fun x => decide (low.toNat ≤ x) && decide ((x : Int) < high) && decide (x < size.toNat)), 0) else (0, [], 60)

/-- In the loop. -/
structure RgLp (w wr : World) (R Z b cb N : Nat) (sz : Nat) (P : Nat → Bool) : Prop where
  res : Two wr R (.int .i64 0) (.slice none 0 0)
  two : Two wr Z (.int .i64 sz) (.slice (some ⟨b, 0, none⟩) N cb)
  rep : ∃ f, FnW wr b 0 N f ∧ RepB N f P
  bel : Below w.heap.size w wr
theorem RgLp.step {w wr w' : World} {R Z b cb N sz : Nat} {P : Nat → Bool} {e : Nat} {f : Nat → Nat} (h : RgLp w wr R Z b cb N sz P) (heN : e / 64 < N) (hR : R ≠ b) (hZ : Z ≠ b) (hb : w.heap.size ≤ b)
    (hrep : RepB N f P)
    (hf : FnW w' b 0 N (fun i => if i = e / 64 then f (e / 64) ||| 2 ^ (e % 64) else f i)) (hc : Chg (fun j => j = b) wr w') : RgLp w w' R Z b cb N sz (fun x => x == e || P x) :=
  ⟨h.res.chg hc hR, h.two.chg hc hZ, ⟨_, hf, hrep.put e heN⟩, h.bel.trans (hc.below h.bel.size (fun j hj => by omega))⟩
theorem RgLp.congr {w wr : World} {R Z b cb N sz : Nat} {P Q : Nat → Bool} (h : RgLp w wr R Z b cb N sz P) (e : ∀ x, x < 64 * N → P x = Q x) : RgLp w wr R Z b cb N sz Q :=
  ⟨h.res, h.two, by obtain ⟨f, h1, h2⟩ := h.rep; exact ⟨f, h1, h2.congr (fun _ _ => rfl) e⟩, h.bel⟩

end Go.Proofs.YtbendkndnojihaaDoor
