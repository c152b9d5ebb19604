/-
  bitset.Make, Range: contracts.
-/
import Derived.Test.YtdmfaejngepafaaBt2
namespace Go.Proofs.Ytdmfaejngepafaa
open Go.RowKit Go.Deep
set_option linter.unusedVariables false

/-- A set and an error. -/
def ResS (w w' : World) (r : Int × List Nat × Int) (e : Ending) : Prop :=
  ∃ a n c, e = .returned (.tuple #[setV r.1 a n c, .int .i64 r.2.2]) ∧ SlW w' a n c r.2.1 ∧ Below w.heap.size w w'

theorem resS_zero {w w' : World} {er : Int} (h : Below w.heap.size w w') : ResS w w' (0, [], er) (.returned (.tuple #[.agg #[.int .i64 0, .slice none 0 0], .int .i64 er])) :=
  ⟨none, 0, 0, rfl, SlG.nil _, h⟩
theorem resS_set {w w' : World} {s : Int} {sz b cb : Nat} {f : Nat → Nat} {P : Nat → Bool} (hf : FnW w' b 0 (nW sz) f) (hr : RepB (nW sz) f P) (hc : nW sz ≤ cb) (hm : cb ≤ maxLen) (h : Below w.heap.size w w') :
    ResS w w' (s, wordsL sz P, 0) (.returned (.tuple #[.agg #[.int .i64 s, .slice (some ⟨b, 0, none⟩) (nW sz) cb], .int .i64 0])) := by
  refine ⟨_, _, _, rfl, ?_, h⟩
  have := hf.sl (d := 0) hc hm
  rwa [show lstG f (nW sz) = wordsL sz P from wordsL_of hr] at this

def badE (size : Int) (e : Int) : Bool := decide (e < 0) || decide (size ≤ e)
def mkR (size : Int) (l : List Int) : Int × List Nat × Int :=
  if fitsI size then (if l.any (badE size) then (0, [], 62) else (size, wordsL size.toNat (fun x => l.any (fun e => e == (x : Int))), 0)) else (0, [], 60)

theorem any_take {l : List Int} {k : Nat} (hk : k < l.length) (p : Int → Bool) : (l.take (k + 1)).any p = (p (l.getD k 0) || (l.take k).any p) := by
  rw [List.take_add_one, List.getElem?_eq_getElem hk, List.any_append, Bool.or_comm]
  simp [List.getD, hk]
theorem any_bad {l : List Int} {p : Int → Bool} {k : Nat} (hk : k < l.length) (h : p (l.getD k 0) = true) : l.any p = true := by
  rw [List.any_eq_true]
  refine ⟨l[k], List.getElem_mem hk, ?_⟩
  simpa [List.getD, hk] using h

/-- In the loop: the answer's place, the variable, the words. -/
structure MkLp (w wr : World) (R Z b cb N : Nat) (sz : Nat) (l : List Int) (k : Nat) : Prop where
  res : Two wr R (.int .i64 0) (.slice none 0 0)
  two : Two wr Z (.int .i64 sz) (.slice (some ⟨b, 0, none⟩) N cb)
  ok : (l.take k).any (badE sz) = false
  rep : ∃ f, FnW wr b 0 N f ∧ RepB N f (fun x => (l.take k).any (fun e => e == (x : Int)))
  bel : Below w.heap.size w wr
theorem MkLp.step {w wr w' : World} {R Z b cb N sz : Nat} {l : List Int} {k e : Nat} {f : Nat → Nat} (h : MkLp w wr R Z b cb N sz l k) (hk : k < l.length) (he : l.getD k 0 = (e : Int)) (hes : e < sz) (heN : e / 64 < N) (hR : R ≠ b) (hZ : Z ≠ b) (hb : w.heap.size ≤ b)
    (hrep : RepB N f (fun x => (l.take k).any (fun e => e == (x : Int))))
    (hf : FnW w' b 0 N (fun i => if i = e / 64 then f (e / 64) ||| 2 ^ (e % 64) else f i)) (hc : Chg (fun j => j = b) wr w') : MkLp w w' R Z b cb N sz l (k + 1) := by
  refine ⟨h.res.chg hc hR, h.two.chg hc hZ, ?_, ⟨_, hf, ?_⟩, h.bel.trans (hc.below h.bel.size (fun j hj => by omega))⟩
  · rw [any_take hk, h.ok, he]
    simp [badE]
    omega
  · refine (hrep.put e heN).congr (fun _ _ => rfl) (fun x _ => ?_)
    rw [any_take hk, he]
    congr 1
    rw [Bool.eq_iff_iff]
    simp
    omega

end Go.Proofs.Ytdmfaejngepafaa
