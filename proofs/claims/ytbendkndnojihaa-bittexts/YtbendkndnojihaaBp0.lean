/-
  WHAT TWO SETS ARE JOINED TO.
-/
import Derived.Test.YtbendkndnojihaaBtg0
import Derived.Test.YtbendkndnojihaaBt8
import Derived.Test.YtbendkndnojihaaBt6
namespace Go.Proofs.Ytbendkndnojihaa
open Go.RowKit Go.Deep
set_option linter.unusedVariables false

/-- In the one and not in the other; both: in just one. -/
def mOp (both x y : Bool) : Bool := (x && !y) || (both && y && !x)
theorem andNot_m (x y : Nat) (hx : x < 18446744073709551616) (hy : y < 18446744073709551616) : jAndNot x y < 18446744073709551616 ∧ ∀ j, (jAndNot x y).testBit j = mOp false (x.testBit j) (y.testBit j) :=
  ⟨(jAndNot_bits x y hx hy).1, fun j => by rw [(jAndNot_bits x y hx hy).2 j]; unfold mOp; cases x.testBit j <;> cases y.testBit j <;> rfl⟩
theorem xor_m (x y : Nat) (hx : x < 18446744073709551616) (hy : y < 18446744073709551616) : jXor x y < 18446744073709551616 ∧ ∀ j, (jXor x y).testBit j = mOp true (x.testBit j) (y.testBit j) :=
  ⟨(jXor_bits x y hx hy).1, fun j => by rw [(jXor_bits x y hx hy).2 j]; unfold mOp; cases x.testBit j <;> cases y.testBit j <;> rfl⟩
def pairE (s1 : Int) (x1 : List Nat) (s2 : Int) (x2 : List Nat) : Int := if MayS s1 x1 && MayS s2 x2 then (if s1 = s2 then 0 else 60) else 61
def pairR (both : Bool) (s1 : Int) (x1 : List Nat) (s2 : Int) (x2 : List Nat) : Int × List Nat × Int :=
  if pairE s1 x1 s2 x2 = 0 then (s1, wordsL s1.toNat (fun x => mOp both (hasB (gW x1) x) (hasB (gW x2) x)), 0) else (0, [], pairE s1 x1 s2 x2)
theorem alike_pair (s1 : Int) (a1 : Option Addr) (n1 c1 : Nat) (x1 : List Nat) (s2 : Int) (a2 : Option Addr) (n2 c2 : Nat) (x2 : List Nat) : alikeE s1 [⟨s1, a1, n1, c1, x1⟩, ⟨s2, a2, n2, c2, x2⟩] = pairE s1 x1 s2 x2 := by
  unfold alikeE pairE
  cases h1 : MayS s1 x1
  · simp [notMay, h1]
  · cases h2 : MayS s2 x2
    · simp [notMay, h1, h2]
    · have hf := MayS.fits h1
      by_cases e : s1 = s2
      · subst e; simp [notMay, offS, h1, h2, hf]
      · simp [notMay, offS, h1, h2, hf, e, show ¬ s2 = s1 from fun h => e h.symm]
theorem pairE_zero {s1 : Int} {x1 : List Nat} {s2 : Int} {x2 : List Nat} (h : pairE s1 x1 s2 x2 = 0) : MayS s1 x1 = true ∧ MayS s2 x2 = true ∧ s1 = s2 := by
  unfold pairE at h
  split at h
  · rename_i hm
    split at h
    · rename_i he
      simp at hm
      exact ⟨hm.1, hm.2, he⟩
    · cases h
  · cases h
/-- Where an answer of two sets lies. -/
theorem enter2 {w wa wb wc : World} {s1 : Int} {a1 : Option Addr} {n1 c1 : Nat} {x1 : List Nat} {s2 : Int} {a2 : Option Addr} {n2 c2 : Nat} {x2 : List Nat}
    (hwa : w.alloc (.cells #[.int .i64 s1, .slice a1 n1 c1] 24) = wa) (hwb : wa.alloc (.cells #[.int .i64 s2, .slice a2 n2 c2] 24) = wb) (hwc : wb.alloc (.cells #[.int .i64 0, .slice none 0 0] 24) = wc)
    (h1 : SlW w a1 n1 c1 x1) (h2 : SlW w a2 n2 c2 x2) :
    Facts w wc [fT wb.heap.size (.int .i64 0) (.slice none 0 0), fT wa.heap.size (.int .i64 s2) (.slice a2 n2 c2), fT w.heap.size (.int .i64 s1) (.slice a1 n1 c1), fW a1 n1 c1 x1, fW a2 n2 c2 x2] ∧ w.heap.size < wa.heap.size ∧ wa.heap.size < wb.heap.size ∧ wb.heap.size < wc.heap.size := by
  refine ⟨?_, by rw [← hwa]; simp, by rw [← hwb]; simp, by rw [← hwc]; simp⟩
  have A0 : Facts w w [] := ⟨Below.refl _ _, fun f hf => by cases hf⟩
  have A1 := (A0.add (fW a2 n2 c2 x2) h2).add (fW a1 n1 c1 x1) h1
  have A2 := A1.box (.int .i64 s1) (.slice a1 n1 c1) 24
  rw [hwa] at A2
  have A3 := A2.box (.int .i64 s2) (.slice a2 n2 c2) 24
  rw [hwb] at A3
  have A4 := A3.box (.int .i64 0) (.slice none 0 0) 24
  rw [hwc] at A4
  exact A4
theorem enter2n {w wa wb : World} {s1 : Int} {a1 : Option Addr} {n1 c1 : Nat} {x1 : List Nat} {s2 : Int} {a2 : Option Addr} {n2 c2 : Nat} {x2 : List Nat}
    (hwa : w.alloc (.cells #[.int .i64 s1, .slice a1 n1 c1] 24) = wa) (hwb : wa.alloc (.cells #[.int .i64 s2, .slice a2 n2 c2] 24) = wb)
    (h1 : SlW w a1 n1 c1 x1) (h2 : SlW w a2 n2 c2 x2) :
    Facts w wb [fT wa.heap.size (.int .i64 s2) (.slice a2 n2 c2), fT w.heap.size (.int .i64 s1) (.slice a1 n1 c1), fW a1 n1 c1 x1, fW a2 n2 c2 x2] ∧ w.heap.size < wa.heap.size ∧ wa.heap.size < wb.heap.size := by
  refine ⟨?_, by rw [← hwa]; simp, by rw [← hwb]; simp⟩
  have A0 : Facts w w [] := ⟨Below.refl _ _, fun f hf => by cases hf⟩
  have A1 := (A0.add (fW a2 n2 c2 x2) h2).add (fW a1 n1 c1 x1) h1
  have A2 := A1.box (.int .i64 s1) (.slice a1 n1 c1) 24
  rw [hwa] at A2
  have A3 := A2.box (.int .i64 s2) (.slice a2 n2 c2) 24
  rw [hwb] at A3
  exact A3
theorem enter1r {w wa wb : World} {s1 : Int} {a1 : Option Addr} {n1 c1 : Nat} {x1 : List Nat}
    (hwa : w.alloc (.cells #[.int .i64 s1, .slice a1 n1 c1] 24) = wa) (hwb : wa.alloc (.cells #[.int .i64 0, .slice none 0 0] 24) = wb)
    (h1 : SlW w a1 n1 c1 x1) :
    Facts w wb [fT wa.heap.size (.int .i64 0) (.slice none 0 0), fT w.heap.size (.int .i64 s1) (.slice a1 n1 c1), fW a1 n1 c1 x1] ∧ w.heap.size < wa.heap.size ∧ wa.heap.size < wb.heap.size := by
  refine ⟨?_, by rw [← hwa]; simp, by rw [← hwb]; simp⟩
  have A0 : Facts w w [] := ⟨Below.refl _ _, fun f hf => by cases hf⟩
  have A1 := A0.add (fW a1 n1 c1 x1) h1
  have A2 := A1.box (.int .i64 s1) (.slice a1 n1 c1) 24
  rw [hwa] at A2
  have A3 := A2.box (.int .i64 0) (.slice none 0 0) 24
  rw [hwb] at A3
  exact A3
/-- A row of yes and no that the call has made, behind the world w1. -/
structure Ar (w1 wr : World) (sz : Nat) (g : Nat → Bool) : Prop where
  row : FnB wr w1.heap.size 0 sz g
  bel : Below w1.heap.size w1 wr
  lt : w1.heap.size < wr.heap.size
theorem Ar.made (w1 : World) (sz : Nat) : Ar w1 (w1.alloc (.cells (madeCells #[.bool false] sz) 4)) sz (fun _ => false) :=
  ⟨FnG.made w1 sz 4 false rfl, (Below.refl _ _).alloc (Nat.le_refl _) _, by simp⟩
theorem Ar.step {w1 wr w' : World} {sz : Nat} {g : Nat → Bool} (h : Ar w1 wr sz g) (k : Below wr.heap.size wr w') : Ar w1 w' sz g :=
  ⟨h.row.below k, h.bel.trans (k.mono (Nat.le_of_lt h.lt)), Nat.lt_of_lt_of_le h.lt k.size⟩
theorem Ar.set {w1 wr : World} {sz : Nat} {g : Nat → Bool} (h : Ar w1 wr sz g) (k : Nat) (v : Bool) (hk : k < sz) : Ar w1 (wr.setCell ⟨w1.heap.size, k, none⟩ (.bool v)) sz (fun x => if x = k then v else g x) := by
  refine ⟨?_, h.bel.setCell (p := ⟨w1.heap.size, k, none⟩) (Nat.le_refl _) _, by simpa using h.lt⟩
  have := h.row.set k v hk
  rw [Nat.zero_add] at this
  exact this
theorem Ar.congr {w1 wr : World} {sz : Nat} {g g' : Nat → Bool} (h : Ar w1 wr sz g) (e : ∀ x, x < sz → g x = g' x) : Ar w1 wr sz g' := ⟨h.row.congr e, h.bel, h.lt⟩
theorem Ar.sl {w1 wr : World} {sz : Nat} {g : Nat → Bool} (h : Ar w1 wr sz g) (hs : sz ≤ 4096) : SlB wr (some ⟨w1.heap.size, 0, none⟩) sz sz (lstG g sz) := h.row.sl (Nat.le_refl _) (by unfold maxLen; omega)
/-- One step of the row. -/
theorem Ar.next {w1 wr : World} {sz k : Nat} {G : Nat → Bool} (h : Ar w1 wr sz (fun x => decide (x < k) && G x)) (hk : k < sz) (v : Bool) (hv : v = G k) : Ar w1 (wr.setCell ⟨w1.heap.size, k, none⟩ (.bool v)) sz (fun x => decide (x < k + 1) && G x) :=
  (h.set k v hk).congr fun x _ => by
    by_cases e : x = k
    · subst e; simp [hv]
    · by_cases e2 : x < k
      · simp [e, e2, show x < k + 1 from by omega]
      · simp [e, e2, show ¬ x < k + 1 from by omega]
theorem Ar.cell {w1 wr : World} {sz : Nat} {g : Nat → Bool} (h : Ar w1 wr sz g) {k : Nat} (hk : k < sz) : wr.cell? ⟨w1.heap.size, k, none⟩ = some (.bool (g k)) ∧ wr.frozen? ⟨w1.heap.size, k, none⟩ = false := by
  have := h.row k hk
  rw [Nat.zero_add] at this
  exact this
/-- The set that Of has made of the row is answered. -/
theorem Ar.done {w w1 wr w2 : World} {R sz : Nat} {g P : Nat → Bool} {a : Option Addr} {n c : Nat} (h : Ar w1 wr sz g) (hw : Below w.heap.size w w1) (tR : Two w1 R (.int .i64 0) (.slice none 0 0)) (hR : w.heap.size ≤ R) (hs : SlW w2 a n c (bitsL (lstG g sz))) (hb : Below wr.heap.size wr w2) (hP : ∀ x, x < 64 * nW sz → (decide (x < sz) && g x) = P x) :
    ResS w ((w2.setCell ⟨R, 0, none⟩ (.int .i64 sz)).setCell ⟨R, 1, none⟩ (.slice a n c)) (sz, wordsL sz P, 0) (.returned (.tuple #[.agg #[.int .i64 sz, .slice a n c], .int .i64 0])) := by
  have hwr : Below w.heap.size w wr := hw.trans (h.bel.mono hw.size)
  refine ⟨a, n, c, rfl, ?_, two_below (hwr.trans (hb.mono hwr.size)) R hR _ _⟩
  have e : bitsL (lstG g sz) = wordsL sz P := by
    rw [bits_fn]
    exact wordsL_congr hP
  rw [e] at hs
  exact SlW.two hs ((tR.keep h.bel).keep hb) _ _
end Go.Proofs.Ytbendkndnojihaa
