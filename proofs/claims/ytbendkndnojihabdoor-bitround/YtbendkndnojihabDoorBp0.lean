/-
  bitset.join, by andNot: its contract.
-/
import Derived.Test.YtbendkndnojihabDoorBtj
import Derived.Test.YtbendkndnojihabDoorBt2
import Derived.Test.YtbendkndnojihabDoorBn2
import Derived.Test.YtbendkndnojihabDoorBtb
import Derived.Test.YtbendkndnojihabDoorBtg
namespace Go.Proofs.YtbendkndnojihabDoor
open Go.RowKit Go.Deep
set_option linter.unusedVariables false

set_option maxHeartbeats 8000000 in
/-- bitset.join, by andNot. -/
theorem join_andNot (s1 s2 : Int) (b N cb : Nat) (f : Nat → Nat) (a : Option Addr) (n c : Nat) (xs : List Nat) (w : World) (hf : FnW w b 0 N f) (hlt : ∀ i, i < N → f i < 18446744073709551616)
    (h : SlW w a n c xs) (hok : OkW xs) (hn : n ≤ N) (hN : N ≤ 64) (hne : 0 < n → ∀ x, a = some x → x.block ≠ b) (hcb : cb ≤ maxLen) (hNc : N ≤ cb) :
    Calls Tryd.prog 75 #[setV s1 (some ⟨b, 0, none⟩) N cb, setV s2 a n c, .func (.func 48) #[] #[]] w fun r w' => r = .returned (.tuple #[]) ∧ FnW w' b 0 N (jnF jAndNot f xs n) ∧ Chg (fun j => j = b) w w' := by
  have hle := h.le
  have hcap := h.cap
  unfold maxLen at hcap hcb
  obtain ⟨wa, hwa⟩ : ∃ wa, w.alloc (.cells #[.int .i64 s1, .slice (some ⟨b, 0, none⟩) N cb] 35) = wa := ⟨_, rfl⟩
  obtain ⟨wb, hwb⟩ : ∃ wb, wa.alloc (.cells #[.int .i64 s2, .slice a n c] 35) = wb := ⟨_, rfl⟩
  have hba : Below w.heap.size w wa := by rw [← hwa]; exact (Below.refl _ _).alloc (Nat.le_refl _) _
  have hbb : Below wa.heap.size wa wb := by rw [← hwb]; exact (Below.refl _ _).alloc (Nat.le_refl _) _
  have tA : Two wb w.heap.size (.int .i64 s1) (.slice (some ⟨b, 0, none⟩) N cb) := by
    refine Two.keep (w := wa) ?_ hbb
    rw [← hwa]; exact Two.made _ _ _ _
  have tB : Two wb wa.heap.size (.int .i64 s2) (.slice a n c) := by rw [← hwb]; exact Two.made _ _ _ _
  have hB := hba.trans (hbb.mono hba.size)
  have hwl : w.heap.size < wa.heap.size := by rw [← hwa]; simp
  have hS := (h.below hba).below hbb
  have HA := hide (And.intro tA (And.intro tB (And.intro hS hB)))
  have HF := hide (show JnLp wb wb b N (jnF jAndNot f xs 0) from ⟨by rw [jnF_zero]; exact (hf.below hba).below hbb, Chg.refl _ _⟩)
  have HLt := hide hlt
  have HOk := hide hok
  have HNe := hide hne
  have HLn := hide h.len
  have HbA := hide (show 0 < N → b < w.heap.size from fun h0 => by
    have := World.block_lt_of_cell? _ _ (hf 0 h0).1
    exact this)
  have b1 := tB.c1
  clear hf hlt h hok hne hba hbb tA tB hB hS
  unfold setV
  go_enter Tryd.func75, Tryd.ntmps75
  go_wp2_with fail
  clear b1 hwb hwa
  go_loopw [11, 6, 7] (fun i _ _ wr => ∃ k : Nat, k ≤ n ∧ i = .int .i64 k ∧ JnLp wb wr b N (jnF jAndNot f xs k)) (fun i _ _ _ => n - (intOf i).toNat)
  case atStart => exact ⟨0, Nat.zero_le _, rfl, unhide HF⟩
  case round =>
    obtain ⟨k, hk, rfl, hst⟩ := hrel
    by_cases hlt : k < n
    · have hlt' : (k : Int) < (n : Int) := by omega
      have hltN : (k : Int) < (N : Int) := by omega
      have hbw := unhide HbA (by omega)
      obtain ⟨qA, qB, qS, qBl⟩ := unhide HA
      have hS2 := qS.chg hst.chg (fun x hx _ => unhide HNe (by omega) x hx)
      have tA := qA.chg hst.chg (by omega)
      obtain ⟨b2, o2, rfl, hc2⟩ := hS2.at (by omega)
      have g1 := hc2 k hlt
      have g2 := (hst.row k (by omega)).1
      have g3 := (hst.row k (by omega)).2
      rw [Nat.zero_add] at g2 g3
      have HS := hide (show JnLp wb (wr.setCell ⟨b, k, none⟩ (.int .u64 ((jAndNot (f k) (xs.getD k 0) : Nat) : Int))) b N (jnF jAndNot f xs (k + 1)) from ⟨jnF_step hst.row (by omega), hst.chg.trans (Chg.of_set (S := fun j => j = b) _ _ _ _ rfl)⟩)
      have hfk : jnF jAndNot f xs k k = f k := by simp [jnF]
      rw [hfk] at g2
      have hx := unhide HLt k (by omega)
      have hy : xs.getD k 0 < 18446744073709551616 := by
        have hkl : k < xs.length := by rw [unhide HLn]; exact hlt
        have : xs.getD k 0 = xs[k] := by simp [List.getD, hkl]
        rw [this]; exact unhide HOk _ (List.getElem_mem hkl)
      have HK := hide (fun w => andNot_fn (f k) (xs.getD k 0) w hx hy)
      unfold vU at g1 g2
      generalize f k = x at *
      generalize xs.getD k 0 = y at *
      generalize jAndNot x y = z at *
      have a1 := tA.c1
      clear hc2 hst qA qB qS qBl hS2 tA hfk hx hy
      go_wp2_with fail
      go_region_with (
        go_at_call 48
        refine (unhide HK _).mono ?_
        rintro _ w1 ⟨rfl, rfl⟩)
      all_goals
        go_wp2_with fail
        exact ⟨⟨k + 1, by omega, by go_num, ⟨(unhide HS).row.below (Below.refl _ _).drew, (unhide HS).chg.drew⟩⟩, by simp [intOf]; omega⟩
    · have hlt' : ¬ (k : Int) < (n : Int) := by omega
      have hkn : k = n := by omega
      subst hkn
      go_wp2_with fail
      refine bodyPost_end (results_none rfl _ _ _) rfl ?_
      exact ⟨rfl, hst.row, (Chg.of_below (unhide HA).2.2.2).trans hst.chg⟩
end Go.Proofs.YtbendkndnojihabDoor

namespace Go.Proofs.YtbendkndnojihabDoor
open Go.RowKit Go.Deep
set_option linter.unusedVariables false

/-- The words of a set lie not in a struct. -/
theorem SlW.two {w : World} {R : Nat} {s0 : Int} {a0 : Option Addr} {n0 c0 : Nat} {a : Option Addr} {n c : Nat} {xs : List Nat} (h : SlW w a n c xs) (t : Two w R (.int .i64 s0) (.slice a0 n0 c0)) (u0 u1 : Value) :
    SlW ((w.setCell ⟨R, 0, none⟩ u0).setCell ⟨R, 1, none⟩ u1) a n c xs := by
  refine ⟨h.len, h.le, h.cap, ?_⟩
  rcases h.cells with e | ⟨b, off, e, k⟩
  · exact .inl e
  · refine .inr ⟨b, off, e, fun i hi => ?_⟩
    have hc := k i hi
    have h0 : ¬ (R = b ∧ 0 = off + i) := by
      rintro ⟨rfl, hh⟩
      rw [← hh, t.c0] at hc
      cases hc
    have h1 : ¬ (R = b ∧ 1 = off + i) := by
      rintro ⟨rfl, hh⟩
      rw [← hh, t.c1] at hc
      cases hc
    rw [World.cell?_setCell_other _ _ _ _ (by intro h; injection h with e1 e2; exact h1 ⟨e1, e2⟩), World.cell?_setCell_other _ _ _ _ (by intro h; injection h with e1 e2; exact h0 ⟨e1, e2⟩)]
    exact hc

end Go.Proofs.YtbendkndnojihabDoor

namespace Go.Proofs.YtbendkndnojihabDoor
open Go.RowKit Go.Deep
set_option linter.unusedVariables false

/-- In the one and not in the other; both: in just one. -/
def mOp (both x y : Bool) : Bool := (x && !y) || (both && y && !x)
theorem andNot_m (x y : Nat) (hx : x < 18446744073709551616) (hy : y < 18446744073709551616) : jAndNot x y < 18446744073709551616 ∧ ∀ j, (jAndNot x y).testBit j = mOp false (x.testBit j) (y.testBit j) :=
  ⟨(jAndNot_bits x y hx hy).1, fun j => by rw [(jAndNot_bits x y hx hy).2 j]; unfold mOp; cases x.testBit j <;> cases y.testBit j <;> rfl⟩
theorem xor_m (x y : Nat) (hx : x < 18446744073709551616) (hy : y < 18446744073709551616) : jXor x y < 18446744073709551616 ∧ ∀ j, (jXor x y).testBit j = mOp true (x.testBit j) (y.testBit j) :=
  ⟨(jXor_bits x y hx hy).1, fun j => by rw [(jXor_bits x y hx hy).2 j]; unfold mOp; cases x.testBit j <;> cases y.testBit j <;> rfl⟩
def pairE (s1 : Int) (x1 : List Nat) (s2 : Int) (x2 : List Nat) : Int := if MayS s1 x1 && MayS s2 x2 then (if s1 = s2 then 0 else 60) else 61
def pairR (both : Bool) (s1 : Int) (x1 : List Nat) (s2 : Int) (x2 : List Nat) : Int × List Nat × Int :=
  if pairE s1 x1 s2 x2 = 0 then (s1, wordsL s1.toNat (fun x => mOp both (hasB (gW x1) x) (hasB (gW x2) x)), 0) else (0, [], pairE s1 x1 s2 x2)
theorem alike_pair (s1 : Int) (a1 : Option Addr) (n1 c1 : Nat) (x1 : List Nat) (s2 : Int) (a2 : Option Addr) (n2 c2 : Nat) (x2 : List Nat) : alikeE s1 [⟨s1, a1, n1, c1, x1⟩, ⟨s2, a2, n2, c2, x2⟩] = pairE s1 x1 s2 x2 := by
  unfold alikeE pairE
  cases h1 : MayS s1 x1
  · simp [notMay, h1]
  · cases h2 : MayS s2 x2
    · simp [notMay, h1, h2]
    · have hf := MayS.fits h1
      by_cases e : s1 = s2
      · subst e; simp [notMay, offS, h1, h2, hf]
      · simp [notMay, offS, h1, h2, hf, e, show ¬ s2 = s1 from fun h => e h.symm]
theorem pairE_zero {s1 : Int} {x1 : List Nat} {s2 : Int} {x2 : List Nat} (h : pairE s1 x1 s2 x2 = 0) : MayS s1 x1 = true ∧ MayS s2 x2 = true ∧ s1 = s2 := by
  unfold pairE at h
  split at h
  · rename_i hm
    split at h
    · rename_i he
      simp at hm
      exact ⟨hm.1, hm.2, he⟩
    · cases h
  · cases h
/-- Where an answer of two sets lies. -/
theorem enter2 {w wa wb wc : World} {s1 : Int} {a1 : Option Addr} {n1 c1 : Nat} {x1 : List Nat} {s2 : Int} {a2 : Option Addr} {n2 c2 : Nat} {x2 : List Nat}
    (hwa : w.alloc (.cells #[.int .i64 s1, .slice a1 n1 c1] 35) = wa) (hwb : wa.alloc (.cells #[.int .i64 s2, .slice a2 n2 c2] 35) = wb) (hwc : wb.alloc (.cells #[.int .i64 0, .slice none 0 0] 35) = wc)
    (h1 : SlW w a1 n1 c1 x1) (h2 : SlW w a2 n2 c2 x2) :
    Facts w wc [fT wb.heap.size (.int .i64 0) (.slice none 0 0), fT wa.heap.size (.int .i64 s2) (.slice a2 n2 c2), fT w.heap.size (.int .i64 s1) (.slice a1 n1 c1), fW a1 n1 c1 x1, fW a2 n2 c2 x2] ∧ w.heap.size < wa.heap.size ∧ wa.heap.size < wb.heap.size ∧ wb.heap.size < wc.heap.size := by
  refine ⟨?_, by rw [← hwa]; simp, by rw [← hwb]; simp, by rw [← hwc]; simp⟩
  have A0 : Facts w w [] := ⟨Below.refl _ _, fun f hf => by cases hf⟩
  have A1 := (A0.add (fW a2 n2 c2 x2) h2).add (fW a1 n1 c1 x1) h1
  have A2 := A1.box (.int .i64 s1) (.slice a1 n1 c1) 35
  rw [hwa] at A2
  have A3 := A2.box (.int .i64 s2) (.slice a2 n2 c2) 35
  rw [hwb] at A3
  have A4 := A3.box (.int .i64 0) (.slice none 0 0) 35
  rw [hwc] at A4
  exact A4
theorem enter2n {w wa wb : World} {s1 : Int} {a1 : Option Addr} {n1 c1 : Nat} {x1 : List Nat} {s2 : Int} {a2 : Option Addr} {n2 c2 : Nat} {x2 : List Nat}
    (hwa : w.alloc (.cells #[.int .i64 s1, .slice a1 n1 c1] 35) = wa) (hwb : wa.alloc (.cells #[.int .i64 s2, .slice a2 n2 c2] 35) = wb)
    (h1 : SlW w a1 n1 c1 x1) (h2 : SlW w a2 n2 c2 x2) :
    Facts w wb [fT wa.heap.size (.int .i64 s2) (.slice a2 n2 c2), fT w.heap.size (.int .i64 s1) (.slice a1 n1 c1), fW a1 n1 c1 x1, fW a2 n2 c2 x2] ∧ w.heap.size < wa.heap.size ∧ wa.heap.size < wb.heap.size := by
  refine ⟨?_, by rw [← hwa]; simp, by rw [← hwb]; simp⟩
  have A0 : Facts w w [] := ⟨Below.refl _ _, fun f hf => by cases hf⟩
  have A1 := (A0.add (fW a2 n2 c2 x2) h2).add (fW a1 n1 c1 x1) h1
  have A2 := A1.box (.int .i64 s1) (.slice a1 n1 c1) 35
  rw [hwa] at A2
  have A3 := A2.box (.int .i64 s2) (.slice a2 n2 c2) 35
  rw [hwb] at A3
  exact A3
theorem enter1r {w wa wb : World} {s1 : Int} {a1 : Option Addr} {n1 c1 : Nat} {x1 : List Nat}
    (hwa : w.alloc (.cells #[.int .i64 s1, .slice a1 n1 c1] 35) = wa) (hwb : wa.alloc (.cells #[.int .i64 0, .slice none 0 0] 35) = wb)
    (h1 : SlW w a1 n1 c1 x1) :
    Facts w wb [fT wa.heap.size (.int .i64 0) (.slice none 0 0), fT w.heap.size (.int .i64 s1) (.slice a1 n1 c1), fW a1 n1 c1 x1] ∧ w.heap.size < wa.heap.size ∧ wa.heap.size < wb.heap.size := by
  refine ⟨?_, by rw [← hwa]; simp, by rw [← hwb]; simp⟩
  have A0 : Facts w w [] := ⟨Below.refl _ _, fun f hf => by cases hf⟩
  have A1 := A0.add (fW a1 n1 c1 x1) h1
  have A2 := A1.box (.int .i64 s1) (.slice a1 n1 c1) 35
  rw [hwa] at A2
  have A3 := A2.box (.int .i64 0) (.slice none 0 0) 35
  rw [hwb] at A3
  exact A3
/-- A row of yes and no that the call has made, behind the world w1. -/
structure Ar (w1 wr : World) (sz : Nat) (g : Nat → Bool) : Prop where
  row : FnB wr w1.heap.size 0 sz g
  bel : Below w1.heap.size w1 wr
  lt : w1.heap.size < wr.heap.size
theorem Ar.made (w1 : World) (sz : Nat) : Ar w1 (w1.alloc (.cells (madeCells #[.bool false] sz) 4)) sz (fun _ => false) :=
  ⟨FnG.made w1 sz 4 false rfl, (Below.refl _ _).alloc (Nat.le_refl _) _, by simp⟩
theorem Ar.step {w1 wr w' : World} {sz : Nat} {g : Nat → Bool} (h : Ar w1 wr sz g) (k : Below wr.heap.size wr w') : Ar w1 w' sz g :=
  ⟨h.row.below k, h.bel.trans (k.mono (Nat.le_of_lt h.lt)), Nat.lt_of_lt_of_le h.lt k.size⟩
theorem Ar.set {w1 wr : World} {sz : Nat} {g : Nat → Bool} (h : Ar w1 wr sz g) (k : Nat) (v : Bool) (hk : k < sz) : Ar w1 (wr.setCell ⟨w1.heap.size, k, none⟩ (.bool v)) sz (fun x => if x = k then v else g x) := by
  refine ⟨?_, h.bel.setCell (p := ⟨w1.heap.size, k, none⟩) (Nat.le_refl _) _, by simpa using h.lt⟩
  have := h.row.set k v hk
  rw [Nat.zero_add] at this
  exact this
theorem Ar.congr {w1 wr : World} {sz : Nat} {g g' : Nat → Bool} (h : Ar w1 wr sz g) (e : ∀ x, x < sz → g x = g' x) : Ar w1 wr sz g' := ⟨h.row.congr e, h.bel, h.lt⟩
theorem Ar.sl {w1 wr : World} {sz : Nat} {g : Nat → Bool} (h : Ar w1 wr sz g) (hs : sz ≤ 4096) : SlB wr (some ⟨w1.heap.size, 0, none⟩) sz sz (lstG g sz) := h.row.sl (Nat.le_refl _) (by unfold maxLen; omega)
/-- One step of the row. -/
theorem Ar.next {w1 wr : World} {sz k : Nat} {G : Nat → Bool} (h : Ar w1 wr sz (fun x => decide (x < k) && G x)) (hk : k < sz) (v : Bool) (hv : v = G k) : Ar w1 (wr.setCell ⟨w1.heap.size, k, none⟩ (.bool v)) sz (fun x => decide (x < k + 1) && G x) :=
  (h.set k v hk).congr fun x _ => by
    by_cases e : x = k
    · subst e; simp [hv]
    · by_cases e2 : x < k
      · simp [e, e2, show x < k + 1 from by omega]
      · simp [e, e2, show ¬ x < k + 1 from by omega]
theorem Ar.cell {w1 wr : World} {sz : Nat} {g : Nat → Bool} (h : Ar w1 wr sz g) {k : Nat} (hk : k < sz) : wr.cell? ⟨w1.heap.size, k, none⟩ = some (.bool (g k)) ∧ wr.frozen? ⟨w1.heap.size, k, none⟩ = false := by
  have := h.row k hk
  rw [Nat.zero_add] at this
  exact this
/-- The set that Of has made of the row is answered. -/
theorem Ar.done {w w1 wr w2 : World} {R sz : Nat} {g P : Nat → Bool} {a : Option Addr} {n c : Nat} (h : Ar w1 wr sz g) (hw : Below w.heap.size w w1) (tR : Two w1 R (.int .i64 0) (.slice none 0 0)) (hR : w.heap.size ≤ R) (hs : SlW w2 a n c (bitsL (lstG g sz))) (hb : Below wr.heap.size wr w2) (hP : ∀ x, x < 64 * nW sz → (decide (x < sz) && g x) = P x) :
    ResS w ((w2.setCell ⟨R, 0, none⟩ (.int .i64 sz)).setCell ⟨R, 1, none⟩ (.slice a n c)) (sz, wordsL sz P, 0) (.returned (.tuple #[.agg #[.int .i64 sz, .slice a n c], .int .i64 0])) := by
  have hwr : Below w.heap.size w wr := hw.trans (h.bel.mono hw.size)
  refine ⟨a, n, c, rfl, ?_, two_below (hwr.trans (hb.mono hwr.size)) R hR _ _⟩
  have e : bitsL (lstG g sz) = wordsL sz P := by
    rw [bits_fn]
    exact wordsL_congr hP
  rw [e] at hs
  exact SlW.two hs ((tR.keep h.bel).keep hb) _ _
end Go.Proofs.YtbendkndnojihabDoor
