/-
  slopelaw3.union, inter: contracts.
-/
import Derived.Test.YtbendkndnojihabBv1
import Derived.Test.YtbendkndnojihabBtu
import Derived.Test.YtbendkndnojihabBt7
import Derived.Test.YtbendkndnojihabBl0
namespace Go.Proofs.Ytbendkndnojihab
open Go.RowKit Go.Deep
set_option linter.unusedVariables false

/-- A set, and whether it was answered. -/
def ResO (w w' : World) (s : Int) (X : List Nat) (e : Ending) : Prop :=
  ∃ a n c, e = .returned (.tuple #[setV s a n c, .bool true]) ∧ SlW w' a n c X ∧ Below w.heap.size w w'

set_option maxHeartbeats 4000000 in
/-- slopelaw3.union, of two sets of a universe. -/
theorem unionL_good (sz : Nat) (a1 : Option Addr) (n1 c1 : Nat) (X1 : List Nat) (P1 : Nat → Bool) (a2 : Option Addr) (n2 c2 : Nat) (X2 : List Nat) (P2 : Nat → Bool) (w : World) (h1 : SlW w a1 n1 c1 X1) (h2 : SlW w a2 n2 c2 X2) (g1 : Good sz X1 P1) (g2 : Good sz X2 P2) (X : List Nat) (hX : wordsL sz (fun x => if false = true then (P1 x && P2 x) else (P1 x || P2 x)) = X) :
    Calls Try.prog 9 #[.int .i64 sz, setV sz a1 n1 c1, setV sz a2 n2 c2] w fun e w' => ResO w w' sz X e := by
  obtain ⟨wa, hwa⟩ : ∃ x, w.alloc (.cells #[.int .i64 (sz : Int), .slice a1 n1 c1] 26) = x := ⟨_, rfl⟩
  obtain ⟨wb, hwb⟩ : ∃ x, wa.alloc (.cells #[.int .i64 (sz : Int), .slice a2 n2 c2] 26) = x := ⟨_, rfl⟩
  obtain ⟨wc, hwc⟩ : ∃ x, wb.alloc (.cells #[.int .i64 0, .slice none 0 0] 26) = x := ⟨_, rfl⟩
  obtain ⟨wd, hwd⟩ : ∃ x, wc.alloc (.cells #[.int .i64 (sz : Int), .slice a1 n1 c1, .int .i64 (sz : Int), .slice a2 n2 c2] 26) = x := ⟨_, rfl⟩
  obtain ⟨A0, hl1, hl2, hl3⟩ := enter2 hwa hwb hwc h1 h2
  have hbd : Below wc.heap.size wc wd := by rw [← hwd]; exact (Below.refl _ _).alloc (Nat.le_refl _) _
  have tA := A0.t w.heap.size (.int .i64 sz) (.slice a1 n1 c1) (by simp)
  have tB := A0.t wa.heap.size (.int .i64 sz) (.slice a2 n2 c2) (by simp)
  have A1 := A0.step hbd
  have hS := two_sets (wb := wc) hwd (A1.w a1 n1 c1 X1 (by simp)) (A1.w a2 n2 c2 X2 (by simp)) g1.ok g2.ok
  have K := union_any sz (some ⟨wc.heap.size, 0, none⟩) 2 2 _ wd hS
  rw [many_good2 g1 g2 false hX] at K
  unfold setV
  have HK := hide K
  have HA := hide A1
  have a0 := tA.c0
  have a1' := tA.c1
  have b0 := tB.c0
  have b1 := tB.c1
  clear K tA tB A0 A1 h1 h2 hbd hS g1 g2 hX
  go_enter Try.func9, Try.ntmps9
  go_wp2_with fail
  refine (unhide HK).mono ?_
  rintro _ we ⟨a3, n3, c3, rfl, hs, hb⟩
  have A2 := ((unhide HA).step hb).add (fW a3 n3 c3 X) hs
  unfold setV
  obtain ⟨wf, hwf⟩ : ∃ x, we.alloc (.cells #[.int .i64 (sz : Int), .slice a3 n3 c3] 26) = x := ⟨_, rfl⟩
  have A3 := A2.box (.int .i64 (sz : Int)) (.slice a3 n3 c3) 26
  rw [hwf] at A3
  have tS := A3.t we.heap.size (.int .i64 (sz : Int)) (.slice a3 n3 c3) (by simp)
  have tR := A3.t wb.heap.size (.int .i64 0) (.slice none 0 0) (by simp)
  have s0 := tS.c0
  have s1 := tS.c1
  have r0 := tR.c0
  have r1 := tR.c1
  have f0 := tR.f0
  have f1 := tR.f1
  have T3 := tR.set (.int .i64 (sz : Int)) (.slice a3 n3 c3)
  have p0 := T3.c0
  have p1 := T3.c1
  have HE := hide (And.intro (SlW.two (A3.w a3 n3 c3 X (by simp)) tR (.int .i64 (sz : Int)) (.slice a3 n3 c3)) (two_below A3.bel wb.heap.size (by omega) (.int .i64 (sz : Int)) (.slice a3 n3 c3)))
  clear tS tR T3 A3 A2 hs hb HK HA a0 a1' b0 b1
  go_wp2_with fail
  go_region_with (
    go_at_call 8
    refine (num_any 0 _).mono ?_
    rintro _ w1 ⟨rfl, rfl⟩)
  all_goals
    go_wp2_with fail
    refine bodyPost_ret (by simp [results, Try.results9, go_sem, p0, p1]; try rfl) rfl ?_
    exact ⟨a3, n3, c3, rfl, (unhide HE).1.below (Below.refl _ _).drew, (unhide HE).2.drew⟩

set_option maxHeartbeats 4000000 in
/-- slopelaw3.inter, of two sets of a universe. -/
theorem interL_good (sz : Nat) (a1 : Option Addr) (n1 c1 : Nat) (X1 : List Nat) (P1 : Nat → Bool) (a2 : Option Addr) (n2 c2 : Nat) (X2 : List Nat) (P2 : Nat → Bool) (w : World) (h1 : SlW w a1 n1 c1 X1) (h2 : SlW w a2 n2 c2 X2) (g1 : Good sz X1 P1) (g2 : Good sz X2 P2) (X : List Nat) (hX : wordsL sz (fun x => if true = true then (P1 x && P2 x) else (P1 x || P2 x)) = X) :
    Calls Try.prog 11 #[.int .i64 sz, setV sz a1 n1 c1, setV sz a2 n2 c2] w fun e w' => ResO w w' sz X e := by
  obtain ⟨wa, hwa⟩ : ∃ x, w.alloc (.cells #[.int .i64 (sz : Int), .slice a1 n1 c1] 26) = x := ⟨_, rfl⟩
  obtain ⟨wb, hwb⟩ : ∃ x, wa.alloc (.cells #[.int .i64 (sz : Int), .slice a2 n2 c2] 26) = x := ⟨_, rfl⟩
  obtain ⟨wc, hwc⟩ : ∃ x, wb.alloc (.cells #[.int .i64 0, .slice none 0 0] 26) = x := ⟨_, rfl⟩
  obtain ⟨wd, hwd⟩ : ∃ x, wc.alloc (.cells #[.int .i64 (sz : Int), .slice a1 n1 c1, .int .i64 (sz : Int), .slice a2 n2 c2] 26) = x := ⟨_, rfl⟩
  obtain ⟨A0, hl1, hl2, hl3⟩ := enter2 hwa hwb hwc h1 h2
  have hbd : Below wc.heap.size wc wd := by rw [← hwd]; exact (Below.refl _ _).alloc (Nat.le_refl _) _
  have tA := A0.t w.heap.size (.int .i64 sz) (.slice a1 n1 c1) (by simp)
  have tB := A0.t wa.heap.size (.int .i64 sz) (.slice a2 n2 c2) (by simp)
  have A1 := A0.step hbd
  have hS := two_sets (wb := wc) hwd (A1.w a1 n1 c1 X1 (by simp)) (A1.w a2 n2 c2 X2 (by simp)) g1.ok g2.ok
  have K := inter_any sz (some ⟨wc.heap.size, 0, none⟩) 2 2 _ wd hS
  rw [many_good2 g1 g2 true hX] at K
  unfold setV
  have HK := hide K
  have HA := hide A1
  have a0 := tA.c0
  have a1' := tA.c1
  have b0 := tB.c0
  have b1 := tB.c1
  clear K tA tB A0 A1 h1 h2 hbd hS g1 g2 hX
  go_enter Try.func11, Try.ntmps11
  go_wp2_with fail
  refine (unhide HK).mono ?_
  rintro _ we ⟨a3, n3, c3, rfl, hs, hb⟩
  have A2 := ((unhide HA).step hb).add (fW a3 n3 c3 X) hs
  unfold setV
  obtain ⟨wf, hwf⟩ : ∃ x, we.alloc (.cells #[.int .i64 (sz : Int), .slice a3 n3 c3] 26) = x := ⟨_, rfl⟩
  have A3 := A2.box (.int .i64 (sz : Int)) (.slice a3 n3 c3) 26
  rw [hwf] at A3
  have tS := A3.t we.heap.size (.int .i64 (sz : Int)) (.slice a3 n3 c3) (by simp)
  have tR := A3.t wb.heap.size (.int .i64 0) (.slice none 0 0) (by simp)
  have s0 := tS.c0
  have s1 := tS.c1
  have r0 := tR.c0
  have r1 := tR.c1
  have f0 := tR.f0
  have f1 := tR.f1
  have T3 := tR.set (.int .i64 (sz : Int)) (.slice a3 n3 c3)
  have p0 := T3.c0
  have p1 := T3.c1
  have HE := hide (And.intro (SlW.two (A3.w a3 n3 c3 X (by simp)) tR (.int .i64 (sz : Int)) (.slice a3 n3 c3)) (two_below A3.bel wb.heap.size (by omega) (.int .i64 (sz : Int)) (.slice a3 n3 c3)))
  clear tS tR T3 A3 A2 hs hb HK HA a0 a1' b0 b1
  go_wp2_with fail
  go_region_with (
    go_at_call 8
    refine (num_any 0 _).mono ?_
    rintro _ w1 ⟨rfl, rfl⟩)
  all_goals
    go_wp2_with fail
    refine bodyPost_ret (by simp [results, Try.results11, go_sem, p0, p1]; try rfl) rfl ?_
    exact ⟨a3, n3, c3, rfl, (unhide HE).1.below (Below.refl _ _).drew, (unhide HE).2.drew⟩

theorem three_sets {wb wc : World} {s : Int} {a1 : Option Addr} {n1 c1 : Nat} {x1 : List Nat} {a2 : Option Addr} {n2 c2 : Nat} {x2 : List Nat} {a3 : Option Addr} {n3 c3 : Nat} {x3 : List Nat}
    (hwc : wb.alloc (.cells #[.int .i64 s, .slice a1 n1 c1, .int .i64 s, .slice a2 n2 c2, .int .i64 s, .slice a3 n3 c3] 26) = wc) (h1 : SlW wc a1 n1 c1 x1) (h2 : SlW wc a2 n2 c2 x2) (h3 : SlW wc a3 n3 c3 x3) (o1 : OkW x1) (o2 : OkW x2) (o3 : OkW x3) :
    SlS wc (some ⟨wb.heap.size, 0, none⟩) 3 3 [⟨s, a1, n1, c1, x1⟩, ⟨s, a2, n2, c2, x2⟩, ⟨s, a3, n3, c3, x3⟩] := by
  refine ⟨rfl, Nat.le_refl _, by unfold maxLen; omega, .inr ⟨_, _, rfl, ?_⟩, ?_⟩
  · intro i hi
    have hi2 : i < 3 := hi
    match i, hi2 with
    | 0, _ => rw [← hwc]; exact ⟨by simp, by simp⟩
    | 1, _ => rw [← hwc]; exact ⟨by simp, by simp⟩
    | 2, _ => rw [← hwc]; exact ⟨by simp, by simp⟩
  · intro e he
    rcases List.mem_cons.1 he with rfl | he
    · exact ⟨h1, o1⟩
    · rcases List.mem_cons.1 he with rfl | he
      · exact ⟨h2, o2⟩
      · rcases List.mem_cons.1 he with rfl | he
        · exact ⟨h3, o3⟩
        · cases he
end Go.Proofs.Ytbendkndnojihab
