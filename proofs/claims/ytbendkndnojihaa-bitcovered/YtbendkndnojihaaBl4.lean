/-
  bitset.Equal, Subset, Disjoint: contracts.
-/
import Derived.Test.YtbendkndnojihaaBl1
import Derived.Test.YtbendkndnojihaaBl2
import Derived.Test.YtbendkndnojihaaBl3
namespace Go.Proofs.Ytbendkndnojihaa
open Go.RowKit Go.Deep
set_option linter.unusedVariables false

set_option maxHeartbeats 2000000 in
/-- bitset.Equal. -/
theorem equal_any (s1 : Int) (a1 : Option Addr) (n1 c1 : Nat) (x1 : List Nat) (s2 : Int) (a2 : Option Addr) (n2 c2 : Nat) (x2 : List Nat) (w : World) (h1 : SlW w a1 n1 c1 x1) (h2 : SlW w a2 n2 c2 x2) (o1 : OkW x1) (o2 : OkW x2) :
    Calls Try.prog 33 #[setV s1 a1 n1 c1, setV s2 a2 n2 c2] w fun r w' => r = .returned (.bool (leavesR jXor s1 x1 s2 x2)) ∧ Below w.heap.size w w' := by
  obtain ⟨wa, hwa⟩ : ∃ x, w.alloc (.cells #[.int .i64 s1, .slice a1 n1 c1] 24) = x := ⟨_, rfl⟩
  obtain ⟨wb, hwb⟩ : ∃ x, wa.alloc (.cells #[.int .i64 s2, .slice a2 n2 c2] 24) = x := ⟨_, rfl⟩
  have hba : Below w.heap.size w wa := by rw [← hwa]; exact (Below.refl _ _).alloc (Nat.le_refl _) _
  have hbb : Below wa.heap.size wa wb := by rw [← hwb]; exact (Below.refl _ _).alloc (Nat.le_refl _) _
  have tA : Two wb w.heap.size (.int .i64 s1) (.slice a1 n1 c1) := Two.keep (w := wa) (by rw [← hwa]; exact Two.made _ _ _ _) hbb
  have tB : Two wb wa.heap.size (.int .i64 s2) (.slice a2 n2 c2) := by rw [← hwb]; exact Two.made _ _ _ _
  have hB := hba.trans (hbb.mono hba.size)
  have K := leaves_xor s1 a1 n1 c1 x1 s2 a2 n2 c2 x2 wb (h1.below hB) (h2.below hB) o1 o2
  generalize leavesR jXor s1 x1 s2 x2 = r at *
  unfold setV at K ⊢
  have HK := hide K
  have HB := hide hB
  have t0 := tA.c0
  have t1 := tA.c1
  have u0 := tB.c0
  have u1 := tB.c1
  clear K hB tA tB h1 h2 o1 o2 hba hbb
  go_enter Try.func33, Try.ntmps33
  go_wp2_with fail
  refine (unhide HK).mono ?_
  rintro _ w1 ⟨rfl, hb⟩
  have HB1 := hide ((unhide HB).trans (hb.mono (unhide HB).size))
  clear hb HK
  go_wp2_with fail
  go_ret
  exact ⟨rfl, unhide HB1⟩
set_option maxHeartbeats 2000000 in
/-- bitset.Subset. -/
theorem subset_any (s1 : Int) (a1 : Option Addr) (n1 c1 : Nat) (x1 : List Nat) (s2 : Int) (a2 : Option Addr) (n2 c2 : Nat) (x2 : List Nat) (w : World) (h1 : SlW w a1 n1 c1 x1) (h2 : SlW w a2 n2 c2 x2) (o1 : OkW x1) (o2 : OkW x2) :
    Calls Try.prog 34 #[setV s1 a1 n1 c1, setV s2 a2 n2 c2] w fun r w' => r = .returned (.bool (leavesR jAndNot s1 x1 s2 x2)) ∧ Below w.heap.size w w' := by
  obtain ⟨wa, hwa⟩ : ∃ x, w.alloc (.cells #[.int .i64 s1, .slice a1 n1 c1] 24) = x := ⟨_, rfl⟩
  obtain ⟨wb, hwb⟩ : ∃ x, wa.alloc (.cells #[.int .i64 s2, .slice a2 n2 c2] 24) = x := ⟨_, rfl⟩
  have hba : Below w.heap.size w wa := by rw [← hwa]; exact (Below.refl _ _).alloc (Nat.le_refl _) _
  have hbb : Below wa.heap.size wa wb := by rw [← hwb]; exact (Below.refl _ _).alloc (Nat.le_refl _) _
  have tA : Two wb w.heap.size (.int .i64 s1) (.slice a1 n1 c1) := Two.keep (w := wa) (by rw [← hwa]; exact Two.made _ _ _ _) hbb
  have tB : Two wb wa.heap.size (.int .i64 s2) (.slice a2 n2 c2) := by rw [← hwb]; exact Two.made _ _ _ _
  have hB := hba.trans (hbb.mono hba.size)
  have K := leaves_andNot s1 a1 n1 c1 x1 s2 a2 n2 c2 x2 wb (h1.below hB) (h2.below hB) o1 o2
  generalize leavesR jAndNot s1 x1 s2 x2 = r at *
  unfold setV at K ⊢
  have HK := hide K
  have HB := hide hB
  have t0 := tA.c0
  have t1 := tA.c1
  have u0 := tB.c0
  have u1 := tB.c1
  clear K hB tA tB h1 h2 o1 o2 hba hbb
  go_enter Try.func34, Try.ntmps34
  go_wp2_with fail
  refine (unhide HK).mono ?_
  rintro _ w1 ⟨rfl, hb⟩
  have HB1 := hide ((unhide HB).trans (hb.mono (unhide HB).size))
  clear hb HK
  go_wp2_with fail
  go_ret
  exact ⟨rfl, unhide HB1⟩
end Go.Proofs.Ytbendkndnojihaa
