/-
  bitset.Union, Inter: contracts.
-/
import Derived.Test.YtbendkndnojihaaBtg0
import Derived.Test.YtbendkndnojihaaBtp
import Derived.Test.YtbendkndnojihaaBtq
import Derived.Test.YtbendkndnojihaaBtt
namespace Go.Proofs.Ytbendkndnojihaa
open Go.RowKit Go.Deep
set_option linter.unusedVariables false

theorem fold_or (p : SetC → Bool) : ∀ (L : List SetC) (a : Bool), L.foldl (fun acc e => op_or acc (p e)) a = (a || L.any p)
  | [], a => by simp
  | e :: L, a => by rw [List.foldl_cons, fold_or p L, List.any_cons]; unfold op_or; rw [Bool.or_assoc]
theorem fold_and (p : SetC → Bool) : ∀ (L : List SetC) (a : Bool), L.foldl (fun acc e => op_and acc (p e)) a = (a && L.all p)
  | [], a => by simp
  | e :: L, a => by rw [List.foldl_cons, fold_and p L, List.all_cons]; unfold op_and; rw [Bool.and_assoc]
theorem joined_or_many (size : Int) (L : List SetC) : joinedR op_or false size L = manyR size L false := by
  unfold joinedR manyR
  by_cases h : alikeE size L = 0
  · simp only [if_pos h]
    congr 2
    obtain ⟨h1, h2⟩ := alike_zero h
    apply wordsL_congr
    intro x hx
    have e : PJ op_or false size.toNat L x = L.any (hasS x) := by
      unfold PJ
      rw [show (fun (acc : Bool) (e : SetC) => op_or acc (hasB (fun i => e.xs.getD i 0) x)) = (fun acc e => op_or acc (hasS x e)) from rfl, fold_or]
      simp
    rw [e]
    simp only [manyB]
    by_cases hs : x < size.toNat
    · simp [hs]
    · have : L.any (hasS x) = false := by
        rw [List.any_eq_false]
        intro y hy hh
        obtain ⟨m1, m2⟩ := h2 y hy
        have hz := MayS.zero m1 x (by rw [m2]; omega) (by rw [MayS.len m1, m2]; exact hx)
        unfold hasS at hh
        rw [hz] at hh
        cases hh
      rw [this]; simp
  · simp only [if_neg h]
theorem joined_and_many (size : Int) (L : List SetC) : joinedR op_and true size L = manyR size L true := by
  unfold joinedR manyR
  by_cases h : alikeE size L = 0
  · simp only [if_pos h]
    congr 2
    apply wordsL_congr
    intro x hx
    unfold PJ
    rw [show (fun (acc : Bool) (e : SetC) => op_and acc (hasB (fun i => e.xs.getD i 0) x)) = (fun acc e => op_and acc (hasS x e)) from rfl, fold_and]
    simp [manyB]
  · simp only [if_neg h]

set_option maxHeartbeats 2000000 in
/-- bitset.Union. -/
theorem union_any (size : Int) (a : Option Addr) (n c : Nat) (L : List SetC) (w : World) (h : SlS w a n c L) :
    Calls Try.prog 35 #[.int .i64 size, .slice a n c] w fun r w' => ResS w w' (manyR size L false) r := by
  obtain ⟨wa, hwa⟩ : ∃ wa, w.alloc (.cells #[.int .i64 0, .slice none 0 0] 24) = wa := ⟨_, rfl⟩
  have tR : Two wa w.heap.size (.int .i64 0) (.slice none 0 0) := by rw [← hwa]; exact Two.made _ _ _ _
  have hB : Below w.heap.size w wa := by rw [← hwa]; exact (Below.refl _ _).alloc (Nat.le_refl _) _
  have K := joined_or size a n c L wa (h.below hB)
  rw [joined_or_many] at K
  generalize manyR size L false = rr at *
  obtain ⟨rs, rx, re⟩ := rr
  have HK := hide K
  have HR := hide (And.intro tR hB)
  have hlt := tR.lt
  clear K tR hB h
  go_enter Try.func35, Try.ntmps35
  go_wp2_with fail
  refine (unhide HK).mono ?_
  rintro _ w1 ⟨a1, n1, c1, rfl, hs, hb⟩
  have tR := (unhide HR).1.keep hb
  have r0 := tR.c0
  have r1 := tR.c1
  have f0 := tR.f0
  have f1 := tR.f1
  have T3 := tR.set (.int .i64 rs) (.slice a1 n1 c1)
  have p0 := T3.c0
  have p1 := T3.c1
  have HE := hide (And.intro (SlW.two hs tR (.int .i64 rs) (.slice a1 n1 c1)) (two_below ((unhide HR).2.trans (hb.mono (by omega))) w.heap.size (Nat.le_refl _) (.int .i64 rs) (.slice a1 n1 c1)))
  clear tR T3 hs hb HK
  unfold setV
  go_wp2_with fail
  refine bodyPost_ret (by simp [results, Try.results35, go_sem, p0, p1]; try rfl) rfl ?_
  exact ⟨a1, n1, c1, rfl, (unhide HE).1, (unhide HE).2⟩

set_option maxHeartbeats 2000000 in
/-- bitset.Inter. -/
theorem inter_any (size : Int) (a : Option Addr) (n c : Nat) (L : List SetC) (w : World) (h : SlS w a n c L) :
    Calls Try.prog 37 #[.int .i64 size, .slice a n c] w fun r w' => ResS w w' (manyR size L true) r := by
  obtain ⟨wa, hwa⟩ : ∃ wa, w.alloc (.cells #[.int .i64 0, .slice none 0 0] 24) = wa := ⟨_, rfl⟩
  have tR : Two wa w.heap.size (.int .i64 0) (.slice none 0 0) := by rw [← hwa]; exact Two.made _ _ _ _
  have hB : Below w.heap.size w wa := by rw [← hwa]; exact (Below.refl _ _).alloc (Nat.le_refl _) _
  have K := joined_and size a n c L wa (h.below hB)
  rw [joined_and_many] at K
  generalize manyR size L true = rr at *
  obtain ⟨rs, rx, re⟩ := rr
  have HK := hide K
  have HR := hide (And.intro tR hB)
  have hlt := tR.lt
  clear K tR hB h
  go_enter Try.func37, Try.ntmps37
  go_wp2_with fail
  refine (unhide HK).mono ?_
  rintro _ w1 ⟨a1, n1, c1, rfl, hs, hb⟩
  have tR := (unhide HR).1.keep hb
  have r0 := tR.c0
  have r1 := tR.c1
  have f0 := tR.f0
  have f1 := tR.f1
  have T3 := tR.set (.int .i64 rs) (.slice a1 n1 c1)
  have p0 := T3.c0
  have p1 := T3.c1
  have HE := hide (And.intro (SlW.two hs tR (.int .i64 rs) (.slice a1 n1 c1)) (two_below ((unhide HR).2.trans (hb.mono (by omega))) w.heap.size (Nat.le_refl _) (.int .i64 rs) (.slice a1 n1 c1)))
  clear tR T3 hs hb HK
  unfold setV
  go_wp2_with fail
  refine bodyPost_ret (by simp [results, Try.results37, go_sem, p0, p1]; try rfl) rfl ?_
  exact ⟨a1, n1, c1, rfl, (unhide HE).1, (unhide HE).2⟩

end Go.Proofs.Ytbendkndnojihaa
