/-
  slopelaw1.alive: its contract.
-/
import Derived.Test.YtpnhmaenmmelnaaNMul
import Derived.Test.YtpnhmaenmmelnaaLawSt
namespace Go.Proofs.Ytpnhmaenmmelnaa
open Go.RowKit Go.Deep
set_option linter.unusedVariables false

theorem rep_top : Rep 4294967295 [4294967295] := ⟨Ok.cons (by decide) Ok.nil, .inr (by decide), by simp [val]⟩
theorem rep_sq : Rep 18446744065119617025 [1, 4294967294] := ⟨Ok.cons (by decide) (Ok.cons (by decide) Ok.nil), .inr (by decide), by simp [val]⟩
theorem mul_top : mulL [4294967295] [4294967295] = ([1, 4294967294], 0) := by
  have m : MayL [4294967295] = true := by decide
  have e : val [4294967295] * val [4294967295] = 18446744065119617025 := by simp [val]
  unfold mulL
  rw [m, e]
  simp only [Bool.and_self, if_true]
  rw [fitL_ok (by rw [← rep_sq.eq]; decide), ← rep_sq.eq]
theorem mul_bad : mulL [4294967295] [1, 0] = ([], 20) := by
  have m : MayL [1, 0] = false := by decide
  unfold mulL
  rw [m]
  simp

set_option maxHeartbeats 2000000 in
/-- slopelaw1.alive. -/
theorem alive_any (w : World) : Calls Try.prog 17 #[] w fun e w' => e = .returned (.bool true) ∧ Below w.heap.size w w' := by
  have K1 := hide (from_any 4294967295 w (by decide))
  go_enter Try.func17, Try.ntmps17
  go_wp2_with fail
  refine (unhide K1).mono ?_
  rintro e w1 ⟨a1, m1, ys, rfl, hs, hr, ha, hb⟩
  have e1 : ys = [4294967295] := hr.unique rep_top
  subst e1
  have hl := hs.len
  simp at hl
  subst hl
  have ok1 : Ok [4294967295] := hr.ok
  have K2 := nmul_small a1 a1 1 1 1 1 _ _ w1 hs hs ok1 ok1 (by decide) (by decide)
  rw [mul_top] at K2
  have K2' := hide K2
  have HS := hide hs
  have HB := hide hb
  clear K1 K2 hr ha hs hb
  go_wp2_with fail
  refine (unhide K2').mono ?_
  rintro e w2 ⟨a2, m2, c2, rfl, hs2, hn2, hb2⟩
  have hs1 : Sl w2 a1 1 1 [4294967295] := (unhide HS).below hb2
  have bel3 : Below w2.heap.size w2 (w2.alloc (.cells #[.int .u32 1, .int .u32 0] 84)) := (Below.refl _ _).alloc (Nat.le_refl _) _
  have K3 := nmul_small a1 (some ⟨w2.heap.size, 0, none⟩) 1 1 2 2 _ _ _ (hs1.below bel3) (two_sl w2 1 0 84) ok1 (Ok.cons (by decide) (Ok.cons (by decide) Ok.nil)) (by decide) (by decide)
  rw [mul_bad] at K3
  have K3' := hide K3
  have HB2 := hide ((unhide HB).trans ((hb2.trans (bel3.mono hb2.size)).mono (unhide HB).size))
  have HP := hide (hs2.below bel3)
  clear K2' K3 HS HB hs2 hn2 hb2 hs1 bel3 ok1
  go_wp2_with fail
  refine (unhide K3').mono ?_
  rintro e w3 ⟨a3, m3, c3, rfl, hs3, hn3, hb3⟩
  have hp3 : Sl w3 a2 m2 c2 [1, 4294967294] := (unhide HP).below hb3
  have bel4 : Below w3.heap.size w3 (w3.alloc (.cells #[.int .u32 1, .int .u32 4294967294] 84)) := (Below.refl _ _).alloc (Nat.le_refl _) _
  have K5 := same_any a2 (some ⟨w3.heap.size, 0, none⟩) m2 c2 2 2 _ _ _ (hp3.below bel4) (two_sl w3 1 4294967294 84)
  rw [show decide ([1, 4294967294] = [1, 4294967294]) = true from by simp] at K5
  have K5' := hide K5
  have HB3 := hide ((unhide HB2).trans ((hb3.trans (bel4.mono hb3.size)).mono (unhide HB2).size))
  clear K3' K5 HB2 HP hs3 hn3 hb3 hp3 bel4
  go_wp2_with fail
  refine (num_any _ _).mono ?_
  rintro e w' ⟨rfl, hw⟩
  obtain rfl := hw.symm
  go_wp2_with fail
  refine (unhide K5').mono ?_
  rintro e w' ⟨rfl, k, rfl⟩
  go_wp2_with fail
  refine (num_any _ _).mono ?_
  rintro e w' ⟨rfl, hw⟩
  obtain rfl := hw.symm
  go_wp2
  go_ret
  exact ⟨rfl, bel_drewN (unhide HB3) k⟩
end Go.Proofs.Ytpnhmaenmmelnaa
