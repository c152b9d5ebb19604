/-
  natural.Sub, Diff: contracts.
-/
import Derived.Test.YtokgcpnnbajlkaaAdd
namespace Go.Proofs.Ytokgcpnnbajlkaa
open Go.RowKit Go.Deep
set_option linter.unusedVariables false

def diffL (xs ys : List Nat) : List Nat × Bool × Int := if MayL xs && MayL ys then (if val xs < val ys then (limbs (val ys - val xs), true, 0) else (limbs (val xs - val ys), false, 0)) else ([], false, 20)

/-- What a call with three results answers. -/
def Res3 (w w' : World) (r : List Nat × Bool × Int) (e : Ending) : Prop :=
  ∃ a m c, e = .returned (.tuple #[.slice a m c, .bool r.2.1, .int .i64 r.2.2]) ∧ Sl w' a m c r.1 ∧ NewAt w.heap.size a ∧ Below w.heap.size w w'

set_option maxHeartbeats 2000000 in
/-- natural.Sub. -/
theorem nsub_any (a1 a2 : Option Addr) (n1 c1 n2 c2 : Nat) (xs ys : List Nat) (w : World) (h1 : Sl w a1 n1 c1 xs) (h2 : Sl w a2 n2 c2 ys) (ox : Ok xs) (oy : Ok ys) :
    Calls Try.prog 25 #[.slice a1 n1 c1, .slice a2 n2 c2] w fun e w' => Res2 w w' (subL xs ys) e := by
  have K1 := may_any a1 n1 c1 xs w h1
  have K2 := may_any a2 n2 c2 ys w h2
  by_cases m1 : MayL xs = true
  · by_cases m2 : MayL ys = true
    · rw [m1] at K1; rw [m2] at K2
      have K1' := hide K1
      have K2' := hide K2
      have nx := MayL.norm m1
      have ny := MayL.norm m2
      have hl1 : n1 ≤ 2048 := by have := h1.len; have := MayL.len m1; omega
      have hl2 : n2 ≤ 2048 := by have := h2.len; have := MayL.len m2; omega
      by_cases hlt : val xs < val ys
      · have HC := hide (show subL xs ys = ([], 21) from by simp [subL, m1, m2, hlt])
        have KC := compare_any a1 a2 n1 c1 n2 c2 xs ys w h1 h2 ox oy nx ny
        rw [cmpN_lt hlt] at KC
        have KC' := hide KC
        clear KC K1 K2 m1 m2 h1 h2 ox oy nx ny hlt
        go_enter Try.func25, Try.ntmps25
        go_wp2_with fail
        refine (unhide K1').mono ?_
        rintro e w' ⟨rfl, hw⟩
        obtain rfl := hw.symm
        go_wp2_with fail
        refine (unhide K2').mono ?_
        rintro e w' ⟨rfl, hw⟩
        obtain rfl := hw.symm
        go_wp2_with fail
        refine (unhide KC').mono ?_
        rintro e w' ⟨rfl, k, rfl⟩
        go_wp2
        go_ret2
        rw [unhide HC]
        exact ⟨none, 0, 0, rfl, sl_nil _, newAt_nil _, bel_drewN (Below.refl _ _) k⟩
      · have HC := hide (show subL xs ys = (limbs (val xs - val ys), 0) from by simp [subL, m1, m2, hlt])
        have hle : n2 ≤ n1 := by
          rcases Nat.lt_or_ge n1 n2 with h | h
          · exact absurd (len_lt_val ox ny (by rw [h1.len, h2.len]; exact h)) hlt
          · exact h
        have KC := compare_any a1 a2 n1 c1 n2 c2 xs ys w h1 h2 ox oy nx ny
        have hge : ¬ cmpN (val xs) (val ys) < 0 := by unfold cmpN; rw [if_neg hlt]; split <;> omega
        have KS := fun k => subtract_any a1 a2 n1 c1 n2 c2 xs ys (w.drewN k) (h1.drewN k) (h2.drewN k) ox oy (by omega) (by omega) (by omega) hle
        generalize cmpN (val xs) (val ys) = cc at KC hge
        have KC' := hide KC
        have KS' := hide KS
        clear KC KS K1 K2 m1 m2 h1 h2 ox oy nx ny hlt hle
        go_enter Try.func25, Try.ntmps25
        go_wp2_with fail
        refine (unhide K1').mono ?_
        rintro e w' ⟨rfl, hw⟩
        obtain rfl := hw.symm
        go_wp2_with fail
        refine (unhide K2').mono ?_
        rintro e w' ⟨rfl, hw⟩
        obtain rfl := hw.symm
        go_wp2_with fail
        refine (unhide KC').mono ?_
        rintro e w' ⟨rfl, k, rfl⟩
        go_wp2_with fail
        refine (unhide KS' k).mono ?_
        rintro e w1 ⟨a', m, zs, rfl, hs, hr, ha, hb⟩
        have HR := hide (And.intro hs (And.intro hr (And.intro ha hb)))
        clear hs hr ha hb
        go_wp2
        go_ret2
        rw [unhide HC, ← (unhide HR).2.1.eq]
        exact ⟨a', m, m, rfl, (unhide HR).1, (unhide HR).2.2.1, (bel_drewN (Below.refl _ _) k).trans (unhide HR).2.2.2⟩
    · have m2' : MayL ys = false := by simpa using m2
      rw [m1] at K1; rw [m2'] at K2
      have K1' := hide K1
      have K2' := hide K2
      have HC := hide (show subL xs ys = ([], 20) from by simp [subL, m2'])
      clear K1 K2 m1 m2 m2' h1 h2 ox oy
      go_enter Try.func25, Try.ntmps25
      go_wp2_with fail
      refine (unhide K1').mono ?_
      rintro e w' ⟨rfl, hw⟩
      obtain rfl := hw.symm
      go_wp2_with fail
      refine (unhide K2').mono ?_
      rintro e w' ⟨rfl, hw⟩
      obtain rfl := hw.symm
      go_wp2
      go_ret2
      rw [unhide HC]
      exact ⟨none, 0, 0, rfl, sl_nil _, newAt_nil _, Below.refl _ _⟩
  · have m1' : MayL xs = false := by simpa using m1
    rw [m1'] at K1
    have K1' := hide K1
    have HC := hide (show subL xs ys = ([], 20) from by simp [subL, m1'])
    clear K1 K2 m1 m1' h1 h2 ox oy
    go_enter Try.func25, Try.ntmps25
    go_wp2_with fail
    refine (unhide K1').mono ?_
    rintro e w' ⟨rfl, hw⟩
    obtain rfl := hw.symm
    go_wp2
    go_ret2
    rw [unhide HC]
    exact ⟨none, 0, 0, rfl, sl_nil _, newAt_nil _, Below.refl _ _⟩

set_option maxHeartbeats 2000000 in
/-- natural.Diff. -/
theorem ndiff_any (a1 a2 : Option Addr) (n1 c1 n2 c2 : Nat) (xs ys : List Nat) (w : World) (h1 : Sl w a1 n1 c1 xs) (h2 : Sl w a2 n2 c2 ys) (ox : Ok xs) (oy : Ok ys) :
    Calls Try.prog 27 #[.slice a1 n1 c1, .slice a2 n2 c2] w fun e w' => Res3 w w' (diffL xs ys) e := by
  have K1 := may_any a1 n1 c1 xs w h1
  have K2 := may_any a2 n2 c2 ys w h2
  by_cases m1 : MayL xs = true
  · by_cases m2 : MayL ys = true
    · rw [m1] at K1; rw [m2] at K2
      have K1' := hide K1
      have K2' := hide K2
      have nx := MayL.norm m1
      have ny := MayL.norm m2
      have hl1 : n1 ≤ 2048 := by have := h1.len; have := MayL.len m1; omega
      have hl2 : n2 ≤ 2048 := by have := h2.len; have := MayL.len m2; omega
      by_cases hlt : val xs < val ys
      · have HC := hide (show diffL xs ys = (limbs (val ys - val xs), true, 0) from by simp [diffL, m1, m2, hlt])
        have hle : n1 ≤ n2 := by
          rcases Nat.lt_or_ge n2 n1 with h | h
          · have := len_lt_val oy nx (show ys.length < xs.length by rw [h1.len, h2.len]; exact h)
            omega
          · exact h
        have KC := compare_any a1 a2 n1 c1 n2 c2 xs ys w h1 h2 ox oy nx ny
        have hge : cmpN (val xs) (val ys) < 0 := by rw [cmpN_lt hlt]; decide
        have KS := fun k => subtract_any a2 a1 n2 c2 n1 c1 ys xs (w.drewN k) (h2.drewN k) (h1.drewN k) oy ox (by omega) (by omega) (by omega) hle
        generalize cmpN (val xs) (val ys) = cc at KC hge
        have KC' := hide KC
        have KS' := hide KS
        clear KC KS K1 K2 m1 m2 h1 h2 ox oy nx ny hlt hle
        go_enter Try.func27, Try.ntmps27
        go_wp2_with fail
        refine (unhide K1').mono ?_
        rintro e w' ⟨rfl, hw⟩
        obtain rfl := hw.symm
        go_wp2_with fail
        refine (unhide K2').mono ?_
        rintro e w' ⟨rfl, hw⟩
        obtain rfl := hw.symm
        go_wp2_with fail
        refine (unhide KC').mono ?_
        rintro e w' ⟨rfl, k, rfl⟩
        go_wp2_with fail
        refine (unhide KS' k).mono ?_
        rintro e w1 ⟨a', m, zs, rfl, hs, hr, ha, hb⟩
        have HR := hide (And.intro hs (And.intro hr (And.intro ha hb)))
        clear hs hr ha hb
        go_wp2
        go_ret3
        rw [unhide HC, ← (unhide HR).2.1.eq]
        exact ⟨a', m, m, rfl, (unhide HR).1, (unhide HR).2.2.1, (bel_drewN (Below.refl _ _) k).trans (unhide HR).2.2.2⟩
      · have HC := hide (show diffL xs ys = (limbs (val xs - val ys), false, 0) from by simp [diffL, m1, m2, hlt])
        have hle : n2 ≤ n1 := by
          rcases Nat.lt_or_ge n1 n2 with h | h
          · have := len_lt_val ox ny (show xs.length < ys.length by rw [h1.len, h2.len]; exact h)
            omega
          · exact h
        have KC := compare_any a1 a2 n1 c1 n2 c2 xs ys w h1 h2 ox oy nx ny
        have hge : ¬ cmpN (val xs) (val ys) < 0 := by unfold cmpN; rw [if_neg hlt]; split <;> omega
        have KS := fun k => subtract_any a1 a2 n1 c1 n2 c2 xs ys (w.drewN k) (h1.drewN k) (h2.drewN k) ox oy (by omega) (by omega) (by omega) hle
        generalize cmpN (val xs) (val ys) = cc at KC hge
        have KC' := hide KC
        have KS' := hide KS
        clear KC KS K1 K2 m1 m2 h1 h2 ox oy nx ny hlt hle
        go_enter Try.func27, Try.ntmps27
        go_wp2_with fail
        refine (unhide K1').mono ?_
        rintro e w' ⟨rfl, hw⟩
        obtain rfl := hw.symm
        go_wp2_with fail
        refine (unhide K2').mono ?_
        rintro e w' ⟨rfl, hw⟩
        obtain rfl := hw.symm
        go_wp2_with fail
        refine (unhide KC').mono ?_
        rintro e w' ⟨rfl, k, rfl⟩
        go_wp2_with fail
        refine (unhide KS' k).mono ?_
        rintro e w1 ⟨a', m, zs, rfl, hs, hr, ha, hb⟩
        have HR := hide (And.intro hs (And.intro hr (And.intro ha hb)))
        clear hs hr ha hb
        go_wp2
        go_ret3
        rw [unhide HC, ← (unhide HR).2.1.eq]
        exact ⟨a', m, m, rfl, (unhide HR).1, (unhide HR).2.2.1, (bel_drewN (Below.refl _ _) k).trans (unhide HR).2.2.2⟩
    · have m2' : MayL ys = false := by simpa using m2
      rw [m1] at K1; rw [m2'] at K2
      have K1' := hide K1
      have K2' := hide K2
      have HC := hide (show diffL xs ys = ([], false, 20) from by simp [diffL, m2'])
      clear K1 K2 m1 m2 m2' h1 h2 ox oy
      go_enter Try.func27, Try.ntmps27
      go_wp2_with fail
      refine (unhide K1').mono ?_
      rintro e w' ⟨rfl, hw⟩
      obtain rfl := hw.symm
      go_wp2_with fail
      refine (unhide K2').mono ?_
      rintro e w' ⟨rfl, hw⟩
      obtain rfl := hw.symm
      go_wp2
      go_ret3
      rw [unhide HC]
      exact ⟨none, 0, 0, rfl, sl_nil _, newAt_nil _, Below.refl _ _⟩
  · have m1' : MayL xs = false := by simpa using m1
    rw [m1'] at K1
    have K1' := hide K1
    have HC := hide (show diffL xs ys = ([], false, 20) from by simp [diffL, m1'])
    clear K1 K2 m1 m1' h1 h2 ox oy
    go_enter Try.func27, Try.ntmps27
    go_wp2_with fail
    refine (unhide K1').mono ?_
    rintro e w' ⟨rfl, hw⟩
    obtain rfl := hw.symm
    go_wp2
    go_ret3
    rw [unhide HC]
    exact ⟨none, 0, 0, rfl, sl_nil _, newAt_nil _, Below.refl _ _⟩
end Go.Proofs.Ytokgcpnnbajlkaa
