/-
  THE LAW NatEuclid: out of the contracts; the row's step.
-/
import Derived.Test.YtlecjjcpidjmhaaDoorEu
import Derived.Test.YtlecjjcpidjmhaaDoorCards
import Derived.Test.YtlecjjcpidjmhaaDoorTie
import Derived.SevenTiedAt
import Derived.LaidMore
import Derived.Stop.Joined
import Derived.Lib.LaidTab
namespace Go.Proofs.YtlecjjcpidjmhaaDoor
open Go.ChangeShapes Go.WideShapes Go.ChangeAt Go.RowKit Go.Deep
set_option linter.unusedVariables false

set_option maxHeartbeats 32000000 in
theorem natEuclid_walk (a1 a2 a3 : Option Addr) (n1 c1 n2 c2 n3 c3 : Nat) (xs ys zs : List Nat) (w : World) (h1 : Sl w a1 n1 c1 xs) (h2 : Sl w a2 n2 c2 ys) (h3 : Sl w a3 n3 c3 zs) (ox : Ok xs) (oy : Ok ys) (oz : Ok zs) (hT : Tab64 w) :
    Calls Tryd.prog 3 #[.slice a1 n1 c1, .slice a2 n2 c2, .slice a3 n3 c3] w fun e w' => e = .returned (.bool true) ∧ Below w.heap.size w w' := by
  have HT := hide hT
  clear hT
  have HS0 := hide (show PSt w w [⟨a1, n1, c1, xs⟩, ⟨a2, n2, c2, ys⟩, ⟨a3, n3, c3, zs⟩, ⟨none, 0, 0, []⟩] from ⟨Below.refl _ _, by intro p hp; simp at hp; rcases hp with rfl | rfl | rfl | rfl; exact h1; exact h2; exact h3; exact sl_nil _⟩)
  clear h1 h2 h3
  go_enter Tryd.func3, Tryd.ntmps3
  go_wp2_with fail
  refine (alive_any _).mono ?_
  rintro e w1 ⟨rfl, hb⟩
  have HS1 := hide ((unhide HS0).keep hb)
  clear hb HS0
  go_wp2_with fail
  refine ((unhide HS1).may3 ⟨a1, n1, c1, xs⟩ ⟨a2, n2, c2, ys⟩ ⟨a3, n3, c3, zs⟩ (by simp) (by simp) (by simp) _).mono ?_
  rintro e w2 ⟨rfl, hst⟩
  have HS2 := hide hst
  clear hst HS1
  simp only
  cases hm : MayL xs && (MayL ys && MayL zs)
  · go_wp2
    go_ret
    exact ⟨rfl, (unhide HS2).bel⟩
  · simp only [Bool.and_eq_true] at hm
    obtain ⟨m1, m2, m3⟩ := hm
    have M1 := hide m1
    have M2 := hide m2
    have M3 := hide m3
    clear m1 m2 m3
    have HS := HS2
    clear HS2
    have MG := hide (gcd_may (unhide M1) (unhide M2) ox oy)
    have hD1 := hide (Nat.gcd_dvd_left (val xs) (val ys))
    have hD2 := hide (Nat.gcd_dvd_right (val xs) (val ys))
    have hD3 := hide (show val zs ∣ Nat.gcd (val xs) (val ys) ↔ val zs ∣ val xs ∧ val zs ∣ val ys from Nat.dvd_gcd_iff)
    have hL := hide (gcd_lcm (val xs) (val ys))
    have hM := hide (Nat.gcd_mul_right (val xs) (val zs) (val ys))
    have hGC := hide (Nat.gcd_comm (val ys) (val xs))
    obtain ⟨G, hG⟩ : ∃ G, Nat.gcd (val xs) (val ys) = G := ⟨_, rfl⟩
    rw [hG] at MG hD1 hD2 hD3 hL hM hGC
    have HG := hide hG
    clear hG
    go_wp2_with fail
    refine ((unhide HS).gcd (unhide HT) ⟨a1, n1, c1, xs⟩ ⟨a2, n2, c2, ys⟩ (by simp) (by simp) ox oy (limbs G, 0) ((gcdL_may (unhide M1) (unhide M2)).trans (by rw [unhide HG]))).mono ?_
    rintro e w11 ⟨a11, m11, d11, rfl, hst⟩
    try simp only at hst
    clear HS
    have HS := hide hst
    clear hst
    go_wp2_with fail
    refine ((unhide HS).gcd (unhide HT) ⟨a2, n2, c2, ys⟩ ⟨a1, n1, c1, xs⟩ (by simp) (by simp) oy ox (limbs G, 0) ((gcdL_may (unhide M2) (unhide M1)).trans (by rw [unhide hGC]))).mono ?_
    rintro e w12 ⟨a12, m12, d12, rfl, hst⟩
    try simp only at hst
    clear HS
    have HS := hide hst
    clear hst
    go_wp2_with fail
    refine (num_any _ _).mono ?_
    rintro e w' ⟨rfl, hw⟩
    obtain rfl := hw.symm
    clear hw
    go_wp2_with fail
    refine (num_any _ _).mono ?_
    rintro e w' ⟨rfl, hw⟩
    obtain rfl := hw.symm
    clear hw
    go_wp2_with fail
    refine ((unhide HS).same ⟨a11, m11, d11, limbs G⟩ ⟨a12, m12, d12, limbs G⟩ (by simp) (by simp) true (decide_eq_true rfl)).mono ?_
    rintro e w13 ⟨rfl, hst⟩
    clear HS
    have HS := hide hst
    clear hst
    go_wp2_with fail
    refine ((unhide HS).divides ⟨a11, m11, d11, limbs G⟩ ⟨a1, n1, c1, xs⟩ (by simp) (by simp) (limbs_rep G).ok ox (unhide MG) (unhide M1) true (decide_eq_true (by rw [(limbs_rep G).val]; exact unhide hD1))).mono ?_
    rintro e w14 ⟨rfl, hst⟩
    clear HS
    have HS := hide hst
    clear hst
    go_wp2_with fail
    refine ((unhide HS).divides ⟨a11, m11, d11, limbs G⟩ ⟨a2, n2, c2, ys⟩ (by simp) (by simp) (limbs_rep G).ok oy (unhide MG) (unhide M2) true (decide_eq_true (by rw [(limbs_rep G).val]; exact unhide hD2))).mono ?_
    rintro e w15 ⟨rfl, hst⟩
    clear HS
    have HS := hide hst
    clear hst
    by_cases hza : val zs ∣ val xs
    focus
      by_cases hzb : val zs ∣ val ys
      focus
        have Z1 := hide hza
        have Z2 := hide hzb
        clear hza hzb
        go_wp2_with fail
        refine ((unhide HS).divides ⟨a3, n3, c3, zs⟩ ⟨a11, m11, d11, limbs G⟩ (by simp) (by simp) oz (limbs_rep G).ok (unhide M3) (unhide MG) true (decide_eq_true (by rw [(limbs_rep G).val]; exact (unhide hD3).2 ⟨unhide Z1, unhide Z2⟩))).mono ?_
        rintro e w16 ⟨rfl, hst⟩
        clear HS
        have HS := hide hst
        clear hst
        go_wp2_with fail
        refine ((unhide HS).divides ⟨a3, n3, c3, zs⟩ ⟨a1, n1, c1, xs⟩ (by simp) (by simp) oz ox (unhide M3) (unhide M1) true (decide_eq_true (unhide Z1))).mono ?_
        rintro e w17 ⟨rfl, hst⟩
        clear HS
        have HS := hide hst
        clear hst
        go_wp2_with fail
        refine ((unhide HS).divides ⟨a3, n3, c3, zs⟩ ⟨a2, n2, c2, ys⟩ (by simp) (by simp) oz oy (unhide M3) (unhide M2) true (decide_eq_true (unhide Z2))).mono ?_
        rintro e w18 ⟨rfl, hst⟩
        clear HS
        have HS := hide hst
        clear hst
        clear Z1 Z2
      rotate_left
      focus
        have Z1 := hide hza
        have Z2 := hide hzb
        clear hza hzb
        go_wp2_with fail
        refine ((unhide HS).divides ⟨a3, n3, c3, zs⟩ ⟨a11, m11, d11, limbs G⟩ (by simp) (by simp) oz (limbs_rep G).ok (unhide M3) (unhide MG) false (decide_eq_false (by rw [(limbs_rep G).val]; exact fun h => unhide Z2 ((unhide hD3).1 h).2))).mono ?_
        rintro e w19 ⟨rfl, hst⟩
        clear HS
        have HS := hide hst
        clear hst
        go_wp2_with fail
        refine ((unhide HS).divides ⟨a3, n3, c3, zs⟩ ⟨a1, n1, c1, xs⟩ (by simp) (by simp) oz ox (unhide M3) (unhide M1) true (decide_eq_true (unhide Z1))).mono ?_
        rintro e w20 ⟨rfl, hst⟩
        clear HS
        have HS := hide hst
        clear hst
        go_wp2_with fail
        refine ((unhide HS).divides ⟨a3, n3, c3, zs⟩ ⟨a2, n2, c2, ys⟩ (by simp) (by simp) oz oy (unhide M3) (unhide M2) false (decide_eq_false (unhide Z2))).mono ?_
        rintro e w21 ⟨rfl, hst⟩
        clear HS
        have HS := hide hst
        clear hst
        clear Z1 Z2
      rotate_left
    rotate_left 2
    focus
      have Z1 := hide hza
      clear hza
      go_wp2_with fail
      refine ((unhide HS).divides ⟨a3, n3, c3, zs⟩ ⟨a11, m11, d11, limbs G⟩ (by simp) (by simp) oz (limbs_rep G).ok (unhide M3) (unhide MG) false (decide_eq_false (by rw [(limbs_rep G).val]; exact fun h => unhide Z1 ((unhide hD3).1 h).1))).mono ?_
      rintro e w22 ⟨rfl, hst⟩
      clear HS
      have HS := hide hst
      clear hst
      go_wp2_with fail
      refine ((unhide HS).divides ⟨a3, n3, c3, zs⟩ ⟨a1, n1, c1, xs⟩ (by simp) (by simp) oz ox (unhide M3) (unhide M1) false (decide_eq_false (unhide Z1))).mono ?_
      rintro e w23 ⟨rfl, hst⟩
      clear HS
      have HS := hide hst
      clear hst
      clear Z1
    all_goals
      have HK := hide ((unhide HS).flags 32)
      clear HS
      have HS := HK
      clear HK
      go_wp2_with fail
      refine ((unhide HS).mul ⟨a1, n1, c1, xs⟩ ⟨a2, n2, c2, ys⟩ (by simp) (by simp) (unhide M1) (unhide M2) ox oy).mono ?_
      rintro e w24 ⟨a24, m24, d24, rfl, hst⟩
      simp only at hst
      clear HS
      have HS := hide hst
      clear hst
      go_wp2_with fail
      refine (nlcm_any a1 a2 n1 c1 n2 c2 xs ys _ ((unhide HS).sl ⟨a1, n1, c1, xs⟩ (by simp)) ((unhide HS).sl ⟨a2, n2, c2, ys⟩ (by simp)) ox oy ((unhide HT).below (unhide HS).bel)).mono ?_
      intro e w25 hres
      rw [lcm_fit (unhide M1) (unhide M2), unhide HG] at hres
      obtain ⟨a25, m25, d25, rfl, hs, hn, hb⟩ := hres
      have HK := hide (show RSt _ _ _ _ _ (⟨a25, m25, d25, fitN (val xs / G * val ys)⟩ :: _) from (unhide HS).res hb hs hn)
      clear HS hs hn hb
      have HS := HK
      clear HK
      go_wp2_with fail
      refine ((unhide HS).tookFit).mono ?_
      rintro e w25t ⟨rfl, hst⟩
      clear HS
      have HS := hide hst
      clear hst
      go_wp2_with fail
      refine ((unhide HS).mul ⟨a11, m11, d11, limbs G⟩ ⟨a25, m25, d25, fitN (val xs / G * val ys)⟩ (by simp) (by simp) (unhide MG) (fitN_may _) (limbs_rep G).ok (fitN_isOk _)).mono ?_
      rintro e w26 ⟨a26, m26, d26, rfl, hst⟩
      simp only at hst
      clear HS
      have HS := hide hst
      clear hst
      cases hB : (((false || bigN (val xs * val ys)) || bigN (val xs / G * val ys)) || bigN (val (limbs G) * val (fitN (val xs / G * val ys)))) <;> rw [hB] at HS
      focus
        simp only [Bool.false_or, Bool.or_eq_false_iff] at hB
        have B2 := hide hB.1.2
        clear hB
        have f0 := (unhide HS).c0
        have f1 := (unhide HS).c1
        go_wp2_with fail
        refine ((unhide HS).same ⟨a26, m26, d26, fitN (val (limbs G) * val (fitN (val xs / G * val ys)))⟩ ⟨a24, m24, d24, fitN (val xs * val ys)⟩ (by simp) (by simp) true (decide_eq_true (by rw [(limbs_rep G).val, fitN_val (unhide B2), unhide hL]))).mono ?_
        rintro e w27 ⟨rfl, hst⟩
        clear HS
        have HS := hide hst
        clear hst
        clear B2
      rotate_left
      focus
        clear hB
        have f0 := (unhide HS).c0
        have f1 := (unhide HS).c1
      all_goals
        have HK := hide ((unhide HS).p.flags 32)
        clear HS
        have HS := HK
        clear HK
        go_wp2_with fail
        refine ((unhide HS).mul ⟨a1, n1, c1, xs⟩ ⟨a3, n3, c3, zs⟩ (by simp) (by simp) (unhide M1) (unhide M3) ox oz).mono ?_
        rintro e w28 ⟨a28, m28, d28, rfl, hst⟩
        simp only at hst
        clear HS
        have HS := hide hst
        clear hst
        try clear f0 f1
        go_wp2_with fail
        refine ((unhide HS).mul ⟨a2, n2, c2, ys⟩ ⟨a3, n3, c3, zs⟩ (by simp) (by simp) (unhide M2) (unhide M3) oy oz).mono ?_
        rintro e w29 ⟨a29, m29, d29, rfl, hst⟩
        simp only at hst
        clear HS
        have HS := hide hst
        clear hst
        go_wp2_with fail
        refine ((unhide HS).mul ⟨a11, m11, d11, limbs G⟩ ⟨a3, n3, c3, zs⟩ (by simp) (by simp) (unhide MG) (unhide M3) (limbs_rep G).ok oz).mono ?_
        rintro e w30 ⟨a30, m30, d30, rfl, hst⟩
        simp only at hst
        clear HS
        have HS := hide hst
        clear hst
        cases hB : (((false || bigN (val xs * val zs)) || bigN (val ys * val zs)) || bigN (val (limbs G) * val zs)) <;> rw [hB] at HS
        · simp only [Bool.false_or, Bool.or_eq_false_iff] at hB
          have B1 := hide hB.1.1
          have B2 := hide hB.1.2
          have B3 := hide hB.2
          clear hB
          have f0 := (unhide HS).c0
          have f1 := (unhide HS).c1
          have HP := hide (unhide HS).p
          go_wp2_with fail
          clear HS
          have HS := HP
          clear HP
          refine ((unhide HS).gcd (unhide HT) ⟨a28, m28, d28, fitN (val xs * val zs)⟩ ⟨a29, m29, d29, fitN (val ys * val zs)⟩ (by simp) (by simp) (fitN_isOk _) (fitN_isOk _) (limbs (G * val zs), 0) ((gcdL_may (fitN_may _) (fitN_may _)).trans (by rw [fitN_val (unhide B1), fitN_val (unhide B2), unhide hM]))).mono ?_
          rintro e w31 ⟨a31, m31, d31, rfl, hst⟩
          try simp only at hst
          clear HS
          have HS := hide hst
          clear hst
          go_wp2_with fail
          refine (num_any _ _).mono ?_
          rintro e w' ⟨rfl, hw⟩
          obtain rfl := hw.symm
          clear hw
          go_wp2_with fail
          refine ((unhide HS).same ⟨a31, m31, d31, limbs (G * val zs)⟩ ⟨a30, m30, d30, fitN (val (limbs G) * val zs)⟩ (by simp) (by simp) true (decide_eq_true (by show limbs (G * val zs) = fitN (val (limbs G) * val zs); rw [fitN_ok (unhide B3), (limbs_rep G).val]))).mono ?_
          rintro e w32 ⟨rfl, hst⟩
          clear HS
          have HS := hide hst
          clear hst
          go_wp2
          go_ret
          exact ⟨rfl, (unhide HS).bel⟩
        · clear hB
          have f0 := (unhide HS).c0
          have f1 := (unhide HS).c1
          go_wp2
          go_ret
          exact ⟨rfl, (unhide HS).bel⟩

theorem natEuclid_door (os : Os) (args : Array Value) : laidMetH Tryd.prog [("math/bits.deBruijn64tab", Rows.laid_math_bits_deBruijn64tab)] ((World.doorLaid Tryd.prog 400 os).forCall (fun _ _ => 0) ⟨#[], args, []⟩).memory :=
  laidMetH_of_parts3 (fuel := 8) (laidMet_of_run' 8 (by kernel_rfl) (by kernel_rfl)) (by kernel_rfl) (by kernel_rfl)

set_option maxRecDepth 100000 in
theorem natEuclid_lifted (os : Os) (started : os.Started) (H : Type) (enc : TypeId × Value → H) :
    ReturnsInHanded {} Tryd.checked os 3 .any (fun w args => (Rows.natEuclidSpec.pre enc Tryd.prog Tryd.f3 [] false w args ∧ laidMetH Tryd.prog [("math/bits.deBruijn64tab", Rows.laid_math_bits_deBruijn64tab)] w) ∧ sizedMet enc Tryd.prog Tryd.f3 (OpenSpec.ofChange Rows.natEuclidSpec) false w args) (Rows.natEuclidSpec.post enc Tryd.prog Tryd.f3 false true false false) := by
  refine returnsInHanded_of_change_and (C := Tryd.checked) (X := fun w _ => laidMetH Tryd.prog [("math/bits.deBruijn64tab", Rows.laid_math_bits_deBruijn64tab)] w) (fun _ _ _ hh h => h.of_heap hh) law_own started (by kernel_rfl) Tryd.func3
    (ChangeSpec.witness_shaped (enc := enc) (C := Tryd.checked) (os := os) (X := fun w _ => laidMetH Tryd.prog [("math/bits.deBruijn64tab", Rows.laid_math_bits_deBruijn64tab)] w) false (World.doorLaid Tryd.prog 400 os) #[.slice none 0 0, .slice none 0 0, .slice none 0 0] 8 rfl (World.shaped_of_RefB (by kernel_rfl) (by kernel_rfl)) (by kernel_rfl) (by kernel_rfl) (by kernel_rfl) (natEuclid_door os _)) ?_
  intro W base args ds gs before hval0 hW hcnd hsz hL _
  have hval : ∀ (j : Nat) t v, Tryd.f3.params[j]? = some t → args[j]? = some v → Value.okWide Tryd.prog W .any base t v := hval0
  have hW' := hW
  obtain ⟨p, q, hA0, hV, rfl, hfz, hnd⟩ := hW
  have hA : DataW.TrodAll enc Tryd.prog W 0 (fun _ => true) true Tryd.f3.params.toList args.toList ds p := hA0
  rw [Tryd.params3] at hA hval hsz
  have r := hA
  obtain ⟨v0, vs0, d0, ds0, p0, q0, hargs, rfl, rfl, h0, r0⟩ := trodAll_cons hA
  obtain ⟨v1, vs1, d1, ds1, p1, q1, rfl, rfl, rfl, h1, r1⟩ := trodAll_cons r0
  obtain ⟨v2, vs2, d2, ds2, p2, q2, rfl, rfl, rfl, h2, r2⟩ := trodAll_cons r1
  obtain ⟨rfl, rfl, rfl⟩ := trodAll_nil r2
  obtain rfl : args = #[v0, v1, v2] := by cases args; simp_all
  obtain ⟨rfl, rfl⟩ := trodVars_none hV
  obtain ⟨a0, n0, c0, rfl⟩ := okWide_slice Tryd.underlying23 (hval 0 23 v0 rfl rfl)
  have k0 := h0
  have lt0 : ∀ x ∈ p0, x.block < W.heap.size := by obtain ⟨m, hm⟩ := k0; exact DataW.trod_lt m _ _ _ hm
  obtain ⟨x0, s0, o0, b0⟩ := arg_limbs h0 (fun el sp e => by subst e; exact sized_slice (j := 0) hsz rfl rfl Tryd.underlying23)
  obtain ⟨a1, n1, c1, rfl⟩ := okWide_slice Tryd.underlying23 (hval 1 23 v1 rfl rfl)
  have k1 := h1
  have lt1 : ∀ x ∈ p1, x.block < W.heap.size := by obtain ⟨m, hm⟩ := k1; exact DataW.trod_lt m _ _ _ hm
  obtain ⟨x1, s1, o1, b1⟩ := arg_limbs h1 (fun el sp e => by subst e; exact sized_slice (j := 1) hsz rfl rfl Tryd.underlying23)
  obtain ⟨a2, n2, c2, rfl⟩ := okWide_slice Tryd.underlying23 (hval 2 23 v2 rfl rfl)
  have k2 := h2
  have lt2 : ∀ x ∈ p2, x.block < W.heap.size := by obtain ⟨m, hm⟩ := k2; exact DataW.trod_lt m _ _ _ hm
  obtain ⟨x2, s2, o2, b2⟩ := arg_limbs h2 (fun el sp e => by subst e; exact sized_slice (j := 2) hsz rfl rfl Tryd.underlying23)
  clear hA0 hval0
  have hT : Tab64 W := by
    rw [MakeChecks.laidMetH_plain _ _ _ (by kernel_rfl)] at hL
    have hI := Lib.tabIs_of_head (k := .u8) (zs := tab64) (rest := []) (show Tryd.prog.globalNamed "math/bits.deBruijn64tab" = some 0 by kernel_rfl) (show (Tryd.prog.globals[0]?).map (·.type) = some 142 by kernel_rfl) Tryd.underlying142 Tryd.underlying5 (by kernel_rfl) (by kernel_rfl) hL
    intro j hj
    exact hI.cell (by kernel_rfl) j hj
  refine (natEuclid_walk a0 a1 a2 n0 c0 n1 c1 n2 c2 x0 x1 x2 W s0 s1 s2 o0 o1 o2 hT).mono fun e W' ⟨he, bel⟩ => ?_
  subst he
  exact ⟨_, rfl, _, _, _, [], _, [], hW', trodAll_mk1 (shut_bool Tryd.underlying4 _), (trodAll_cons_mk (Below.trod law_laid (by kernel_rfl) (of_decide_eq_true (by kernel_rfl)) k0 bel lt0) (trodAll_cons_mk (Below.trod law_laid (by kernel_rfl) (of_decide_eq_true (by kernel_rfl)) k1 bel lt1) (trodAll_cons_mk (Below.trod law_laid (by kernel_rfl) (of_decide_eq_true (by kernel_rfl)) k2 bel lt2) trodAll_mk0))), rfl, bel.frame _, fun h => by cases h⟩

theorem natEuclid_row : Rows.NatEuclidSaid :=
  OpenClaim.holds_of_wide 3 Tryd.f3 rfl rfl rfl rfl rfl rfl rfl ⟨rfl, rfl, rfl, rfl, rfl⟩ rfl rfl rfl rfl rfl (by kernel_rfl) Tryd.func3 (by kernel_rfl)
    (of_decide_eq_true (by kernel_rfl)) (by unfold Func.isWrapper; first | (rw [if_pos (by decide +kernel)]; kernel_rfl) | (rw [if_neg (by decide +kernel)]; exact ⟨rfl, rfl⟩))
    (fun os started H enc _ => natEuclid_lifted os started H enc)

theorem natEuclid_holds : Rows.NatEuclidCardSaid :=
  Claim7.holds_tied_plain_at .later [] [.data] true Rows.natEuclidCard.stood.harness false
    natEuclid_row (fun _ h => by cases h) (by kernel_rfl) (fun _ h => by cases h) natEuclid_row_tie rfl ⟨rfl, rfl⟩ (by kernel_rfl) rfl
    (fun f fn hf hfn => by
      obtain rfl : f = 3 := Option.some.inj ((show Tryd.prog.funcNamed "slope/slopelaw1.NatEuclid" = some 3 by kernel_rfl).symm.trans hf) |>.symm
      obtain rfl : fn = Tryd.f3 := (Option.some.inj (Tryd.func3.symm.trans hfn)).symm
      exact ⟨by kernel_rfl, fun j t ht => by
        rw [Tryd.params3] at ht
        have hm : t ∈ [23, 23, 23] := by simpa using Array.mem_of_getElem? ht
        have hall : ([23, 23, 23].all fun u => !Tryd.prog.wantsStandIn u) = true := by kernel_rfl
        exact (show Tryd.prog.wantsStandIn t = false by simpa using List.all_eq_true.1 hall t hm)⟩)
    (by kernel_rfl)
#print axioms natEuclid_holds
end Go.Proofs.YtlecjjcpidjmhaaDoor
