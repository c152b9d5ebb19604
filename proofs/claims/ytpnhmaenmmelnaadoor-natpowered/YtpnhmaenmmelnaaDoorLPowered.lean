/-
  THE LAW NatPowered: out of the contracts; the row's step.
-/
import Derived.Test.YtpnhmaenmmelnaaDoorPo
import Derived.Test.YtpnhmaenmmelnaaDoorCards
import Derived.Test.YtpnhmaenmmelnaaDoorTie
import Derived.SevenTiedAt
import Derived.LaidMore
import Derived.Stop.Joined
import Derived.Lib.LaidTab
namespace Go.Proofs.YtpnhmaenmmelnaaDoor
open Go.ChangeShapes Go.WideShapes Go.ChangeAt Go.RowKit Go.Deep
set_option linter.unusedVariables false

set_option maxRecDepth 100000 in
set_option maxHeartbeats 32000000 in
theorem natPowered_walk (a1 : Option Addr) (n1 c1 : Nat) (xs : List Nat) (j k : Int) (w : World) (h1 : Sl w a1 n1 c1 xs) (ox : Ok xs) (hT : Tab32 w) :
    Calls Tryd.prog 5 #[.slice a1 n1 c1, .int .i64 j, .int .i64 k] w fun e w' => e = .returned (.bool true) ∧ Below w.heap.size w w' := by
  have HT := hide hT
  have HS0 := hide (show PSt w w [⟨a1, n1, c1, xs⟩] from ⟨Below.refl _ _, by intro p hp; simp at hp; subst hp; exact h1⟩)
  clear h1 hT
  go_enter Tryd.func5, Tryd.ntmps5
  go_wp2_with fail
  refine (alive_any _).mono ?_
  rintro e w1 ⟨rfl, hb⟩
  have HS1 := hide ((unhide HS0).keep hb)
  clear hb HS0
  go_wp2_with fail
  refine ((unhide HS1).may1 ⟨a1, n1, c1, xs⟩ (by simp) _).mono ?_
  rintro e w2 ⟨rfl, hst⟩
  have HS2 := hide hst
  clear hst HS1
  simp only
  cases hm : MayL xs
  · go_wp2
    go_ret
    exact ⟨rfl, (unhide HS2).bel⟩
  · have M1 := hide hm
    clear hm
    by_cases hj : j < 0
    · go_wp2
      go_ret
      exact ⟨rfl, (unhide HS2).bel⟩
    · by_cases hk : k < 0
      · go_wp2
        go_ret
        exact ⟨rfl, (unhide HS2).bel⟩
      · by_cases hj2 : 1024 < j
        · go_wp2
          go_ret
          exact ⟨rfl, (unhide HS2).bel⟩
        · have hjb : 0 ≤ j ∧ j ≤ 1024 := by omega
          by_cases hk2 : 1024 - j < k
          · go_wp2
            go_ret
            exact ⟨rfl, (unhide HS2).bel⟩
          · obtain ⟨J, rfl⟩ : ∃ J : Nat, j = (J : Int) := ⟨j.toNat, by omega⟩
            obtain ⟨K, rfl⟩ : ∃ K : Nat, k = (K : Int) := ⟨k.toNat, by omega⟩
            have hJK : J + K ≤ 1024 := by omega
            have HS := hide ((unhide HS2).flags 47)
            clear HS2 hjb
            go_wp2_with fail
            refine ((unhide HS).pow ⟨a1, n1, c1, xs⟩ (by simp) (unhide M1) ox J (J : Int) rfl (by omega)).mono ?_
            rintro e w11 ⟨a11, m11, d11, rfl, hst⟩
            simp only at hst
            clear HS
            have HS := hide hst
            clear hst
            go_wp2_with fail
            refine ((unhide HS).pow ⟨a1, n1, c1, xs⟩ (by simp) (unhide M1) ox K (K : Int) rfl (by omega)).mono ?_
            rintro e w12 ⟨a12, m12, d12, rfl, hst⟩
            simp only at hst
            clear HS
            have HS := hide hst
            clear hst
            go_wp2_with fail
            refine ((unhide HS).pow ⟨a1, n1, c1, xs⟩ (by simp) (unhide M1) ox (J + K) ((J : Int) + (K : Int)) (by omega) (by omega)).mono ?_
            rintro e w13 ⟨a13, m13, d13, rfl, hst⟩
            simp only at hst
            clear HS
            have HS := hide hst
            clear hst
            cases hB : (((false || bigN (val xs ^ J)) || bigN (val xs ^ K)) || bigN (val xs ^ (J + K))) <;> rw [hB] at HS
            focus
              simp only [Bool.false_or, Bool.or_eq_false_iff] at hB
              have B1 := hide hB.1.1
              have B2 := hide hB.1.2
              have B3 := hide hB.2
              clear hB
              have f0 := (unhide HS).c0
              have f1 := (unhide HS).c1
              go_wp2_with fail
              refine ((unhide HS).mul ⟨a11, m11, d11, fitN (val xs ^ J)⟩ ⟨a12, m12, d12, fitN (val xs ^ K)⟩ (by simp) (by simp) (fitN_may _) (fitN_may _) (fitN_isOk _) (fitN_isOk _)).mono ?_
              rintro e w14 ⟨a14, m14, d14, rfl, hst⟩
              simp only at hst
              clear HS
              have HS := hide hst
              clear hst
              have hbm : bigN (val (fitN (val xs ^ J)) * val (fitN (val xs ^ K))) = false := by rw [fitN_val (unhide B1), fitN_val (unhide B2)]; exact big_pow (unhide B3)
              rw [hbm] at HS
              clear hbm f0 f1
              simp only [Bool.or_false] at HS
              go_wp2_with fail
              refine ((unhide HS).same ⟨a14, m14, d14, fitN (val (fitN (val xs ^ J)) * val (fitN (val xs ^ K)))⟩ ⟨a13, m13, d13, fitN (val xs ^ (J + K))⟩ (by simp) (by simp) true (decide_eq_true (by rw [fitN_val (unhide B1), fitN_val (unhide B2), ← Nat.pow_add]))).mono ?_
              rintro e w15 ⟨rfl, hst⟩
              clear HS
              have HS := hide hst
              clear hst
              have f0 := (unhide HS).c0
              have f1 := (unhide HS).c1
              by_cases hK0 : K = 0
              focus
                have hK1 : ¬ (0:Int) < (K:Int) := by omega
                clear hK0
                have HP := hide (unhide HS).p
                go_wp2_with fail
                clear HS hK1 B1 B2 B3
                have HS := HP
                clear HP f0 f1
              rotate_left
              focus
                have hK1 : (0:Int) < (K:Int) := by omega
                clear hK0
                have HP := hide (unhide HS).p
                go_wp2_with fail
                clear HS
                have HS := HP
                clear HP f0 f1
                have KR := nroot_ok (a12) m12 d12 (fitN (val xs ^ K)) K _ ((unhide HS).all ⟨a12, m12, d12, fitN (val xs ^ K)⟩ (by simp)) (fitN_isOk _) (fitN_may _) (by omega) (by omega)
                rw [fitN_val (unhide B2)] at KR
                have KR' := hide KR
                clear KR
                refine (unhide KR').mono ?_
                rintro e w16 ⟨R, hR, hres⟩
                obtain rfl := root_self (by omega) hR
                obtain ⟨a16, m16, d16, rfl, hs, hn, hb⟩ := hres
                try simp only at hs
                have HK := hide (show PSt _ _ (⟨a16, m16, d16, limbs (val xs)⟩ :: _) from (unhide HS).res hb hs)
                clear HS hs hn hb hR KR'
                have HS := HK
                clear HK
                go_wp2_with fail
                refine (num_any _ _).mono ?_
                rintro e w' ⟨rfl, hw⟩
                obtain rfl := hw.symm
                clear hw
                go_wp2_with fail
                refine ((unhide HS).same ⟨a16, m16, d16, limbs (val xs)⟩ ⟨a1, n1, c1, xs⟩ (by simp) (by simp) true (decide_eq_true (limbs_self (unhide M1) ox))).mono ?_
                rintro e w17 ⟨rfl, hst⟩
                clear HS
                have HS := hide hst
                clear hst
                go_wp2_with fail
                clear hK1 B1 B2 B3
              rotate_left
            rotate_left 2
            focus
              clear hB
              have f0 := (unhide HS).c0
              have f1 := (unhide HS).c1
              have HP := hide (unhide HS).p
              go_wp2_with fail
              clear HS
              have HS := HP
              clear HP f0 f1
            all_goals
              refine (from_any 2 _ (by decide)).mono ?_
              rintro e wF ⟨aF, mF, os, rfl, hs, hr, ha, hb⟩
              have e2 : os = [2] := hr.unique rep_2
              subst e2
              have HK := hide ((unhide HS).res hb hs)
              clear HS hs hr ha hb
              have HS := HK
              clear HK
              go_wp2_with fail
              have KP := npow_any aF mF mF [2] (K : Int) _ ((unhide HS).all ⟨aF, mF, mF, [2]⟩ (by simp)) (Ok.cons (by decide) Ok.nil)
              rw [powL_nat rfl (by omega), show val [2] = 2 from by simp [val], two_fit (by omega)] at KP
              have KP' := hide KP
              clear KP
              refine ((unhide HS).of2 (unhide KP')).mono ?_
              rintro e w18 ⟨a18, m18, d18, rfl, hst⟩
              try simp only at hst
              clear HS
              have HS := hide hst
              clear hst KP'
              go_wp2_with fail
              refine (num_any _ _).mono ?_
              rintro e w' ⟨rfl, hw⟩
              obtain rfl := hw.symm
              clear hw
              go_wp2_with fail
              have KB := nbits_any a18 m18 d18 (limbs (2 ^ K)) _ ((unhide HS).all ⟨a18, m18, d18, limbs (2 ^ K)⟩ (by simp)) (limbs_rep _).ok (two_may (by omega))
              rw [two_bitsN] at KB
              have KB' := hide KB
              clear KB
              refine (unhide KB').mono ?_
              rintro e w' ⟨rfl, hw⟩
              obtain rfl := hw.symm
              clear hw KB'
              go_wp2_with fail
              have KO := (unhide HS).quiet (nones_any a18 m18 d18 (limbs (2 ^ K)) _ ((unhide HS).all ⟨a18, m18, d18, limbs (2 ^ K)⟩ (by simp)) (limbs_rep _).ok (two_may (by omega)))
              rw [two_ones] at KO
              have KO' := hide KO
              clear KO
              refine (unhide KO').mono ?_
              rintro e w19 ⟨rfl, hst⟩
              clear HS
              have HS := hide hst
              clear hst KO'
              go_wp2_with fail
              refine (ntail_any a18 m18 d18 (limbs (2 ^ K)) _ ((unhide HS).all ⟨a18, m18, d18, limbs (2 ^ K)⟩ (by simp)) (limbs_rep _).ok (two_may (by omega)) ((unhide HT).below (unhide HS).bel)).mono ?_
              rintro e w20 ⟨tt, htb, hI, rfl, kk, hw⟩
              rw [(limbs_rep _).val] at hI
              obtain rfl := two_tail hI
              have HK := hide (show PSt w20 w _ from by rw [hw]; exact (unhide HS).drewN kk)
              clear HS hw hI htb
              have HS := HK
              clear HK
              have HK := hide ((unhide HS).flags 47)
              clear HS
              have HS := HK
              clear HK
              go_wp2_with fail
              have KS := nshl_any a1 n1 c1 xs _ (tt : Int) ((unhide HS).sl ⟨a1, n1, c1, xs⟩ (by simp)) ox
              rw [shlL_nat (unhide M1) (by omega)] at KS
              have KS' := hide KS
              clear KS
              refine (unhide KS').mono ?_
              rintro e w21 ⟨a21, m21, d21, rfl, hs, hn, hb⟩
              have HK := hide (show RSt _ _ _ _ _ (⟨a21, m21, d21, fitN (val xs * 2 ^ tt)⟩ :: _) from (unhide HS).res hb hs hn)
              clear HS hs hn hb KS'
              have HS := HK
              clear HK
              go_wp2_with fail
              refine ((unhide HS).tookF).mono ?_
              rintro e w21t ⟨rfl, hst⟩
              clear HS
              have HS := hide hst
              clear hst
              go_wp2_with fail
              refine ((unhide HS).mul ⟨a1, n1, c1, xs⟩ ⟨a18, m18, d18, limbs (2 ^ tt)⟩ (by simp) (by simp) (unhide M1) (two_may (by omega)) ox (limbs_rep _).ok).mono ?_
              rintro e w22 ⟨a22, m22, d22, rfl, hst⟩
              simp only at hst
              clear HS
              have HS := hide hst
              clear hst
              go_wp2_with fail
              have KD := ndivmod_any a1 a18 n1 c1 m18 d18 xs (limbs (2 ^ tt)) _ ((unhide HS).sl ⟨a1, n1, c1, xs⟩ (by simp)) ((unhide HS).sl ⟨a18, m18, d18, limbs (2 ^ tt)⟩ (by simp)) ox (limbs_rep _).ok
              rw [divL_two (unhide M1) (by omega)] at KD
              have KD' := hide KD
              clear KD
              refine (unhide KD').mono ?_
              rintro e w23 ⟨a23, m23, d23, b23, n23, g23, rfl, hs, hn, hs2, hn2, _, hb⟩
              try simp only at hs
              have HK := hide ((unhide HS).res hb hs hn)
              clear HS hs hn hs2 hn2 hb KD'
              have HS := HK
              clear HK
              go_wp2_with fail
              have KS := nshr_any a1 n1 c1 xs _ (tt : Int) ((unhide HS).sl ⟨a1, n1, c1, xs⟩ (by simp)) ox
              rw [shrL_nat (unhide M1) (by omega)] at KS
              have KS' := hide KS
              clear KS
              refine (unhide KS').mono ?_
              rintro e w24 ⟨a24, m24, d24, rfl, hs, hn, hb⟩
              try simp only at hs
              have HK := hide ((unhide HS).res hb hs hn)
              clear HS hs hn hb KS'
              have HS := HK
              clear HK
              cases hB : ((false || bigN (val xs * 2 ^ tt)) || bigN (val xs * val (limbs (2 ^ tt)))) <;> rw [hB] at HS
              · clear hB
                have f0 := (unhide HS).c0
                have f1 := (unhide HS).c1
                go_wp2_with fail
                refine (num_any _ _).mono ?_
                rintro e w' ⟨rfl, hw⟩
                obtain rfl := hw.symm
                clear hw
                go_wp2_with fail
                refine (num_any _ _).mono ?_
                rintro e w' ⟨rfl, hw⟩
                obtain rfl := hw.symm
                clear hw
                go_wp2_with fail
                refine ((unhide HS).same ⟨a23, m23, d23, limbs (val xs / 2 ^ tt)⟩ ⟨a24, m24, d24, limbs (val xs / 2 ^ tt)⟩ (by simp) (by simp) true (decide_eq_true rfl)).mono ?_
                rintro e w25 ⟨rfl, hst⟩
                clear HS
                have HS := hide hst
                clear hst
                clear f0 f1
                have f0 := (unhide HS).c0
                have f1 := (unhide HS).c1
                go_wp2_with fail
                refine ((unhide HS).same ⟨a21, m21, d21, fitN (val xs * 2 ^ tt)⟩ ⟨a22, m22, d22, fitN (val xs * val (limbs (2 ^ tt)))⟩ (by simp) (by simp) true (decide_eq_true (by rw [(limbs_rep _).val]))).mono ?_
                rintro e w26 ⟨rfl, hst⟩
                clear HS
                have HS := hide hst
                clear hst
                go_wp2
                go_ret
                exact ⟨rfl, (unhide HS).bel⟩
              · clear hB
                have f0 := (unhide HS).c0
                have f1 := (unhide HS).c1
                go_wp2_with fail
                refine (num_any _ _).mono ?_
                rintro e w' ⟨rfl, hw⟩
                obtain rfl := hw.symm
                clear hw
                go_wp2_with fail
                refine (num_any _ _).mono ?_
                rintro e w' ⟨rfl, hw⟩
                obtain rfl := hw.symm
                clear hw
                go_wp2_with fail
                refine ((unhide HS).same ⟨a23, m23, d23, limbs (val xs / 2 ^ tt)⟩ ⟨a24, m24, d24, limbs (val xs / 2 ^ tt)⟩ (by simp) (by simp) true (decide_eq_true rfl)).mono ?_
                rintro e w27 ⟨rfl, hst⟩
                clear HS
                have HS := hide hst
                clear hst
                clear f0 f1
                have f0 := (unhide HS).c0
                have f1 := (unhide HS).c1
                go_wp2
                go_ret
                exact ⟨rfl, (unhide HS).bel⟩

theorem natPowered_door (os : Os) (args : Array Value) : laidMetH Tryd.prog [("math/bits.deBruijn32tab", Rows.laid_math_bits_deBruijn32tab)] ((World.doorLaid Tryd.prog 400 os).forCall (fun _ _ => 0) ⟨#[], args, []⟩).memory :=
  laidMetH_of_parts3 (fuel := 8) (laidMet_of_run' 8 (by kernel_rfl) (by kernel_rfl)) (by kernel_rfl) (by kernel_rfl)

set_option maxRecDepth 100000 in
theorem natPowered_lifted (os : Os) (started : os.Started) (H : Type) (enc : TypeId × Value → H) :
    ReturnsInHanded {} Tryd.checked os 5 .any (fun w args => (Rows.natPoweredSpec.pre enc Tryd.prog Tryd.f5 [] false w args ∧ laidMetH Tryd.prog [("math/bits.deBruijn32tab", Rows.laid_math_bits_deBruijn32tab)] w) ∧ sizedMet enc Tryd.prog Tryd.f5 (OpenSpec.ofChange Rows.natPoweredSpec) false w args) (Rows.natPoweredSpec.post enc Tryd.prog Tryd.f5 false true false false) := by
  refine returnsInHanded_of_change_and (C := Tryd.checked) (X := fun w _ => laidMetH Tryd.prog [("math/bits.deBruijn32tab", Rows.laid_math_bits_deBruijn32tab)] w) (fun _ _ _ hh h => h.of_heap hh) law_own started (by kernel_rfl) Tryd.func5
    (ChangeSpec.witness_shaped (enc := enc) (C := Tryd.checked) (os := os) (X := fun w _ => laidMetH Tryd.prog [("math/bits.deBruijn32tab", Rows.laid_math_bits_deBruijn32tab)] w) false (World.doorLaid Tryd.prog 400 os) #[.slice none 0 0, .int .i64 0, .int .i64 0] 8 rfl (World.shaped_of_RefB (by kernel_rfl) (by kernel_rfl)) (by kernel_rfl) (by kernel_rfl) (by kernel_rfl) (natPowered_door os _)) ?_
  intro W base args ds gs before hval0 hW hcnd hsz hL _
  have hval : ∀ (j : Nat) t v, Tryd.f5.params[j]? = some t → args[j]? = some v → Value.okWide Tryd.prog W .any base t v := hval0
  have hW' := hW
  obtain ⟨p, q, hA0, hV, rfl, hfz, hnd⟩ := hW
  have hA : DataW.TrodAll enc Tryd.prog W 0 (fun _ => true) true Tryd.f5.params.toList args.toList ds p := hA0
  rw [Tryd.params5] at hA hval hsz
  have r := hA
  obtain ⟨v0, vs0, d0, ds0, p0, q0, hargs, rfl, rfl, h0, r0⟩ := trodAll_cons hA
  obtain ⟨v1, vs1, d1, ds1, p1, q1, rfl, rfl, rfl, h1, r1⟩ := trodAll_cons r0
  obtain ⟨v2, vs2, d2, ds2, p2, q2, rfl, rfl, rfl, h2, r2⟩ := trodAll_cons r1
  obtain ⟨rfl, rfl, rfl⟩ := trodAll_nil r2
  obtain rfl : args = #[v0, v1, v2] := by cases args; simp_all
  obtain ⟨rfl, rfl⟩ := trodVars_none hV
  obtain ⟨a0, n0, c0, rfl⟩ := okWide_slice Tryd.underlying23 (hval 0 23 v0 rfl rfl)
  have k0 := h0
  have lt0 : ∀ x ∈ p0, x.block < W.heap.size := by obtain ⟨m, hm⟩ := k0; exact DataW.trod_lt m _ _ _ hm
  obtain ⟨x0, s0, o0, b0⟩ := arg_limbs h0 (fun el sp e => by subst e; exact sized_slice (j := 0) hsz rfl rfl Tryd.underlying23)
  obtain ⟨i1, rfl, rfl, rfl, w1⟩ := open_int Tryd.underlying3 (hval 1 3 v1 rfl rfl) h1
  obtain ⟨i2, rfl, rfl, rfl, w2⟩ := open_int Tryd.underlying3 (hval 2 3 v2 rfl rfl) h2
  clear hA0 hval0
  have hT : Tab32 W := by
    rw [MakeChecks.laidMetH_plain _ _ _ (by kernel_rfl)] at hL
    have hI := Lib.tabIs_of_head (k := .u8) (zs := tab32) (rest := []) (show Tryd.prog.globalNamed "math/bits.deBruijn32tab" = some 0 by kernel_rfl) (show (Tryd.prog.globals[0]?).map (·.type) = some 126 by kernel_rfl) Tryd.underlying126 Tryd.underlying5 (by kernel_rfl) (by kernel_rfl) hL
    intro j hj
    exact hI.cell (by kernel_rfl) j hj
  refine (natPowered_walk a0 n0 c0 x0 i1 i2 W s0 o0 hT).mono fun e W' ⟨he, bel⟩ => ?_
  subst he
  exact ⟨_, rfl, _, _, _, [], _, [], hW', trodAll_mk1 (shut_bool Tryd.underlying4 _), (trodAll_cons_mk (Below.trod law_laid (by kernel_rfl) (of_decide_eq_true (by kernel_rfl)) k0 bel lt0) (trodAll_cons_mk (shut_int Tryd.underlying3 w1) (trodAll_cons_mk (shut_int Tryd.underlying3 w2) trodAll_mk0))), rfl, bel.frame _, fun h => by cases h⟩

theorem natPowered_row : Rows.NatPoweredSaid :=
  OpenClaim.holds_of_wide 5 Tryd.f5 rfl rfl rfl rfl rfl rfl rfl ⟨rfl, rfl, rfl, rfl, rfl⟩ rfl rfl rfl rfl rfl (by kernel_rfl) Tryd.func5 (by kernel_rfl)
    (of_decide_eq_true (by kernel_rfl)) (by unfold Func.isWrapper; first | (rw [if_pos (by decide +kernel)]; kernel_rfl) | (rw [if_neg (by decide +kernel)]; exact ⟨rfl, rfl⟩))
    (fun os started H enc _ => natPowered_lifted os started H enc)

theorem natPowered_holds : Rows.NatPoweredCardSaid :=
  Claim7.holds_tied_plain_at .later [] [.data] true Rows.natPoweredCard.stood.harness false
    natPowered_row (fun _ h => by cases h) (by kernel_rfl) (fun _ h => by cases h) natPowered_row_tie rfl ⟨rfl, rfl⟩ (by kernel_rfl) rfl
    (fun f fn hf hfn => by
      obtain rfl : f = 5 := Option.some.inj ((show Tryd.prog.funcNamed "slope/slopelaw1.NatPowered" = some 5 by kernel_rfl).symm.trans hf) |>.symm
      obtain rfl : fn = Tryd.f5 := (Option.some.inj (Tryd.func5.symm.trans hfn)).symm
      exact ⟨by kernel_rfl, fun j t ht => by
        rw [Tryd.params5] at ht
        have hm : t ∈ [23, 3, 3] := by simpa using Array.mem_of_getElem? ht
        have hall : ([23, 3, 3].all fun u => !Tryd.prog.wantsStandIn u) = true := by kernel_rfl
        exact (show Tryd.prog.wantsStandIn t = false by simpa using List.all_eq_true.1 hall t hm)⟩)
    (by kernel_rfl)
#print axioms natPowered_holds
end Go.Proofs.YtpnhmaenmmelnaaDoor
