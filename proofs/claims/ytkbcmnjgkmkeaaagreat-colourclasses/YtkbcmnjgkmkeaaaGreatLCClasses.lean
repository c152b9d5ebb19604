/-
  THE LAW ColourClasses: the walk, the row.
-/
import Derived.Test.YtkbcmnjgkmkeaaaGreatChk
import Derived.Test.YtkbcmnjgkmkeaaaGreatSjp
import Derived.Test.YtkbcmnjgkmkeaaaGreatCgj
import Derived.Test.YtkbcmnjgkmkeaaaGreatRows
import Derived.Deep.DeepHandedRow
import Derived.Deep.RegionHeld3
namespace Go.Proofs.YtkbcmnjgkmkeaaaGreat
open Go.ChangeShapes Go.WideShapes Go.ChangeAt Go.RowKit Go.Deep
set_option linter.unusedVariables false

theorem own_nilP {B k : Nat} (hk : k ≠ B) : ¬ Own B (.slice none 0 0) (.slice none 0 0) k := fun e => by
  rcases e with e | e | e
  · exact hk e
  · simp [Value.ownBlock] at e
  · simp [Value.ownBlock] at e
set_option maxRecDepth 100000 in
theorem arg_intsZ {H : Type} {enc : TypeId × Value → H} {W : World} {v : Value} {d : DataW H} {p : List MemPlace} {r : Reach} {b0 : Nat}
    (hv : Value.okWide Tryz.prog W r b0 22 v) (h : DataW.Trod enc Tryz.prog W 0 (fun _ => true) true 22 v d p) (hz : ∀ k ∈ d.weights Tryz.prog 22, k ≤ reachBytes) :
    ∃ a n c xs, v = .slice a n c ∧ SlI W a n c xs ∧ n ≤ 17592186044000 := by
  obtain ⟨a, n, c, rfl⟩ := okWide_slice Tryz.underlying22 hv
  obtain ⟨fuel, hf⟩ := h
  obtain ⟨a', n', c', xs, e, h1, h2⟩ := trod_intsZ hf hz
  simp [Value.cells] at e
  obtain ⟨rfl, rfl, rfl⟩ := e
  exact ⟨a, n, c, xs, rfl, h1, h2⟩
set_option maxRecDepth 100000 in
set_option maxHeartbeats 64000000 in
theorem colourClasses_walk (a : Option Addr) (n c : Nat) (xs : List Int) (w : World) (hS : SlI w a n c xs) (hn : n ≤ 17592186044000) :
    Calls Tryz.prog 3 #[.slice a n c] w fun e w' => e = .returned (.bool true) ∧ Below w.heap.size w w' := by
  obtain ⟨B, hBe⟩ : ∃ B, w.heap.size = B := ⟨_, rfl⟩
  have hG := GivI.made w
  rw [hBe] at hG
  have bg : Below w.heap.size w (w.alloc givO) := (Below.refl _ _).alloc (Nat.le_refl _) _
  obtain ⟨wg, hwg⟩ : ∃ x, w.alloc givO = x := ⟨_, rfl⟩
  rw [hwg] at hG bg
  unfold givO at hwg
  have KI := hide (gints_any B (.slice none 0 0) (.slice none 0 0) [] (fun _ => .slice none 0 0) a n c xs wg hG (hS.below bg) hn (by simp))
  have HS := hide hS
  have HBG := hide bg
  have HBE := hide hBe
  clear hG bg hS
  go_enter Tryz.func3, Tryz.ntmps3
  go_wp2_with fail
  refine (unhide KI).mono ?_
  rintro _ w1 ⟨v0, v1, E, rfl, hE, hEn, hG1, hC1, hO1⟩
  have b1 : Below w.heap.size w w1 := (unhide HBG).trans (hC1.below (unhide HBG).size (fun k hk => own_nilP (by have := unhide HBE; omega)))
  have hSE := hG1.sli (E := E) (by simp) hE (unhide HS).len
  have hS1 := (unhide HS).below b1
  have HG1 := hide hG1
  have HB1 := hide b1
  have HEL := hide (show ∀ e ∈ [] ++ [E], e.xs.length ≤ 17592186044000 from fun e he => by
    simp at he
    subst he
    rw [hE, (unhide HS).len]
    exact hn)
  clear hG1 hC1 hO1 hEn b1 KI
  by_cases hy : n ≤ 128 ∧ MayC xs n
  · have KC := hide (cclasses_yes (some ⟨E.b, 0, none⟩) n E.c xs w1 hSE hy.1 hy.2 (fun e => by cases e))
    have HS1 := hide hS1
    have HY := hide hy
    clear hSE hS1 hy hE
    go_wp2_with fail
    refine (unhide KC).mono ?_
    rintro _ w2 ⟨t, L, z, f, hA⟩
    have e2 := hA.ret
    subst e2
    have b2 := hA.bel
    have KW := hide (wclasses_yes a n c xs w2 ((unhide HS1).below b2) (unhide HY).1 (unhide HY).2)
    have HG2 := hide ((unhide HG1).below b2)
    have HB2 := hide ((unhide HB1).trans (b2.mono (unhide HB1).size))
    have HA := hide hA
    clear KC b2 hA
    go_wp2_with fail
    refine (unhide KW).mono ?_
    rintro _ w3 ⟨t', lv, vs, hW⟩
    have e3 := hW.ret
    subst e3
    have b3 := hW.bel
    have hzl : vs.length = z := by
      have := MaxTo.one (show MaxTo _ _ _ from hW.num) (show MaxTo _ _ _ from (unhide HA).num)
      omega
    have hz7 : z ≤ 65537 := by
      have := (numC_may (unhide HA).num (unhide HS).len (unhide HY).2).2.1
      omega
    obtain ⟨A, cp, hlv⟩ : ∃ A cp, lv = .slice A z cp := by
      rcases hW.ln.row.2 with ⟨e, e2⟩ | ⟨g, cap, cur, e, _⟩
      · exact ⟨none, 0, by rw [e, ← hzl, e2]⟩
      · exact ⟨_, _, by rw [← hzl]; exact e⟩
    subst hlv
    have HL3 := hide ((unhide HA).ln.below b3)
    have HW3 := hide hW.ln
    have HZL := hide hzl
    have tz : ((z : Int) != (z : Int)) = false := by simp
    have HG3 := hide ((unhide HG2).below b3)
    have HB3 := hide ((unhide HB2).trans (b3.mono (unhide HB2).size))
    clear KW b3 HG2 hW hzl
    go_wp2_with fail
    refine (num12_any 0 w3).mono ?_
    rintro _ wn ⟨rfl, hwn⟩
    rw [hwn]
    clear hwn wn
    go_wp2_with fail
    refine (intactI_any w3 B v0 v1 ([] ++ [E]) (unhide HG3) (by simp) (unhide HEL)).mono ?_
    rintro _ w4 ⟨rfl, kx, hkx⟩
    have b4 : Below w3.heap.size w3 w4 := by rw [hkx]; exact bel_drewN (Below.refl _ _) kx
    have HB4 := hide ((unhide HB3).trans (b4.mono (unhide HB3).size))
    have HL4 := hide ((unhide HL3).below b4)
    have HW4 := hide ((unhide HW3).below b4)
    clear hkx b4
    go_wp2_with fail
    refine (calive_any w4).mono ?_
    rintro _ w5 ⟨rfl, b5⟩
    have HB5 := hide ((unhide HB4).trans (b5.mono (unhide HB4).size))
    have HL5 := hide ((unhide HL4).below b5)
    have HW5 := hide ((unhide HW4).below b5)
    clear b5
    go_wp2_with fail
    go_loopw [8, 39] (fun iv _ wr => ∃ i : Nat, i ≤ z ∧ iv = .int .i64 (i : Int) ∧ Hid (Below w5.heap.size w5 wr)) (fun iv _ _ => z - (intOf iv).toNat)
    case atStart => exact ⟨0, Nat.zero_le _, rfl, hide (Below.refl _ _)⟩
    case round =>
      obtain ⟨i, hi, rfl, HW⟩ := hrel
      by_cases hin : i < z
      · have hin' : (i : Int) < (z : Int) := by omega
        have hL := (unhide HL5).below (unhide HW)
        have hV := (unhide HW5).below (unhide HW)
        have hzl := unhide HZL
        obtain ⟨a1, d1, e1, s1⟩ := own_slI (hL.own i hin)
        obtain ⟨a2, d2, e2, s2⟩ := own_slI (hV.own i (by omega))
        have lk := hL.row.cell hin
        rw [e1] at lk
        obtain ⟨G, cp2, cur, eA, _, _, _⟩ := hV.row.2.resolve_left (fun e => by have := e.2; omega)
        injection eA with q1 q2 q3
        subst q1 q3
        have hrow := hV.row
        rw [hzl] at hrow
        have lx : wr.cell? ⟨G, i, none⟩ = some (.slice a2 (grR (ClsP xs) i n).length d2) := by
          rw [hrow.cellAt i (by omega), ← e2, List.getD, List.getElem?_eq_getElem (by omega)]
          rfl
        have hyl : (grR (ClsP xs) i n).length ≤ 128 := by have := grR_len (ClsP xs) i n; have := (unhide HY).1; omega
        have HKS := hide (show ∀ x' : Ext wr, Calls Tryz.prog 10 #[.slice a1 (grR (ClsP xs) i n).length d1, .slice a2 (grR (ClsP xs) i n).length d2] x'.w fun e w' => e = .returned (.bool true) ∧ Below x'.w.heap.size x'.w w' from fun x' => (sameInts_eq a1 a2 _ d1 d2 _ x'.w (s1.below x'.bel) (s2.below x'.bel) (by omega)).mono (fun e w' ⟨h1, k, h2⟩ => ⟨h1, by rw [h2]; exact bel_drewN (Below.refl _ _) k⟩))
        obtain ⟨m, hm⟩ : ∃ m, (grR (ClsP xs) i n).length = m := ⟨_, rfl⟩
        rw [hm] at HKS lk lx
        have Flk := fun x' : Ext wr => x'.cell lk
        have Flx := fun x' : Ext wr => x'.cell lx
        have hNE := Ext.ne wr
        clear hL hV hzl e1 s1 e2 s2 q2 hrow hyl hm lk lx
        go_wp2_with fail
        refine wp_region_ext (by kernel_rfl) (by kernel_rfl) ?_
        repeat (go_big_quiet_step ((go_at_call 10; rename_i x'; exact Ext.call (unhide HKS x') (fun e w' h => h))))
        refine wpQuiet_nil ?_
        rintro _ ⟨xE, rfl⟩
        have HB6 := hide (show Below w5.heap.size w5 xE.w from (unhide HW).trans (xE.bel.mono (unhide HW).size))
        clear HKS Flk Flx hNE
        go_wp2_with fail
        exact ⟨⟨i + 1, by omega, by (first | rfl | go_num), HB6⟩, by simp [intOf]; omega⟩
      · obtain rfl : i = z := by omega
        have hin' : ¬ (i : Int) < (i : Int) := by omega
        go_wp2_with fail
        try go_ret
        exact ⟨rfl, by have h9 := (unhide HB5).trans ((unhide HW).mono (unhide HB5).size); first | exact h9 | (rw [unhide HBE] at h9; exact h9)⟩
  · have KC := hide (cclasses_no (some ⟨E.b, 0, none⟩) n E.c xs w1 hSE (by omega) hy)
    have HS1 := hide hS1
    have HY := hide hy
    clear hSE hS1 hy hE
    go_wp2_with fail
    refine (unhide KC).mono ?_
    rintro _ w2 ⟨rfl, b2⟩
    have KW := hide (wclasses_no a n c xs w2 ((unhide HS1).below b2) (by omega) (unhide HY))
    have HG2 := hide ((unhide HG1).below b2)
    have HB2 := hide ((unhide HB1).trans (b2.mono (unhide HB1).size))
    clear KC b2
    go_wp2_with fail
    refine (unhide KW).mono ?_
    rintro _ w3 ⟨rfl, b3⟩
    have HG3 := hide ((unhide HG2).below b3)
    have HB3 := hide ((unhide HB2).trans (b3.mono (unhide HB2).size))
    clear KW b3 HG2
    go_wp2_with fail
    refine (num12_any 240 w3).mono ?_
    rintro _ wn ⟨rfl, hwn⟩
    rw [hwn]
    clear hwn wn
    go_wp2_with fail
    refine (intactI_any w3 B v0 v1 ([] ++ [E]) (unhide HG3) (by simp) (unhide HEL)).mono ?_
    rintro _ w4 ⟨rfl, kx, hkx⟩
    have b4 : Below w3.heap.size w3 w4 := by rw [hkx]; exact bel_drewN (Below.refl _ _) kx
    have HB4 := hide ((unhide HB3).trans (b4.mono (unhide HB3).size))
    clear hkx b4
    go_wp2_with fail
    refine (calive_any w4).mono ?_
    rintro _ w5 ⟨rfl, b5⟩
    have HB5 := hide ((unhide HB4).trans (b5.mono (unhide HB4).size))
    clear b5
    go_wp2_with fail
    go_loopw [8, 39] (fun iv _ wr => iv = .int .i64 0 ∧ Hid (wr = w5)) (fun _ _ _ => 0)
    case atStart => exact ⟨rfl, hide rfl⟩
    case round =>
      obtain ⟨rfl, HW⟩ := hrel
      go_wp2_with fail
      try go_ret
      exact ⟨rfl, by rw [unhide HW]; exact unhide HB5⟩
theorem law_own : ownKnob Tryz.prog.godebug = none := by kernel_rfl
theorem law_laid : laidOutB Tryz.prog = true := by kernel_rfl
set_option maxRecDepth 100000 in
theorem colourClasses_lifted (os : Os) (started : os.Started) (H : Type) (enc : TypeId × Value → H) :
    ReturnsInHanded {} Tryz.checked os 3 .any (Rows.colourClassesSpec.pre6 enc Tryz.prog Tryz.f3 Rows.colourClassesRow.domain false) (Rows.colourClassesSpec.post enc Tryz.prog Tryz.f3 false true false false) := by
  refine returnsInHanded_of_change_sized (C := Tryz.checked) law_own started (by kernel_rfl) Tryz.func3
    (ChangeSpec.witness6 (enc := enc) (C := Tryz.checked) false ⟨#[], #[.slice none 0 0], []⟩ 8 (by kernel_rfl) (by kernel_rfl) (by kernel_rfl) (by kernel_rfl)) ?_
  intro W base args ds gs before hval0 hW hcnd hsz _
  have hval : ∀ (j : Nat) t v, Tryz.f3.params[j]? = some t → args[j]? = some v → Value.okWide Tryz.prog W .any base t v := hval0
  have hW' := hW
  obtain ⟨p, q, hA0, hV, rfl, hfz, hnd⟩ := hW
  have hA : DataW.TrodAll enc Tryz.prog W 0 (fun _ => true) true Tryz.f3.params.toList args.toList ds p := hA0
  rw [Tryz.params3] at hA hval hsz
  obtain ⟨v0, vs0, d0, ds0, p0, q0, hargs, rfl, rfl, h0, r0⟩ := trodAll_cons hA
  obtain ⟨rfl, rfl, rfl⟩ := trodAll_nil r0
  obtain rfl : args = #[v0] := by cases args; simp_all
  obtain ⟨rfl, rfl⟩ := trodVars_none hV
  have k0 := h0
  have lt0 : ∀ x ∈ p0, x.block < W.heap.size := by obtain ⟨m, hm⟩ := k0; exact DataW.trod_lt m _ _ _ hm
  obtain ⟨a, n, c, xs, rfl, ho0, hn0⟩ := arg_intsZ (hval 0 22 v0 rfl rfl) h0 (fun k hk => by simpa using List.all_eq_true.1 hsz k (DataW.weights_mem_each (j := 0) rfl rfl k hk))
  clear hA0 hval0
  refine (colourClasses_walk a n c xs W ho0 hn0).mono fun e W' ⟨he, bel⟩ => ?_
  subst he
  exact ⟨_, rfl, _, _, _, [], _, [], hW', trodAll_mk1 (shut_bool Tryz.underlying4 _), (trodAll_cons_mk (Below.trod law_laid (by kernel_rfl) (of_decide_eq_true (by kernel_rfl)) k0 bel lt0) trodAll_mk0), rfl, bel.frame _, fun h => by cases h⟩

theorem colourClasses_holds : Rows.ColourClassesSaid :=
  OpenClaim.holds_of_wide 3 Tryz.f3 rfl rfl rfl rfl rfl rfl rfl ⟨rfl, rfl, rfl, rfl, rfl⟩ rfl rfl rfl rfl rfl (by kernel_rfl) Tryz.func3 (by kernel_rfl)
    (of_decide_eq_true (by kernel_rfl)) (by unfold Func.isWrapper; first | (rw [if_pos (by decide +kernel)]; kernel_rfl) | (rw [if_neg (by decide +kernel)]; exact ⟨rfl, rfl⟩))
    (fun os started H enc _ => colourClasses_lifted os started H enc)
#print axioms colourClasses_holds
end Go.Proofs.YtkbcmnjgkmkeaaaGreat
