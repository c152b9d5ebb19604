/-
  sloperef3.Compare: its contract.
-/
import Derived.Test.YtbendkndnojihabDoorBtm
import Derived.Test.YtbendkndnojihabDoorBo1
import Derived.Test.YtbendkndnojihabDoorBu1
import Derived.Test.YtbendkndnojihabDoorBv1
namespace Go.Proofs.YtbendkndnojihabDoor
open Go.RowKit Go.Deep
set_option linter.unusedVariables false

theorem cmpB_down {P Q : Nat → Bool} {k : Nat} : cmpB P Q (k + 1) = (if P k = Q k then cmpB P Q k else if P k = true then 1 else -1) := rfl

set_option maxHeartbeats 16000000 in
/-- sloperef3.Compare. -/
theorem rcompare_any (s1 : Int) (a1 : Option Addr) (n1 c1 : Nat) (x1 : List Nat) (s2 : Int) (a2 : Option Addr) (n2 c2 : Nat) (x2 : List Nat) (w : World) (h1 : SlW w a1 n1 c1 x1) (h2 : SlW w a2 n2 c2 x2) :
    Calls Tryd.prog 62 #[setV s1 a1 n1 c1, setV s2 a2 n2 c2] w fun r w' => r = .returned (.int .i64 (cmpR s1 x1 s2 x2)) ∧ Below w.heap.size w w' := by
  obtain ⟨wa, hwa⟩ : ∃ x, w.alloc (.cells #[.int .i64 s1, .slice a1 n1 c1] 35) = x := ⟨_, rfl⟩
  obtain ⟨wb, hwb⟩ : ∃ x, wa.alloc (.cells #[.int .i64 s2, .slice a2 n2 c2] 35) = x := ⟨_, rfl⟩
  obtain ⟨A0, hl1, hl2⟩ := enter2n hwa hwb h1 h2
  have tA := A0.t w.heap.size (.int .i64 s1) (.slice a1 n1 c1) (by simp)
  have K1 := rmay_any s1 a1 n1 c1 x1 wb (A0.w a1 n1 c1 x1 (by simp))
  have HA := hide A0
  have a0 := tA.c0
  have a1' := tA.c1
  have HL := hide (And.intro h1.len h2.len)
  clear tA A0 h1 h2
  unfold setV at K1 ⊢
  cases m1 : MayS s1 x1
  · rw [m1] at K1
    have HK1 := hide K1
    rw [cmpR_no1 m1]
    clear K1 m1
    go_enter Tryd.func62, Tryd.ntmps62
    go_wp2_with fail
    refine (unhide HK1).mono ?_
    rintro _ wd ⟨rfl, hbd⟩
    have HA1 := hide ((unhide HA).step hbd)
    clear hbd HK1 HA a0 a1'
    go_wp2_with fail
    go_ret
    exact ⟨rfl, (unhide HA1).bel⟩
  · rw [m1] at K1
    have HK1 := hide K1
    have HM1 := hide m1
    clear K1 m1
    cases m2 : MayS s2 x2
    · have HM2 := hide m2
      rw [cmpR_no2 m2]
      clear m2
      go_enter Tryd.func62, Tryd.ntmps62
      go_wp2_with fail
      refine (unhide HK1).mono ?_
      rintro _ wd ⟨rfl, hbd⟩
      have HA1 := hide ((unhide HA).step hbd)
      have tB := (unhide HA1).t wa.heap.size (.int .i64 s2) (.slice a2 n2 c2) (by simp)
      have K2 := rmay_any s2 a2 n2 c2 x2 wd ((unhide HA1).w a2 n2 c2 x2 (by simp))
      rw [unhide HM2] at K2
      unfold setV at K2
      have HK2 := hide K2
      have b0 := tB.c0
      have b1 := tB.c1
      clear hbd HK1 HA a0 a1' K2 tB
      go_wp2_with fail
      refine (unhide HK2).mono ?_
      rintro _ wd2 ⟨rfl, hbd2⟩
      have HA2 := hide ((unhide HA1).step hbd2)
      clear hbd2 HK2 HA1 b0 b1
      go_wp2_with fail
      go_ret
      exact ⟨rfl, (unhide HA2).bel⟩
    · have HM2 := hide m2
      obtain ⟨z1, hz1, hz1b⟩ := fitsI_nat (MayS.fits (unhide HM1))
      obtain ⟨z2, hz2, hz2b⟩ := fitsI_nat (MayS.fits m2)
      subst hz1
      subst hz2
      clear m2
      have HC := hide (show ∀ r, cmpR z1 x1 z2 x2 = r → Calls Tryd.prog 62 #[.agg #[.int .i64 z1, .slice a1 n1 c1], .agg #[.int .i64 z2, .slice a2 n2 c2]] w (fun e w' => e = .returned (.int .i64 r) ∧ Below w.heap.size w w') → Calls Tryd.prog 62 #[.agg #[.int .i64 z1, .slice a1 n1 c1], .agg #[.int .i64 z2, .slice a2 n2 c2]] w (fun e w' => e = .returned (.int .i64 (cmpR z1 x1 z2 x2)) ∧ Below w.heap.size w w') from fun r h k => by rw [h]; exact k)
      have hcase : (z1 < z2) ∨ (z2 < z1) ∨ z1 = z2 := by omega
      rcases hcase with hc | hc | hc
      · refine unhide HC (-1) (by rw [cmpR_off (unhide HM1) (unhide HM2) (by omega)]; unfold cmpI; rw [if_pos (by omega)]) ?_
        have hc' : (z1 : Int) < (z2 : Int) := by omega
        clear HC
        go_enter Tryd.func62, Tryd.ntmps62
        go_wp2_with fail
        refine (unhide HK1).mono ?_
        rintro _ wd ⟨rfl, hbd⟩
        have HA1 := hide ((unhide HA).step hbd)
        have tB := (unhide HA1).t wa.heap.size (.int .i64 z2) (.slice a2 n2 c2) (by simp)
        have K2 := rmay_any z2 a2 n2 c2 x2 wd ((unhide HA1).w a2 n2 c2 x2 (by simp))
        rw [unhide HM2] at K2
        unfold setV at K2
        have HK2 := hide K2
        have b0 := tB.c0
        have b1 := tB.c1
        clear hbd HK1 HA a0 a1' K2 tB
        go_wp2_with fail
        refine (unhide HK2).mono ?_
        rintro _ wd2 ⟨rfl, hbd2⟩
        have HA2 := hide ((unhide HA1).step hbd2)
        have e0 := ((unhide HA2).t w.heap.size (.int .i64 z1) (.slice a1 n1 c1) (by simp)).c0
        have e1 := ((unhide HA2).t wa.heap.size (.int .i64 z2) (.slice a2 n2 c2) (by simp)).c0
        clear hbd2 HK2 HA1 b0 b1
        go_wp2_with fail
        go_ret
        exact ⟨rfl, (unhide HA2).bel⟩
      · refine unhide HC 1 (by rw [cmpR_off (unhide HM1) (unhide HM2) (by omega)]; unfold cmpI; rw [if_neg (by omega), if_pos (by omega)]) ?_
        have hc' : (z2 : Int) < (z1 : Int) := by omega
        clear HC
        go_enter Tryd.func62, Tryd.ntmps62
        go_wp2_with fail
        refine (unhide HK1).mono ?_
        rintro _ wd ⟨rfl, hbd⟩
        have HA1 := hide ((unhide HA).step hbd)
        have tB := (unhide HA1).t wa.heap.size (.int .i64 z2) (.slice a2 n2 c2) (by simp)
        have K2 := rmay_any z2 a2 n2 c2 x2 wd ((unhide HA1).w a2 n2 c2 x2 (by simp))
        rw [unhide HM2] at K2
        unfold setV at K2
        have HK2 := hide K2
        have b0 := tB.c0
        have b1 := tB.c1
        clear hbd HK1 HA a0 a1' K2 tB
        go_wp2_with fail
        refine (unhide HK2).mono ?_
        rintro _ wd2 ⟨rfl, hbd2⟩
        have HA2 := hide ((unhide HA1).step hbd2)
        have e0 := ((unhide HA2).t w.heap.size (.int .i64 z1) (.slice a1 n1 c1) (by simp)).c0
        have e1 := ((unhide HA2).t wa.heap.size (.int .i64 z2) (.slice a2 n2 c2) (by simp)).c0
        clear hbd2 HK2 HA1 b0 b1
        go_wp2_with fail
        go_ret
        exact ⟨rfl, (unhide HA2).bel⟩
      · subst hc
        have hE : cmpR z1 x1 z1 x2 = cmpB (hasB (gW x1)) (hasB (gW x2)) z1 := by
          rw [cmpR_same (unhide HM1) (unhide HM2)]; simp
        have HE := hide hE
        have HQ1 := hide (show ∀ k, k < z1 → k / 64 < n1 from fun k hk => by rw [← (unhide HL).1, MayS.len (unhide HM1)]; unfold nW; simp; omega)
        have HQ2 := hide (show ∀ k, k < z1 → k / 64 < n2 from fun k hk => by rw [← (unhide HL).2, MayS.len (unhide HM2)]; unfold nW; simp; omega)
        clear HC hE
        generalize cmpR z1 x1 z1 x2 = V at *
        go_enter Tryd.func62, Tryd.ntmps62
        go_wp2_with fail
        refine (unhide HK1).mono ?_
        rintro _ wd ⟨rfl, hbd⟩
        have HA1 := hide ((unhide HA).step hbd)
        have tB := (unhide HA1).t wa.heap.size (.int .i64 z1) (.slice a2 n2 c2) (by simp)
        have K2 := rmay_any z1 a2 n2 c2 x2 wd ((unhide HA1).w a2 n2 c2 x2 (by simp))
        rw [unhide HM2] at K2
        unfold setV at K2
        have HK2 := hide K2
        have b0 := tB.c0
        have b1 := tB.c1
        clear hbd HK1 HA a0 a1' K2 tB
        go_wp2_with fail
        refine (unhide HK2).mono ?_
        rintro _ w1 ⟨rfl, hb1⟩
        have HA2 := hide ((unhide HA1).step hb1)
        have e0 := ((unhide HA2).t w.heap.size (.int .i64 z1) (.slice a1 n1 c1) (by simp)).c0
        have e1 := ((unhide HA2).t wa.heap.size (.int .i64 z1) (.slice a2 n2 c2) (by simp)).c0
        clear hb1 HK2 HA1 b0 b1 hwa hwb
        go_wp2_with fail
        clear e0 e1
        go_loopw [5, 6] (fun i _ wr => ∃ k : Nat, k ≤ z1 ∧ i = .int .i64 ((k : Int) - 1) ∧ V = cmpB (hasB (gW x1)) (hasB (gW x2)) k ∧ Facts w wr [fT wa.heap.size (.int .i64 z1) (.slice a2 n2 c2), fT w.heap.size (.int .i64 z1) (.slice a1 n1 c1), fW a1 n1 c1 x1, fW a2 n2 c2 x2]) (fun i _ _ => (intOf i + 1).toNat)
        case atStart => exact ⟨z1, Nat.le_refl _, rfl, unhide HE, unhide HA2⟩
        case round =>
          obtain ⟨k0, hk, rfl, hv, hA3⟩ := hrel
          have HV := hide hv
          have HA3 := hide hA3
          have tA := hA3.t w.heap.size (.int .i64 z1) (.slice a1 n1 c1) (by simp)
          have e0 := tA.c0
          have e1 := tA.c1
          clear tA hA3 hv
          cases k0 with
          | succ k =>
            have hki : ((k + 1 : Nat) : Int) - 1 = (k : Int) := by omega
            rw [hki]
            have hk0 : (0 : Int) ≤ (k : Int) := by omega
            have hlt : k < z1 := by omega
            have K := in_any z1 a1 n1 c1 x1 k wr ((unhide HA3).w a1 n1 c1 x1 (by simp)) (unhide HQ1 k hlt) (by omega)
            unfold setV at K
            have HX := hide (show hasB (gW x1) k = hasB (fun i => x1.getD i 0) k from rfl)
            generalize hasB (fun i => x1.getD i 0) k = v1 at *
            have HK := hide K
            clear K hki
            go_wp2_with fail
            refine (unhide HK).mono ?_
            rintro _ w2 ⟨rfl, hb2⟩
            have HA4 := hide ((unhide HA3).step hb2)
            have tB := (unhide HA4).t wa.heap.size (.int .i64 z1) (.slice a2 n2 c2) (by simp)
            have g0 := tB.c0
            have g1 := tB.c1
            have K := in_any z1 a2 n2 c2 x2 k w2 ((unhide HA4).w a2 n2 c2 x2 (by simp)) (unhide HQ2 k hlt) (by omega)
            unfold setV at K
            have HY := hide (show hasB (gW x2) k = hasB (fun i => x2.getD i 0) k from rfl)
            generalize hasB (fun i => x2.getD i 0) k = v2 at *
            have HK2 := hide K
            clear K tB hb2 HK e0 e1
            go_wp2_with fail
            refine (unhide HK2).mono ?_
            rintro _ w3 ⟨rfl, hb3⟩
            have HA5 := hide ((unhide HA4).step hb3)
            clear hb3 HK2 g0 g1 HA4
            cases v1 <;> cases v2
            · go_wp2_with fail
              refine ⟨⟨k, by omega, rfl, ?_, unhide HA5⟩, by simp [intOf]⟩
              rw [unhide HV, cmpB_down, unhide HX, unhide HY, if_pos rfl]
            · go_wp2_with fail
              go_ret
              rw [unhide HV, cmpB_down, unhide HX, unhide HY]
              exact ⟨rfl, (unhide HA5).bel⟩
            · go_wp2_with fail
              go_ret
              rw [unhide HV, cmpB_down, unhide HX, unhide HY]
              exact ⟨rfl, (unhide HA5).bel⟩
            · go_wp2_with fail
              refine ⟨⟨k, by omega, rfl, ?_, unhide HA5⟩, by simp [intOf]⟩
              rw [unhide HV, cmpB_down, unhide HX, unhide HY, if_pos rfl]
          | zero =>
            have hneg : ((0 : Nat) : Int) - 1 = -1 := by omega
            rw [hneg]
            go_wp2_with fail
            go_ret
            rw [unhide HV]
            exact ⟨rfl, (unhide HA3).bel⟩
end Go.Proofs.YtbendkndnojihabDoor

namespace Go.Proofs.YtbendkndnojihabDoor
open Go.RowKit Go.Deep
set_option linter.unusedVariables false

set_option maxHeartbeats 16000000 in
/-- sloperef3.MayTable. -/
theorem rmayT_any (s : Int) (a : Option Addr) (n c : Nat) (L : List SetC) (w : World) (h : SlS w a n c L) :
    Calls Tryd.prog 10 #[setV s a n c] w fun r w' => r = .returned (.bool (MayT s L)) ∧ Below w.heap.size w w' := by
  have hle := h.le
  have hcap := h.cap
  unfold maxLen at hcap
  obtain ⟨wa, hwa⟩ : ∃ wa, w.alloc (.cells #[.int .i64 s, .slice a n c] 24) = wa := ⟨_, rfl⟩
  have hb : Below w.heap.size w wa := by rw [← hwa]; exact (Below.refl _ _).alloc (Nat.le_refl _) _
  have hT : Two wa w.heap.size (.int .i64 s) (.slice a n c) := by rw [← hwa]; exact Two.made _ _ _ _
  have t0 := hT.c0
  have t1 := hT.c1
  have HB := hide hb
  have HT := hide hT
  have HSl := hide h
  have hl := h.len
  have HLn := hide hl
  unfold setV
  clear h hb hT
  by_cases hf : s < 0 ∨ 4096 < s
  · have e0 : MayT s L = false := by
      have : fitsI s = false := by simp [fitsI]; omega
      simp [MayT, this]
    rw [e0]
    rcases hf with hf | hf
    all_goals
      go_enter Tryd.func10, Tryd.ntmps10
      go_wp2_with fail
      all_goals
        go_ret
        exact ⟨rfl, unhide HB⟩
  · have hf0 : ¬ (s < 0) := by omega
    have hf1 : ¬ (4096 < s) := by omega
    have hfit : fitsI s = true := by simp [fitsI]; omega
    clear hf
    by_cases h4 : 4096 < n
    · have e0 : MayT s L = false := by
        have : ¬ L.length ≤ 4096 := by omega
        simp [MayT, hfit, this]
      rw [e0]
      have h4' : (4096 : Int) < (n : Int) := by omega
      clear e0
      go_enter Tryd.func10, Tryd.ntmps10
      go_wp2_with fail
      go_ret
      exact ⟨rfl, unhide HB⟩
    · have e0 : MayT s L = !L.any (badT s) := by
        have : L.length ≤ 4096 := by omega
        simp [MayT, hfit, this]
      rw [e0]
      have h4' : ¬ (4096 : Int) < (n : Int) := by omega
      clear e0 hl hfit
      go_enter Tryd.func10, Tryd.ntmps10
      go_wp2_with fail
      clear t0 t1 hwa
      go_loopw [3] (fun i wr => ∃ k : Nat, k ≤ n ∧ i = .int .i64 k ∧ (L.take k).any (badT s) = false ∧ Two wr w.heap.size (.int .i64 s) (.slice a n c) ∧ Below w.heap.size w wr) (fun i _ => n - (intOf i).toNat)
      case atStart => exact ⟨0, Nat.zero_le _, rfl, rfl, unhide HT, unhide HB⟩
      case round =>
        obtain ⟨k, hk, rfl, hok, ht, hbl⟩ := hrel
        have u0 := ht.c0
        have u1 := ht.c1
        by_cases hlt : k < n
        · have hlt' : (k : Int) < (n : Int) := by omega
          have hkl : k < L.length := by rw [unhide HLn]; exact hlt
          have hS := (unhide HSl).below hbl
          obtain ⟨b, off, rfl, hcells⟩ := hS.at (by omega)
          have g1 := (hcells k hlt).1
          have g2 := (hcells k hlt).2
          have hin := hS.get k hlt
          have HAny := hide (any_takeS hkl (badT s))
          have HBad := hide (fun h => any_badS (p := badT s) hkl h)
          obtain ⟨e, he⟩ : ∃ e, L.getD k .nul = e := ⟨_, rfl⟩
          rw [he] at g1 g2 hin HAny HBad
          obtain ⟨es, ea, en, ec, exs⟩ := e
          simp only at g1 g2
          have F0 : ∀ x : Ext wr, x.w.cell? ⟨w.heap.size, 0, none⟩ = some (.int .i64 s) := fun x => x.cell u0
          have F1 : ∀ x : Ext wr, x.w.cell? ⟨w.heap.size, 1, none⟩ = some (.slice (some ⟨b, off, none⟩) n c) := fun x => x.cell u1
          have F2 : ∀ x : Ext wr, x.w.cell? ⟨b, off + k * 2, none⟩ = some (.int .i64 es) := fun x => x.cell g1
          have F3 : ∀ x : Ext wr, x.w.cell? ⟨b, off + k * 2 + 1, none⟩ = some (.slice ea en ec) := fun x => x.cell g2
          have hNE := Ext.ne wr
          have HIn := hide (fun x : Ext wr => hin.1.below x.bel)
          clear g1 g2 hcells hin he hS
          have HO := hide hok
          have HBl := hide hbl
          have HTw := hide ht
          have hbt : badT s ⟨es, ea, en, ec, exs⟩ = ((!MayS es exs) || decide (es ≠ s)) := rfl
          rw [hbt] at HAny HBad
          clear hok hbl ht hbt
          have K := fun x : Ext wr => rmay_any es ea en ec exs x.w (unhide HIn x)
          unfold setV at K
          cases hm : MayS es exs
          · rw [hm] at K HAny HBad
            have HK := hide K
            clear K hm
            go_wp2_with fail
            refine wp_region_ext (by kernel_rfl) (by kernel_rfl) ?_
            repeat (go_big_quiet_step ((rename_i x; exact Ext.call (unhide HK x) (fun e w' h => h))))
            refine wpQuiet_nil ?_
            rintro _ ⟨x, rfl⟩
            have HB2 := hide ((unhide HBl).trans (x.bel.mono (unhide HBl).size))
            go_wp2_with fail
            go_ret
            rw [unhide HBad (by simp)]
            exact ⟨rfl, unhide HB2⟩
          · rw [hm] at K HAny HBad
            have HK := hide K
            clear K hm
            by_cases hes : es = s
            · subst hes
              go_wp2_with fail
              refine wp_region_ext (by kernel_rfl) (by kernel_rfl) ?_
              repeat (go_big_quiet_step ((rename_i x; exact Ext.call (unhide HK x) (fun e w' h => h))))
              refine wpQuiet_nil ?_
              rintro _ ⟨x, rfl⟩
              have HB2 := hide ((unhide HBl).trans (x.bel.mono (unhide HBl).size))
              have HT2 := hide ((unhide HTw).keep x.bel)
              go_wp2_with fail
              exact ⟨⟨k + 1, by omega, by go_num, by rw [unhide HAny, unhide HO]; simp, unhide HT2, unhide HB2⟩, by simp [intOf]; omega⟩
            · have hes' : (es == s) = false := by simpa using hes
              have hes2 : (es != s) = true := by simpa using hes
              go_wp2_with fail
              refine wp_region_ext (by kernel_rfl) (by kernel_rfl) ?_
              repeat (go_big_quiet_step ((rename_i x; exact Ext.call (unhide HK x) (fun e w' h => h))))
              refine wpQuiet_nil ?_
              rintro _ ⟨x, rfl⟩
              have HB2 := hide ((unhide HBl).trans (x.bel.mono (unhide HBl).size))
              go_wp2_with fail
              go_ret
              rw [unhide HBad (by simp [hes])]
              exact ⟨rfl, unhide HB2⟩
        · have hlt' : ¬ (k : Int) < (n : Int) := by omega
          have hkn : k = n := by omega
          subst hkn
          have hall : L.take k = L := by rw [List.take_of_length_le]; rw [unhide HLn]; exact Nat.le_refl _
          rw [hall] at hok
          have HO := hide hok
          have HBl := hide hbl
          clear hok hbl hall ht
          go_wp2_with fail
          go_ret
          rw [unhide HO]
          exact ⟨rfl, unhide HBl⟩
end Go.Proofs.YtbendkndnojihabDoor
