/-
  ORDERS: sloperef11.Graph: contract.
-/
import Derived.Test.YtdcdgojcboinaaaCq2
import Derived.Test.YtdcdgojcboinaaaCr2
namespace Go.Proofs.Ytdcdgojcboinaaa
open Go.RowKit Go.Deep
set_option linter.unusedVariables false

set_option maxRecDepth 100000 in
set_option maxHeartbeats 8000000 in
/-- sloperef11.Graph of a pattern that is not square, or may not be. -/
theorem wograph_bad (rows width : Int) (a1 a2 : Option Addr) (n1 c1 n2 c2 : Nat) (st cols : List Int) (w : World) (h1 : SlI w a1 n1 c1 st) (h2 : SlI w a2 n2 c2 cols) (hb1 : n1 ≤ 17592186044000) (hb2 : n2 ≤ 17592186044000) (hno : ¬ (MayP rows width st cols ∧ rows = width)) :
    Calls Try.prog 16 #[patV rows width a1 n1 c1 a2 n2 c2] w fun e w' => e = .returned (.bool false) ∧ Below w.heap.size w w' := by
  obtain ⟨wb, hwb⟩ : ∃ x, w.alloc (.cells #[.int .i64 rows, .int .i64 width, .slice a1 n1 c1, .slice a2 n2 c2] 24) = x := ⟨_, rfl⟩
  have bb : Below w.heap.size w wb := by rw [← hwb]; exact (Below.refl _ _).alloc (Nat.le_refl _) _
  have hT := BoxP.made w #[.int .i64 rows, .int .i64 width, .slice a1 n1 c1, .slice a2 n2 c2] 24
  rw [hwb] at hT
  have p0 := (hT.all 0 _ rfl).1
  have p1 := (hT.all 1 _ rfl).1
  have p2 := (hT.all 2 _ rfl).1
  have p3 := (hT.all 3 _ rfl).1
  have KM := hide (womay_any rows width a1 a2 n1 c1 n2 c2 st cols wb (h1.below bb) (h2.below bb) (by omega) (by omega))
  unfold patV at KM
  have HB := hide bb
  have HT := hide hT
  clear hT bb h1 h2
  unfold patV
  by_cases hm : MayP rows width st cols
  · have hne : rows ≠ width := fun e => hno ⟨hm, e⟩
    have d1 : (rows != width) = true := by simp [hne]
    have HTQ := hide (show TruQ true (MayP rows width st cols) from ⟨fun _ => hm, fun _ => rfl⟩)
    clear hm hno hne
    go_enter Try.func16, Try.ntmps16
    go_wp2_with fail
    refine (unhide KM).mono ?_
    intro e w2 hq
    obtain ⟨rfl, b2⟩ := hq.known (unhide HTQ)
    have HB2 := hide ((unhide HB).trans (b2.mono (unhide HB).size))
    have hT2 := (unhide HT).below b2
    clear KM hq b2 p0 p1 p2 p3
    have p0 := (hT2.all 0 _ rfl).1
    have p1 := (hT2.all 1 _ rfl).1
    clear hT2
    go_wp2_with fail
    all_goals (try go_quiet (fail))
    all_goals (try go_wp2_with fail)
    all_goals (try go_ret)
    all_goals exact ⟨rfl, by first | exact unhide HB2 | exact bel_drewN (unhide HB2) _⟩
  · have HTQ := hide (show TruQ false (MayP rows width st cols) from ⟨fun e => absurd e (by decide), fun h => absurd h hm⟩)
    clear hm hno
    go_enter Try.func16, Try.ntmps16
    go_wp2_with fail
    refine (unhide KM).mono ?_
    intro e w2 hq
    obtain ⟨rfl, b2⟩ := hq.known (unhide HTQ)
    have HB2 := hide ((unhide HB).trans (b2.mono (unhide HB).size))
    have hT2 := (unhide HT).below b2
    clear KM hq b2 p0 p1 p2 p3
    have p0 := (hT2.all 0 _ rfl).1
    have p1 := (hT2.all 1 _ rfl).1
    clear hT2
    go_wp2_with fail
    all_goals (try go_quiet (fail))
    all_goals (try go_wp2_with fail)
    all_goals (try go_ret)
    all_goals exact ⟨rfl, by first | exact unhide HB2 | exact bel_drewN (unhide HB2) _⟩
/-- What Graph has seen of the rows ahead of k. -/
def SeenG (st cols : List Int) (k : Nat) : Prop := ∀ r u, r < k → InC st cols u r → u ≠ r ∧ InC st cols r u
/-- .. and of row k, up to i. -/
def SeenH (st cols : List Int) (k X i : Nat) : Prop := ∀ j u : Nat, X ≤ j → j < i → cols.getD j 0 = (u : Int) → u ≠ k ∧ InC st cols k u
set_option maxRecDepth 100000 in
set_option maxHeartbeats 16000000 in
/-- sloperef11.Graph of a square pattern that may be. -/
theorem wograph_sq (R : Nat) (a1 a2 : Option Addr) (n1 c1 n2 c2 : Nat) (st cols : List Int) (w : World) (h1 : SlI w a1 n1 c1 st) (h2 : SlI w a2 n2 c2 cols) (hb1 : n1 ≤ 17592186044000) (hb2 : n2 ≤ 17592186044000) (hm : MayP (R : Int) (R : Int) st cols) (ok : Bool) (hok : TruQ ok (GraP st cols R R)) :
    Calls Try.prog 16 #[patV (R : Int) (R : Int) a1 n1 c1 a2 n2 c2] w fun e w' => e = .returned (.bool ok) ∧ Below w.heap.size w w' := by
  have hR : R ≤ 128 := by have := hm.head.fit; omega
  obtain ⟨wb, hwb⟩ : ∃ x, w.alloc (.cells #[.int .i64 (R : Int), .int .i64 (R : Int), .slice a1 n1 c1, .slice a2 n2 c2] 24) = x := ⟨_, rfl⟩
  have bb : Below w.heap.size w wb := by rw [← hwb]; exact (Below.refl _ _).alloc (Nat.le_refl _) _
  have hT := BoxP.made w #[.int .i64 (R : Int), .int .i64 (R : Int), .slice a1 n1 c1, .slice a2 n2 c2] 24
  rw [hwb] at hT
  have p0 := (hT.all 0 _ rfl).1
  have p1 := (hT.all 1 _ rfl).1
  have p2 := (hT.all 2 _ rfl).1
  have p3 := (hT.all 3 _ rfl).1
  have KM := hide (womay_any (R : Int) (R : Int) a1 a2 n1 c1 n2 c2 st cols wb (h1.below bb) (h2.below bb) (by omega) (by omega))
  unfold patV at KM
  have HTQ := hide (show TruQ true (MayP (R : Int) (R : Int) st cols) from ⟨fun _ => hm, fun _ => rfl⟩)
  have d1 : ((R : Int) != (R : Int)) = false := by simp
  have HB := hide bb
  have HT := hide hT
  have HS := hide (And.intro h1 h2)
  have HM := hide hm
  have HOK := hide hok
  clear hT bb h1 h2 hm hok
  unfold patV
  go_enter Try.func16, Try.ntmps16
  go_wp2_with fail
  refine (unhide KM).mono ?_
  intro e w2 hq
  obtain ⟨rfl, b2⟩ := hq.known (unhide HTQ)
  have HB2 := hide ((unhide HB).trans (b2.mono (unhide HB).size))
  have HT2 := hide ((unhide HT).below b2)
  clear KM hq b2 p0 p1 p2 p3
  have p0 := ((unhide HT2).all 0 _ rfl).1
  have p1 := ((unhide HT2).all 1 _ rfl).1
  go_wp2_with fail
  go_loopw [3] (fun kv wr => ∃ k : Nat, k ≤ R ∧ kv = .int .i64 (k : Int) ∧ Hid (SeenG st cols k) ∧ Hid (Below w2.heap.size w2 wr)) (fun kv _ => R - (intOf kv).toNat)
  case atStart => exact ⟨0, Nat.zero_le _, rfl, hide (fun r u hr => absurd hr (Nat.not_lt_zero r)), hide (Below.refl _ _)⟩
  case round =>
    obtain ⟨k, hk, rfl, HN, HW⟩ := hrel
    have hTr := (unhide HT2).below (unhide HW)
    have hBr := (unhide HB2).trans ((unhide HW).mono (unhide HB2).size)
    clear p0 p1
    have p0 := (hTr.all 0 _ rfl).1
    have p2 := (hTr.all 2 _ rfl).1
    by_cases hlt : k < R
    · have hlt' : (k : Int) < (R : Int) := by omega
      obtain ⟨X, Y, hRow⟩ := (unhide HM).rowAt (k := k) (by omega)
      have hln := (unhide HS).1.len
      have hcl := (unhide HS).2.len
      have hhd := (unhide HM).head.len
      obtain ⟨b1, o1, e1, hc1⟩ := ((unhide HS).1.below hBr).at (by omega)
      subst e1
      have sX := hc1 k (by omega)
      rw [hRow.hX] at sX
      have hkn : (k : Int) < (n1 : Int) := by omega
      have hkn2 : (k : Int) + 1 < (n1 : Int) := by omega
      have HRow := hide hRow
      have hXY := hRow.le
      have hYn : Y ≤ n2 := by have := hRow.lt; omega
      have HLN := hide (And.intro hln (And.intro hcl hhd))
      clear hTr hBr hc1 hRow hln hcl hhd
      go_wp2_with fail
      go_loopw [4] (fun iv wq => ∃ i : Nat, X ≤ i ∧ i ≤ Y ∧ iv = .int .i64 (i : Int) ∧ Hid (SeenH st cols k X i) ∧ Hid (Below w2.heap.size w2 wq)) (fun iv _ => Y - (intOf iv).toNat)
      case atStart => exact ⟨X, Nat.le_refl _, hXY, rfl, hide (fun j u h1 h2 => by omega), HW⟩
      case round =>
        rename_i wq
        obtain ⟨i, hi1, hi2, rfl, HH, HV⟩ := hrel
        have hTq := (unhide HT2).below (unhide HV)
        have hBq := (unhide HB2).trans ((unhide HV).mono (unhide HB2).size)
        have q0 := (hTq.all 0 _ rfl).1
        have q1 := (hTq.all 1 _ rfl).1
        have q2 := (hTq.all 2 _ rfl).1
        have q3 := (hTq.all 3 _ rfl).1
        have hln := (unhide HLN).1
        have hhd := (unhide HLN).2.2
        obtain ⟨b1', o1', e1', hc1⟩ := ((unhide HS).1.below hBq).at (by omega)
        simp only [Option.some.injEq, Addr.mk.injEq] at e1'
        obtain ⟨rfl, rfl, _⟩ := e1'
        have sY := hc1 (k + 1) (by omega)
        rw [(unhide HRow).hY] at sY
        clear p0 p2 sX hc1
        by_cases hin : i < Y
        · have hin' : (i : Int) < (Y : Int) := by omega
          have hin2 : (i : Int) < (n2 : Int) := by omega
          obtain ⟨b2, o2, e2, hc2⟩ := ((unhide HS).2.below hBq).at (by omega)
          subst e2
          have ci := hc2 i (by omega)
          have hrg := (unhide HRow).row.rng i hi1 hin
          obtain ⟨u, hu⟩ : ∃ u : Nat, cols.getD i 0 = (u : Int) := ⟨(cols.getD i 0).toNat, by omega⟩
          rw [hu] at ci hrg
          have huR : u < R := by omega
          have HU := hide hu
          have hInU : InC st cols u k := ⟨i, by rw [(unhide HRow).hX]; omega, by rw [(unhide HRow).hY]; omega, hu⟩
          by_cases he : u = k
          · have d2 : ((u : Int) == (k : Int)) = true := by simp [he]
            have hk0 : ok = false := by
              cases hk2 : ok
              · rfl
              · exact absurd ⟨k, hlt, by rw [he] at hInU; exact hInU⟩ (Iff.mp (unhide HOK) hk2).2.2
            subst hk0
            clear hTq hln hhd hc2 hrg hu hInU he
            go_wp2_with fail
            go_quiet (fail)
            go_wp2_with fail
            try go_ret
            exact ⟨rfl, bel_drewN hBq _⟩
          · have d2 : ((u : Int) == (k : Int)) = false := by simp; omega
            obtain ⟨hs, hhs⟩ : ∃ hs : Bool, TruQ hs (InC st cols k u) := by
              by_cases hh : InC st cols k u
              · exact ⟨true, ⟨fun _ => hh, fun _ => rfl⟩⟩
              · exact ⟨false, ⟨fun e => absurd e (by decide), fun e => absurd e hh⟩⟩
            have HK := hide (show ∀ x' : Ext wr, Calls Try.prog 20 #[.agg #[.int .i64 (R : Int), .int .i64 (R : Int), .slice (some ⟨b1, o1, none⟩) n1 c1, .slice (some ⟨b2, o2, none⟩) n2 c2], .int .i64 (u : Int), .int .i64 (k : Int)] x'.w fun e w' => e = .returned (.bool hs) ∧ Below x'.w.heap.size x'.w w' from fun x' => wohas_any R (R : Int) (some ⟨b1, o1, none⟩) (some ⟨b2, o2, none⟩) n1 c1 n2 c2 st cols u k x'.w (((unhide HS).1.below hBq).below x'.bel) (((unhide HS).2.below hBq).below x'.bel) hb1 hb2 (unhide HM) huR hs hhs)
            have Fq0 := fun x' : Ext wr => x'.cell q0
            have Fq1 := fun x' : Ext wr => x'.cell q1
            have Fq2 := fun x' : Ext wr => x'.cell q2
            have Fq3 := fun x' : Ext wr => x'.cell q3
            have Fci := fun x' : Ext wr => x'.cell ci
            have hNE := Ext.ne wr
            have HHS := hide hhs
            have HIU := hide hInU
            have HBQ := hide hBq
            clear hTq hln hhd hc2 hrg hu hInU he hhs hBq q0 q1 ci
            go_wp2_with fail
            refine wp_region_ext (by kernel_rfl) (by kernel_rfl) ?_
            repeat (go_big_quiet_step ((go_at_call 20; rename_i x'; exact Ext.call (unhide HK x') (fun e w' h => h))))
            refine wpQuiet_nil ?_
            rintro _ ⟨xE, rfl⟩
            have HB6 := hide (show Below w2.heap.size w2 xE.w from (unhide HV).trans (xE.bel.mono (unhide HV).size))
            have HB7 := hide (show Below w.heap.size w xE.w from (unhide HBQ).trans (xE.bel.mono (unhide HBQ).size))
            clear HK Fq0 Fq1 Fq2 Fq3 Fci hNE q2 q3 sY
            cases hs
            · have hk0 : ok = false := by
                cases hk2 : ok
                · rfl
                · exact absurd (Iff.mpr (unhide HHS) ((Iff.mp (unhide HOK) hk2).2.1 u k huR hlt (unhide HIU))) (by decide)
              subst hk0
              go_wp2_with fail
              try go_ret
              exact ⟨rfl, unhide HB7⟩
            · have HH2 := hide (show SeenH st cols k X (i + 1) from fun j y h1 h2 h3 => by
                by_cases e : j = i
                · subst e
                  have : (y : Int) = (u : Int) := by rw [← h3, unhide HU]
                  have e3 : y = u := by omega
                  subst e3
                  exact ⟨by have := d2; simp at this; omega, Iff.mp (unhide HHS) rfl⟩
                · exact unhide HH j y h1 (by omega) h3)
              go_wp2_with fail
              exact ⟨⟨i + 1, by omega, by omega, by (first | rfl | go_num), HH2, HB6⟩, by simp [intOf]; omega⟩
        · obtain rfl : i = Y := by omega
          have hin' : ¬ (i : Int) < (i : Int) := by omega
          have HN2 := hide (show SeenG st cols (k + 1) from fun r u hr hI => by
            by_cases e : r = k
            · subst e
              obtain ⟨j, g1, g2, g3⟩ := hI
              rw [(unhide HRow).hX] at g1
              rw [(unhide HRow).hY] at g2
              exact unhide HH j u (by omega) (by omega) g3
            · exact unhide HN r u (by omega) hI)
          clear hTq hln hhd hBq
          go_wp2_with fail
          exact ⟨⟨k + 1, by omega, by (first | rfl | go_num), HN2, HV⟩, by simp [intOf]; omega⟩
    · obtain rfl : k = R := by omega
      have hlt' : ¬ (k : Int) < (k : Int) := by omega
      have hk1 : ok = true := Iff.mpr (unhide HOK) ⟨rfl, fun u v hu hv hI => (unhide HN v u hv hI).2, fun ⟨r, hr, hI⟩ => (unhide HN r r hr hI).1 rfl⟩
      subst hk1
      have HBr := hide hBr
      clear hTr hBr
      go_wp2_with fail
      try go_ret
      exact ⟨rfl, unhide HBr⟩
/-- sloperef11.Graph of every pattern. -/
theorem wograph_any (rows width : Int) (a1 a2 : Option Addr) (n1 c1 n2 c2 : Nat) (st cols : List Int) (w : World) (h1 : SlI w a1 n1 c1 st) (h2 : SlI w a2 n2 c2 cols) (hb1 : n1 ≤ 17592186044000) (hb2 : n2 ≤ 17592186044000) (ok : Bool) (hok : TruQ ok (IsGr rows width st cols)) :
    Calls Try.prog 16 #[patV rows width a1 n1 c1 a2 n2 c2] w fun e w' => e = .returned (.bool ok) ∧ Below w.heap.size w w' := by
  by_cases hm : MayP rows width st cols ∧ rows = width
  · have hf := hm.1.head.fit
    obtain ⟨R, rfl⟩ : ∃ R : Nat, rows = (R : Int) := ⟨rows.toNat, by omega⟩
    obtain ⟨hm1, rfl⟩ := hm
    exact wograph_sq R a1 a2 n1 c1 n2 c2 st cols w h1 h2 hb1 hb2 hm1 ok ⟨fun e => by
      obtain ⟨M, e1, _, _, hg⟩ := Iff.mp hok e
      have : R = M := by omega
      subst this
      exact hg, fun hg => Iff.mpr hok ⟨R, rfl, rfl, hm1, hg⟩⟩
  · have hk : ok = false := by
      cases hk2 : ok
      · rfl
      · obtain ⟨M, e1, e2, hm1, _⟩ := Iff.mp hok hk2
        exact absurd ⟨by rw [e1, e2]; exact hm1, e1.trans e2.symm⟩ hm
    subst hk
    exact wograph_bad rows width a1 a2 n1 c1 n2 c2 st cols w h1 h2 hb1 hb2 hm
end Go.Proofs.Ytdcdgojcboinaaa
