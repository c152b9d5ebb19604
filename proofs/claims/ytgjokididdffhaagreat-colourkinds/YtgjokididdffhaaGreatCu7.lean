/- Cu7 -/
import Derived.Test.YtgjokididdffhaaGreatCh8
namespace Go.Proofs.YtgjokididdffhaaGreat
open Go.RowKit Go.Deep
set_option linter.unusedVariables false
theorem FrC.grow {X o : Nat} {a b c : World} (h : FrC X o a b) (k : Chg (fun j => a.heap.size ≤ j) b c) (hX : X < a.heap.size) : FrC X o a c :=
  ⟨h.chg.then2 k (fun j hj e => by have e' : a.heap.size ≤ j := e; omega), fun i hi => by
    have hb := k.block X (Nat.lt_of_lt_of_le hX h.chg.size) (fun e => by have e' : a.heap.size ≤ X := e; omega)
    have h1 := h.fr i hi
    exact ⟨by rw [← h1.1]; unfold World.cell?; rw [hb], by rw [← h1.2]; unfold World.frozen?; rw [hb]⟩⟩
set_option maxRecDepth 100000 in
set_option maxHeartbeats 16000000 in
theorem cgrow_any (X o R : Nat) (pf : Nat → Nat) (a1 : Option Addr) (n1 c1 : Nat) (a2 : Option Addr) (n2 c2 : Nat) (g : Nat) (cs : Nat → Int) (st cols : List Int) (w : World) (hF : RoF w X o pf) (hX : X < w.heap.size) (h1 : SlI w a1 n1 c1 st) (h2 : SlI w a2 n2 c2 cols) (hb1 : n1 ≤ 17592186044000) (hb2 : n2 ≤ 17592186044000) (hm : MayP (R : Int) (R : Int) st cols) (hg : GraP st cols R R) (hc : RoV w g R (fun i => .int .i64 (cs i))) (hcs : ∀ i, i < R → -1 ≤ cs i ∧ cs i < (R : Int)) (o1 : ∀ z, a1 = some z → st ≠ [] → z.block ≠ X) (o2 : ∀ z, a2 = some z → cols ≠ [] → z.block ≠ X) (hgX : g ≠ X) :
    Calls Tryz.prog 130 #[.pointer (some ⟨X, o, none⟩), patV (R : Int) (R : Int) a1 n1 c1 a2 n2 c2, .slice (some ⟨g, 0, none⟩) R R] w fun e w' => GwP X o R cs st cols w w' e := by
  have hR : R ≤ 128 := by have := hm.head.fit; omega
  obtain ⟨wb, hwb⟩ : ∃ x, w.alloc (.cells #[.int .i64 (R : Int), .int .i64 (R : Int), .slice a1 n1 c1, .slice a2 n2 c2] 25) = x := ⟨_, rfl⟩
  have bb : Below w.heap.size w wb := by rw [← hwb]; exact (Below.refl _ _).alloc (Nat.le_refl _) _
  have hT := BoxP.made w #[.int .i64 (R : Int), .int .i64 (R : Int), .slice a1 n1 c1, .slice a2 n2 c2] 25
  rw [hwb] at hT
  have p0 := (hT.all 0 _ rfl).1
  have hXb : w.heap.size ≠ X := by omega
  have KP := hide (cpart_any X o R pf wb hR (hF.below bb))
  have HB := hide bb
  have HT := hide hT
  have HC0 := hide (FrC.of_below (X := X) (o := o) bb hX)
  have HS := hide (And.intro (h1.below bb) (h2.below bb))
  have HC := hide (hc.below bb)
  have HM := hide (And.intro hm hg)
  have HCS := hide hcs
  have HO := hide (And.intro o1 o2)
  clear hT bb h1 h2 hc hm hg hcs hF o1 o2
  unfold patV
  go_enter Tryz.func130, Tryz.ntmps130
  go_wp2_with fail
  refine (unhide KP).mono ?_
  rintro _ w2 ⟨⟨z0, rfl⟩, pf2, hF2, hid, hC2⟩
  have HN := hide (show ∀ W, Chg (fun j => j = X) wb W → BoxP W w.heap.size [.int .i64 (R : Int), .int .i64 (R : Int), .slice a1 n1 c1, .slice a2 n2 c2] ∧ SlI W a1 n1 c1 st ∧ SlI W a2 n2 c2 cols ∧ RoV W g R (fun i => .int .i64 (cs i)) from fun W k => ⟨(unhide HT).chg k hXb, (unhide HS).1.chg k (fun z hz hn => (unhide HO).1 z hz hn), (unhide HS).2.chg k (fun z hz hn => (unhide HO).2 z hz hn), (unhide HC).chg k hgX⟩)
  have HI0 := hide (show ∃ pf' ro h M, RoF w2 X o pf' ∧ UfI (elD R) pf' ro h M ∧ UfE (adG st cols R) cs R ro (fun u v => adG st cols R u v ∧ u ≤ v ∧ u < 0) ∧ FrC X o wb w2 from ⟨pf2, _, _, _, hF2, UfI.alone hid, UfE.none.more (fun u v a b h _ _ => absurd h.2.2 (Nat.not_lt_zero _)), hC2⟩)
  have p0 := ((unhide HN w2 hC2.chg).1.all 0 _ rfl).1
  clear KP hF2 hid hC2
  go_wp2_with fail
  clear p0
  obtain ⟨i2, hi, hz, hs, hb⟩ := info_parts info_two
  have HI := hide (And.intro hi (And.intro hz (And.intro hs hb)))
  clear hi hz hs hb
  go_loopw [19, 7] (fun uv cv wr => ∃ u : Nat, u ≤ R ∧ uv = .int .i64 (u : Int) ∧ Hid (ClC wr wb.heap.size cv (u * 128)) ∧ Hid (∃ pf' ro h M, RoF wr X o pf' ∧ UfI (elD R) pf' ro h M ∧ UfE (adG st cols R) cs R ro (fun p q => adG st cols R p q ∧ p ≤ q ∧ p < u) ∧ FrC X o wb wr)) (fun uv _ _ => R - (intOf uv).toNat)
  case atStart => exact ⟨0, Nat.zero_le _, rfl, hide ⟨0, [], Nat.zero_le _, World.ownsRow_nil _ _ _ _⟩, HI0⟩
  case round =>
    obtain ⟨u, hu, rfl, HCl, HU⟩ := hrel
    obtain ⟨pf0, ro0, h0, M0, hF0, hU0, hE0, hC0⟩ := unhide HU
    have hbx := unhide HN wr hC0.chg
    have p0 := (hbx.1.all 0 _ rfl).1
    have p1 := (hbx.1.all 1 _ rfl).1
    have p2 := (hbx.1.all 2 _ rfl).1
    have p3 := (hbx.1.all 3 _ rfl).1
    by_cases hlt : u < R
    · have hlt' : (u : Int) < (R : Int) := by omega
      have KR := hide (crow_list R (R : Int) a1 a2 n1 c1 n2 c2 st cols u wr hbx.2.1 hbx.2.2.1 hb1 hb2 (unhide HM).1 hlt)
      unfold patV at KR
      clear hF0 hU0 hE0 hC0 hbx
      go_wp2_with fail
      refine (unhide KR).mono ?_
      rintro _ w4 ⟨aN, cN, rfl, hsN, hlN, hbN, b4⟩
      have HCh0 := hide (show Chg (fun j => j = X) wr w4 from Chg.of_below b4)
      have HNr := hide (show ∀ W, Chg (fun j => j = X ∨ wb.heap.size ≤ j) w4 W → SlI W aN (rowL st cols u).length cN (rowL st cols u) from fun W k => hsN.chg k (fun z hz hn e => by
        obtain ⟨t, e1, e2⟩ := hbN z hz hn
        rw [← e2] at e
        rcases e with e | e
        · exact (unhide HO).2 t e1 (rowL_some hn) e
        · rcases (unhide HS).2.cells with c | ⟨b, off, c1, c2⟩
          · exact rowL_some hn c
          · rw [e1] at c1
            have hlt := World.block_lt_of_cell? _ _ (c2 0 (by have := rowL_some hn; cases cols with | nil => exact absurd rfl this | cons _ _ => simp))
            have : t.block = b := by cases c1; rfl
            have hlt' : b < wb.heap.size := hlt
            omega))
      have HG0 := hide (show GwI X o R cs st cols wb w4 u 0 from by
        obtain ⟨p, r, a, M, k1, k2, k3, k4⟩ := unhide HU
        have hXr : X < wr.heap.size := World.block_lt_of_cell? _ _ (k1 0 (by decide)).1
        exact ⟨p, r, a, M, k1.below b4, k2, k3.more (fun x y a' b' he _ _ => ⟨he.1, he.2.1, he.2.2.elim id (fun c => absurd c.2.choose_spec.1 (Nat.not_lt_zero _))⟩), k4.trans (FrC.of_below b4 hXr)⟩)
      have HCl0 := hide (show ClC w4 wb.heap.size _ (u * 128 + 0) from by
        obtain ⟨n, xs, k1, k2⟩ := unhide HCl
        exact ⟨n, xs, k1, ownsRow_chg (S := fun _ => False) k2 (.of_below b4) (fun _ _ => id)⟩)
      have hm128 : (rowL st cols u).length ≤ 128 := by
        exact Nat.le_trans (row_lenF (unhide HM).1 hlt) hR
      obtain ⟨m, hm⟩ : ∃ m, (rowL st cols u).length = m := ⟨_, rfl⟩
      have HMM := hide hm
      rw [hm] at hlN hm128 HNr ⊢
      clear KR hsN hbN b4 hm p0 p1 p2 p3 HU HCl
      go_wp2_with fail
      go_loopw [26, 7] (fun iv cv wr => ∃ i : Nat, i ≤ m ∧ iv = .int .i64 (i : Int) ∧ Hid (ClC wr wb.heap.size cv (u * 128 + i)) ∧ Hid (GwI X o R cs st cols wb wr u i) ∧ Hid (Chg (fun j => j = X ∨ wb.heap.size ≤ j) w4 wr)) (fun iv _ _ => m - (intOf iv).toNat)
      case atStart => exact ⟨0, Nat.zero_le _, rfl, HCl0, HG0, hide (Chg.refl _ _)⟩
      case round =>
        obtain ⟨i, hi, rfl, HCl, HG, HCh⟩ := hrel
        by_cases hin : i < m
        · have hin' : (i : Int) < (m : Int) := by omega
          obtain ⟨v, hv1, hv2⟩ := row_atF (unhide HM).1 hlt (i := i) (by rw [unhide HMM]; exact hin)
          have hIn : InC st cols v u := (rowL_mem (unhide HM).1 hlt).1 (getD_mem (by rw [unhide HMM]; exact hin) hv1)
          obtain ⟨bN, oN, rfl, hcN⟩ := (unhide HNr wr (unhide HCh)).at (by omega)
          have sc := hcN i hin
          rw [hv1] at sc
          have hgu := (unhide HCS u hlt)
          have hgv := (unhide HCS v hv2)
          obtain ⟨p4, r4, a4, M4, hF4, hU4, hE4, hC4⟩ := unhide HG
          have hro := (unhide HN wr hC4.chg).2.2.2
          have su := (hro u hlt).1
          have sv := (hro v hv2).1
          obtain ⟨cu, hcu⟩ : ∃ y, cs u = y := ⟨_, rfl⟩
          obtain ⟨cv, hcv⟩ : ∃ y, cs v = y := ⟨_, rfl⟩
          simp only [hcu] at su
          simp only [hcv] at sv
          have hlt2 : (v : Int) < (R : Int) := by omega
          have HS1 := hide (fun hs => (unhide HG).skip (v := v) hv1 hs)
          have HCl1 := hide (show ∀ k, k = i + 1 → ClC wr wb.heap.size _ (u * 128 + k) from fun k hk => by
            obtain ⟨n, xs, k1, k2⟩ := unhide HCl
            exact ⟨n, xs, by omega, k2⟩)
          have HV1 := hide hv1
          have HIN := hide hIn
          clear hcN hro hv1 hIn
          by_cases cA : v < u
          · have cA' : (v : Int) < (u : Int) := by omega
            have HG2 := hide (unhide HS1 (.inl cA))
            clear hF4 hU4 hE4 hC4 hcu hcv HS1
            go_wp2_with fail
            exact ⟨⟨i + 1, by omega, by (first | rfl | go_num), hide (unhide HCl1 _ rfl), HG2, HCh⟩, by simp [intOf]; omega⟩
          · have cA' : ¬ (v : Int) < (u : Int) := by omega
            by_cases cB : cu = -1
            · have d1 : (cu == -1) = true := by simp [cB]
              have HG2 := hide (unhide HS1 (.inr (.inl (by rw [hcu, cB]))))
              clear hF4 hU4 hE4 hC4 hcu hcv HS1 cB
              go_wp2_with fail
              exact ⟨⟨i + 1, by omega, by (first | rfl | go_num), hide (unhide HCl1 _ rfl), HG2, HCh⟩, by simp [intOf]; omega⟩
            · have d1 : (cu == -1) = false := by simp [cB]
              by_cases cC : cv = -1
              · have d2 : (cv == -1) = true := by simp [cC]
                have HG2 := hide (unhide HS1 (.inr (.inr (by rw [hcv, cC]))))
                clear hF4 hU4 hE4 hC4 hcu hcv HS1 cB cC
                go_wp2_with fail
                exact ⟨⟨i + 1, by omega, by (first | rfl | go_num), hide (unhide HCl1 _ rfl), HG2, HCh⟩, by simp [intOf]; omega⟩
              · obtain ⟨b, hb⟩ : ∃ b : Nat, cu = (b : Int) := ⟨cu.toNat, by omega⟩
                obtain ⟨a, ha⟩ : ∃ a : Nat, cv = (a : Int) := ⟨cv.toNat, by omega⟩
                subst hb ha
                have d2 : ((a : Int) == -1) = false := by simp
                have hbR : b < R := by omega
                have haR : a < R := by omega
                have hu8 : u < 128 := by omega
                have hv8 : v < 128 := by omega
                have ha8 : a < 128 := by omega
                have hb8 : b < 128 := by omega
                have D1 := elN_D hR hlt haR
                have D2 := elN_D hR hv2 hbR
                have hA : ∃ pf', RoF wr X o pf' ∧ UfI (elD R) pf' r4 a4 M4 := ⟨p4, hF4, hU4⟩
                have hNE := RgX.ne hA
                have Fu := fun x : RgX wr X o R r4 a4 M4 => x.frc.chg.cell (show ¬ g = X from hgX) su
                have Fv := fun x : RgX wr X o R r4 a4 M4 => x.frc.chg.cell (show ¬ g = X from hgX) sv
                have HA := hide hA
                have HE4 := hide hE4
                have HC4 := hide hC4
                have HCU := hide (And.intro hcu hcv)
                have L1 := elD_lt hR (hU4.rl _ D1)
                have L2 := elD_lt hR (hU4.rl _ D2)
                clear hA hF4 hU4 hE4 hC4 hcu hcv HS1 cB cC hgu hgv HG
                go_wp2_with fail
                refine wp_region_rg (X := X) (o := o) (R := R) (ro := r4) (h := a4) (M := M4) (by kernel_rfl) (by kernel_rfl) (unhide HA) ?_
                repeat (go_big_quiet_step ((first | (go_at_call 147; rename_i x'; exact x'.elem _ _ (by assumption) (by assumption)) | (go_at_call 146; rename_i x'; exact x'.root _ hR (by assumption)))))
                refine wpQuiet_nil ?_
                rintro _ ⟨xE, rfl⟩
                obtain ⟨pf6, hF6, hU6⟩ := xE.arr
                have hfr := xE.frc
                clear Fu Fv hNE HA
                generalize xE.w = w6 at *
                have hro1 : pf6 (r4 (elN u a)) = r4 (elN u a) := hU6.fx _ D1
                obtain ⟨ra, hra⟩ : ∃ y, r4 (elN u a) = y := ⟨_, rfl⟩
                obtain ⟨rb, hrb⟩ : ∃ y, r4 (elN v b) = y := ⟨_, rfl⟩
                rw [hra] at L1 hro1
                rw [hrb] at L2
                have hw16 : IntKind.i16.wrap (rb : Int) = (rb : Int) := by simp [IntKind.wrap, IntKind.bits, IntKind.signed]; omega
                have L1' : (ra : Int) < 16384 := by omega
                have HT6 := hide (show ∀ W', RoF W' X o (upF pf6 ra rb) → FrC X o wb W' → GwI X o R cs st cols wb W' u (i + 1) from fun W' k1 k2 => GwI.take hR (unhide HM).2 hU6 (unhide HE4) hlt hv2 (unhide HV1) (unhide HIN) (unhide HCU).2 (unhide HCU).1 haR hbR (by rw [hra, hrb]; exact k1) k2)
                have HF6 := hide hF6
                have HC6 := hide ((unhide HC4).trans hfr)
                have HCh6 := hide ((unhide HCh).trans (hfr.chg.mono (fun j _ e => .inl e)))
                have HCh6' := hide hfr.chg
                simp only [hra, hrb]
                clear hU6 hF6 hfr hra hrb HE4 HC4
                have HCl6 := hide (show ClC w6 wb.heap.size _ (u * 128 + i) from by
                  obtain ⟨n, xs, k1, k2⟩ := unhide HCl
                  exact ⟨n, xs, k1, ownsRow_chg k2 (unhide HCh6') (fun j hj e => by
                    have := (own_ge k2 j hj).1
                    have := unhide HB
                    have e' : j = X := e
                    have := (unhide HB).size
                    omega)⟩)
                have hXB : X < wb.heap.size := by have := (unhide HB).size; omega
                by_cases hab : ra = rb
                · have d3 : ((ra : Int) == (rb : Int)) = true := by simp [hab]
                  obtain ⟨nn, xs, hnn, hown6⟩ := unhide HCl6
                  have hle6 : wb.heap.size ≤ w6.heap.size := (unhide HC6).chg.size
                  have HOw := hide hown6
                  have hmx : nn + 1 ≤ maxLen := by unfold maxLen; omega
                  have hby : (nn + 1) * 16 ≤ 140737488355328 := by omega
                  have hone : ∀ z ∈ [Value.int .i64 (u : Int), Value.int .i64 (v : Int)], z.oneCell' = true := by intro z hz; simp at hz; rcases hz with rfl | rfl <;> rfl
                  clear hown6 hab
                  go_wp2_with (at_builtin; refine wpList_append_lies _ rfl _ _ 204 rfl wb.heap.size 206 i2 _ 2 16 Tryz.underlying204 (unhide HI).1 (unhide HI).2.1 (unhide HI).2.2.1 (unhide HI).2.2.2 rfl (by decide) _ nn xs rfl ((unhide HOw).alloc _) ⟨w6.heap.size, 0, none⟩ 1 1 [.int .i64 (u : Int), .int .i64 (v : Int)] rfl rfl (World.news_of_block (alloc_block _ _)) hone (by decide) hmx hby (by simp; omega) (w6.heap.size + 1) (by simp) ?_)
                  intro g7 cap7 w7 hown hg7 hat hlt7
                  have k67 : Chg (fun j => wb.heap.size ≤ j) w6 w7 := (Chg.of_alloc w6 _).trans (Chg.of_grown hg7 (fun k hk => (own_ge (unhide HOw) k hk).1))
                  have hF7 := (unhide HF6).chg k67 (fun e => by have e' : wb.heap.size ≤ X := e; omega)
                  have hC7 := (unhide HC6).grow k67 hXB
                  have c0 := (hF7 ra L1).1
                  have f0 := (hF7 ra L1).2
                  have HG7 := hide (unhide HT6 _ (hF7.put ra rb L1) (hC7.trans (FrC.of_set X o w7 ra _)))
                  have HCl7 := hide (show ∀ k, k = i + 1 → ClC (w7.setCell ⟨X, o + ra, none⟩ (.int .i16 (rb : Int))) wb.heap.size _ (u * 128 + k) from fun k hk => ⟨_, _, by omega, ownsRow_chg hown (Chg.of_set (S := fun j => j = X) _ _ _ _ rfl) (fun j hj e => by have := (own_ge hown j hj).1; have e' : j = X := e; omega)⟩)
                  have HCh7 := hide (((unhide HCh6).trans (k67.mono (fun j _ e => .inr e))).trans (Chg.of_set (S := fun j => j = X ∨ wb.heap.size ≤ j) w7 X (o + ra) (.int .i16 (rb : Int)) (.inl rfl)))
                  clear HT6 HF6 HC6 hown hg7 hat hlt7 k67 hF7 hC7 HOw
                  go_wp2_with fail
                  exact ⟨⟨i + 1, by omega, by (first | rfl | go_num), hide (unhide HCl7 _ rfl), HG7, HCh7⟩, by simp [intOf]; omega⟩
                · have d3 : ((ra : Int) == (rb : Int)) = false := by simp; omega
                  have c0 := (unhide HF6 ra L1).1
                  have f0 := (unhide HF6 ra L1).2
                  have HG7 := hide (unhide HT6 _ ((unhide HF6).put ra rb L1) ((unhide HC6).trans (FrC.of_set X o w6 ra _)))
                  have HCl7 := hide (show ∀ k, k = i + 1 → ClC (w6.setCell ⟨X, o + ra, none⟩ (.int .i16 (rb : Int))) wb.heap.size _ (u * 128 + k) from fun k hk => by
                    obtain ⟨n, xs, k1, k2⟩ := unhide HCl6
                    exact ⟨n, xs, by omega, ownsRow_chg k2 (Chg.of_set (S := fun j => j = X) _ _ _ _ rfl) (fun j hj e => by have := (own_ge k2 j hj).1; have e' : j = X := e; omega)⟩)
                  have HCh7 := hide ((unhide HCh6).trans (Chg.of_set (S := fun j => j = X ∨ wb.heap.size ≤ j) w6 X (o + ra) (.int .i16 (rb : Int)) (.inl rfl)))
                  clear HT6 HF6 HC6
                  go_wp2_with fail
                  exact ⟨⟨i + 1, by omega, by (first | rfl | go_num), hide (unhide HCl7 _ rfl), HG7, HCh7⟩, by simp [intOf]; omega⟩
        · obtain rfl : i = m := by omega
          have hin' : ¬ (i : Int) < (i : Int) := by omega
          have HE := hide (show ∃ pf' ro h M, RoF wr X o pf' ∧ UfI (elD R) pf' ro h M ∧ UfE (adG st cols R) cs R ro (fun p q => adG st cols R p q ∧ p ≤ q ∧ p < u + 1) ∧ FrC X o wb wr from by
            obtain ⟨p, r, a, M, k1, k2, k3, k4⟩ := unhide HG
            refine ⟨p, r, a, M, k1, k2, k3.more (fun x y a' b' he _ _ => ⟨he.1, he.2.1, ?_⟩), k4⟩
            by_cases e : x = u
            · right
              subst e
              obtain ⟨j, hj, ej⟩ := mem_getD.1 ((rowL_mem (unhide HM).1 hlt).2 he.1.2.2)
              exact ⟨rfl, j, by rw [← unhide HMM]; exact hj, ej⟩
            · exact .inl (by omega))
          have HCl1 := hide (show ClC wr wb.heap.size _ ((u + 1) * 128) from by
            obtain ⟨n, xs, k1, k2⟩ := unhide HCl
            exact ⟨n, xs, by omega, k2⟩)
          clear HG HCl
          go_wp2_with fail
          exact ⟨⟨u + 1, by omega, by (first | rfl | go_num), HCl1, HE⟩, by simp [intOf]; omega⟩
    · obtain rfl : u = R := by omega
      have hlt' : ¬ (u : Int) < (u : Int) := by omega
      have HE := hide (show ∃ pf' ro h M, RoF wr X o pf' ∧ UfI (elD u) pf' ro h M ∧ UfE (adG st cols u) cs u ro (fun p q => adG st cols u p q ∧ p ≤ q) ∧ FrC X o w wr from ⟨pf0, ro0, h0, M0, hF0, hU0, hE0.more (fun p q a b h _ _ => ⟨h.1, h.2, h.1.1⟩), (unhide HC0).trans hC0⟩)
      clear hF0 hU0 hE0 hC0 hbx
      go_wp2_with fail
      try go_ret
      exact ⟨⟨_, rfl⟩, unhide HE⟩
end Go.Proofs.YtgjokididdffhaaGreat
