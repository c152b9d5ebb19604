/- Cg8 -/
import Derived.Test.YtgjokididdffhaaGreatCg7
namespace Go.Proofs.YtgjokididdffhaaGreat
open Go.RowKit Go.Deep
set_option linter.unusedVariables false
def rowL (st cols : List Int) (i : Nat) : List Int := (cols.drop (st.getD i 0).toNat).take ((st.getD (i + 1) 0).toNat - (st.getD i 0).toNat)
def NrP (st cols : List Int) (k x : Nat) : Prop := ∃ i, i < k ∧ (MeP (rowL st cols i) (rowL st cols i).length 0 x ∨ ∃ t, t < (rowL st cols i).length ∧ (i : Int) * 128 + (rowL st cols i).getD t 0 = (x : Int))
set_option maxRecDepth 100000 in
set_option maxHeartbeats 16000000 in
theorem cnear_any (R : Nat) (width : Nat) (a1 a2 : Option Addr) (n1 c1 n2 c2 : Nat) (st cols : List Int) (P : Nat → Nat → Prop) (w : World) (h1 : SlI w a1 n1 c1 st) (h2 : SlI w a2 n2 c2 cols) (hb1 : n1 ≤ 17592186044416) (hb2 : n2 ≤ 17592186044416) (hm : MayP (R : Int) (width : Int) st cols) (hP : ∀ u v, u < R → v < R → ((NrP st cols R (u * 128 + v) ∧ u ≠ v) ↔ P u v)) :
    Calls Tryz.prog 50 #[patV (R : Int) (width : Int) a1 n1 c1 a2 n2 c2] w fun e w' => GpP w w' e R (grS P R R) (grC P R R) := by
  obtain ⟨wb, hwb⟩ : ∃ x, w.alloc (.cells #[.int .i64 (R : Int), .int .i64 (width : Int), .slice a1 n1 c1, .slice a2 n2 c2] 25) = x := ⟨_, rfl⟩
  have bb : Below w.heap.size w wb := by rw [← hwb]; exact (Below.refl _ _).alloc (Nat.le_refl _) _
  have hT := BoxP.made w #[.int .i64 (R : Int), .int .i64 (width : Int), .slice a1 n1 c1, .slice a2 n2 c2] 25
  rw [hwb] at hT
  have hO0 := BoxP.made wb #[.int .i64 0, .int .i64 0, .slice none 0 0, .slice none 0 0] 25
  obtain ⟨wo, hwo⟩ : ∃ x, wb.alloc (.cells #[.int .i64 0, .int .i64 0, .slice none 0 0, .slice none 0 0] 25) = x := ⟨_, rfl⟩
  have bo : Below wb.heap.size wb wo := by rw [← hwo]; exact (Below.refl _ _).alloc (Nat.le_refl _) _
  rw [hwo] at hO0
  have hS0 := RoV.pairs wo
  obtain ⟨ws, hws⟩ : ∃ x, wo.alloc (.cells Tryz.zeroCells137 137) = x := ⟨_, rfl⟩
  have bs : Below wo.heap.size wo ws := by rw [← hws]; exact (Below.refl _ _).alloc (Nat.le_refl _) _
  have hss : wo.heap.size < ws.heap.size := by rw [← hws]; simp
  rw [hws] at hS0
  have bws := (bb.trans (bo.mono bb.size)).trans (bs.mono (bb.trans (bo.mono bb.size)).size)
  have hT1 := (hT.below bo).below bs
  have hO1 := hO0.below bs
  have p0 := (hT1.all 0 _ rfl).1
  have p1 := (hT1.all 1 _ rfl).1
  have p2 := (hT1.all 2 _ rfl).1
  have p3 := (hT1.all 3 _ rfl).1
  have hfit := hm.head.fit
  have hR8 : R ≤ 128 := by omega
  have hW8 : width ≤ 128 := by omega
  have KR := hide (crows_any R (width : Int) a1 a2 n1 c1 n2 c2 st cols ws (h1.below bws) (h2.below bws) hb1 hb2 hm)
  have HT := hide hT1
  have HO := hide hO1
  have HLt := hide (show w.heap.size < wb.heap.size ∧ wb.heap.size < wo.heap.size ∧ wo.heap.size < ws.heap.size from ⟨hT.lt, hO0.lt, hss⟩)
  have HB := hide bws
  have HSl := hide h2
  have HM := hide hm
  have HP := hide hP
  have HS := hide hS0
  clear hT hT1 hO0 bb bo bs bws hO1 h1 h2 hm hP hS0 hss hfit
  unfold patV
  unfold patV at KR
  go_enter Tryz.func50, Tryz.ntmps50
  go_wp2_with fail
  refine (unhide KR).mono ?_
  rintro _ wl ⟨L, hLs, rfl, hL, bl⟩
  have HL := hide hL
  have HLL := hide hLs
  have HBl := hide bl
  have HS1 := hide ((unhide HS).below bl)
  clear hL hLs bl KR HS p0 p1 p2 p3
  go_wp2_with fail
  go_loopw [11, 4] (fun kv _ wr => ∃ k : Nat, k ≤ R ∧ kv = .int .i64 (k : Int) ∧ Hid (PrS wl wr wo.heap.size (NrP st cols k))) (fun kv _ _ => R - (intOf kv).toNat)
  case atStart =>
    refine ⟨0, Nat.zero_le _, rfl, hide ⟨(unhide HS1).congr (fun i hi => ?_), Chg.refl _ _⟩⟩
    rw [tb_no (show ¬ NrP st cols 0 i from fun ⟨_, h, _⟩ => absurd h (Nat.not_lt_zero _))]
  case round =>
    obtain ⟨k, hk, rfl, HK⟩ := hrel
    by_cases hlt : k < R
    · have hlt' : (k : Int) < (R : Int) := by omega
      obtain ⟨X, Y, hRow⟩ := (unhide HM).rowAt (k := k) hlt'
      have hln := (unhide HSl).len
      have hsz := unhide HLt
      have hLL := unhide HLL
      have cw : Chg (fun j => j = wo.heap.size) w wr := (Chg.of_below ((unhide HB).trans ((unhide HBl).mono (unhide HB).size))).trans (unhide HK).chg
      have hsub := (unhide HSl).sub hRow.le (by rw [← hln]; exact hRow.lt)
      have hcell := (unhide HL k hlt).1
      have eL : rowL st cols k = (cols.drop X).take (Y - X) := by unfold rowL; rw [hRow.hX, hRow.hY]; simp
      have hV : rowV st a2 c2 k = subV a2 c2 X Y := by unfold rowV; rw [hRow.hX, hRow.hY]; simp
      rw [hV] at hcell
      unfold subV at hcell
      rw [← eL] at hsub
      have hrow := (RowP.sub hRow.le).2 hRow.row
      rw [← eL] at hrow
      have hrng : ∀ i, i < Y - X → 0 ≤ (rowL st cols k).getD i 0 ∧ (rowL st cols k).getD i 0 < 128 := fun i hi => by have := hrow.rng i (Nat.zero_le _) hi; omega
      have hYX : Y - X ≤ 17592186044416 := by have := hRow.lt; omega
      obtain ⟨A, hA⟩ : ∃ A, (if c2 = X then a2 else Option.map (fun x => x.add X) a2) = A := ⟨_, rfl⟩
      rw [hA] at hcell hsub
      obtain ⟨q, hq⟩ : ∃ q, Y - X = q := ⟨_, rfl⟩
      obtain ⟨d, hd⟩ : ∃ d, c2 - X = d := ⟨_, rfl⟩
      rw [hq] at hcell hsub hrng hYX
      rw [hd] at hcell hsub
      obtain ⟨xs, hxs⟩ : ∃ xs, rowL st cols k = xs := ⟨_, rfl⟩
      rw [hxs] at hsub hrng
      have hc1 := (unhide HK).chg.cell (show ¬ L = wo.heap.size by omega) hcell
      have hne : ∀ z, A = some z → xs ≠ [] → z.block ≠ wo.heap.size := fun z e1 e2 => by have := hsub.block_lt e2 z e1; omega
      have KM := hide (pmeet_any wo.heap.size A q d xs (NrP st cols k) wr (hsub.chg cw (fun z e1 e2 => hne z e1 e2)) hYX hrng hne (unhide HK).row)
      have HQ := hide (And.intro hsub.len hxs)
      have HSb := hide (show ∀ W, Chg (fun j => j = wo.heap.size) wl W → SlI W A q d xs from fun W c => hsub.chg ((Chg.of_below ((unhide HB).trans ((unhide HBl).mono (unhide HB).size))).trans c) (fun z e1 e2 => hne z e1 e2))
      have HRg := hide hrng
      clear hcell hsub cw hne hsz hLL hln eL hV hrow hrng hA hq hd hxs hRow
      go_wp2_with fail
      refine (unhide KM).mono ?_
      rintro _ wk ⟨⟨v, rfl⟩, hpr⟩
      have HN := hide (show PrS wl wk wo.heap.size (fun x => (NrP st cols k x ∨ MeP xs q 0 x) ∨ ∃ t, t < 0 ∧ (k : Int) * 128 + xs.getD t 0 = (x : Int)) from ⟨hpr.row.congr (fun i hi => by
        rw [tb_congr (show (NrP st cols k i ∨ MeP xs q 0 i) ↔ ((NrP st cols k i ∨ MeP xs q 0 i) ∨ ∃ t, t < 0 ∧ (k : Int) * 128 + xs.getD t 0 = (i : Int)) from ⟨.inl, fun z => z.elim id (fun ⟨_, h, _⟩ => absurd h (Nat.not_lt_zero _))⟩)]), (unhide HK).chg.trans hpr.chg⟩)
      clear hpr KM hc1
      go_wp2_with fail
      go_loopw [20, 7] (fun iv _ wq => ∃ j : Nat, j ≤ q ∧ iv = .int .i64 (j : Int) ∧ Hid (PrS wl wq wo.heap.size (fun x => (NrP st cols k x ∨ MeP xs q 0 x) ∨ ∃ t, t < j ∧ (k : Int) * 128 + xs.getD t 0 = (x : Int)))) (fun iv _ _ => q - (intOf iv).toNat)
      case atStart => exact ⟨0, Nat.zero_le _, rfl, HN⟩
      case round =>
        obtain ⟨j, hj, rfl, HV⟩ := hrel
        by_cases hin : j < q
        · have hin' : (j : Int) < (q : Int) := by omega
          obtain ⟨bb', off', e1, hc⟩ := (unhide HSb _ (unhide HV).chg).at (by omega)
          subst e1
          have sv := hc j hin
          have hx2 := unhide HRg j hin
          obtain ⟨V, hVV⟩ : ∃ V : Nat, xs.getD j 0 = (V : Int) := ⟨(xs.getD j 0).toNat, by omega⟩
          rw [hVV] at sv hx2
          have hV8 : (V : Int) < 128 := hx2.2
          have hk8 : (k : Int) < 128 := by omega
          have hcell := (unhide HV).row (k * 128 + V) (by omega)
          have hc1 := hcell.1
          have hc2 := hcell.2
          have HN2 := hide (((unhide HV).put (R := fun x => (NrP st cols k x ∨ MeP xs q 0 x) ∨ ∃ t, t < j + 1 ∧ (k : Int) * 128 + xs.getD t 0 = (x : Int)) (k * 128 + V) (by omega) (fun y => by
            constructor
            · rintro (z | ⟨t, h, e⟩)
              · exact .inl (.inl z)
              · by_cases e2 : t = j
                · subst e2
                  right
                  omega
                · exact .inl (.inr ⟨t, by omega, e⟩)
            · rintro ((z | ⟨t, h, e⟩) | z)
              · exact .inl z
              · exact .inr ⟨t, by omega, e⟩
              · exact .inr ⟨j, by omega, by rw [hVV, z]; omega⟩)))
          clear hc hcell hVV hx2
          go_wp2_with fail
          try go_region
          all_goals (try go_wp2_with fail)
          all_goals exact ⟨⟨j + 1, by omega, by (first | rfl | go_num), hide (by first | exact unhide HN2 | exact (unhide HN2).drew)⟩, by simp [intOf]; omega⟩
        · obtain rfl : j = q := by omega
          have hin' : ¬ (j : Int) < (j : Int) := by omega
          go_wp2_with fail
          refine ⟨⟨k + 1, by omega, by (first | rfl | go_num), hide ((unhide HV).congr (fun x => ?_))⟩, by simp [intOf]; omega⟩
          have hq1 := (unhide HQ).1
          have hq2 := (unhide HQ).2
          constructor
          · rintro ((⟨i, h, e⟩ | e) | ⟨t, h, e⟩)
            · exact ⟨i, by omega, e⟩
            · exact ⟨k, by omega, .inl (by rw [hq2, hq1]; exact e)⟩
            · exact ⟨k, by omega, .inr ⟨t, by rw [hq2, hq1]; exact h, by rw [hq2]; exact e⟩⟩
          · rintro ⟨i, h, e⟩
            by_cases e2 : i = k
            · subst e2
              rw [hq2, hq1] at e
              rcases e with e | e
              · exact .inl (.inr e)
              · exact .inr e
            · exact .inl (.inl ⟨i, by omega, e⟩)
    · obtain rfl : k = R := by omega
      have hlt' : ¬ (k : Int) < (k : Int) := by omega
      have hsz := unhide HLt
      have bwl := (unhide HB).trans ((unhide HBl).mono (unhide HB).size)
      have cw : Chg (fun j => j = wo.heap.size) w wr := (Chg.of_below bwl).trans (unhide HK).chg
      have KG := hide (pgraph_any k wo.heap.size (fun x => tb (NrP st cols k x)) P wr hR8 (unhide HK).row (fun u v hu hv => by rw [tb_iff]; exact unhide HP u v hu hv))
      have HOr := hide (((unhide HO).below (unhide HBl)).chg (unhide HK).chg (show ¬ wb.heap.size = wo.heap.size by omega))
      have p0 := ((((unhide HT).below (unhide HBl)).chg (unhide HK).chg (show ¬ w.heap.size = wo.heap.size by omega)).all 0 _ rfl).1
      have HCw := hide cw
      clear cw hsz bwl
      go_wp2_with fail
      refine (unhide KG).mono ?_
      rintro _ wk ⟨b1, d1, b2, d2, rfl, g1, g2, bk, f1, f2⟩
      have hOk := (unhide HOr).below bk
      have q0 := (hOk.all 0 _ rfl).1
      have q1 := (hOk.all 1 _ rfl).1
      have q2 := (hOk.all 2 _ rfl).1
      have q3 := (hOk.all 3 _ rfl).1
      have r0 := (hOk.all 0 _ rfl).2
      have r1 := (hOk.all 1 _ rfl).2
      have r2 := (hOk.all 2 _ rfl).2
      have r3 := (hOk.all 3 _ rfl).2
      have HOk := hide hOk
      have HG := hide (And.intro g1 g2)
      have HBK := hide bk
      have HFr := hide (And.intro f1 f2)
      clear hOk g1 g2 bk KG f1 f2 p0
      go_wp2_with fail
      have hf := ((((unhide HOk).put 0 (.int .i64 (k : Int))).put 1 (.int .i64 (k : Int))).put 2 (.slice b1 (grS P k k).length d1)).put 3 (.slice b2 (grC P k k).length d2)
      have t0 := (hf.all 0 _ rfl).1
      have t1 := (hf.all 1 _ rfl).1
      have t2 := (hf.all 2 _ rfl).1
      have t3 := (hf.all 3 _ rfl).1
      have cc : Chg (fun j => j = wb.heap.size) wk ((((wk.setCell ⟨wb.heap.size, 0, none⟩ (.int .i64 (k : Int))).setCell ⟨wb.heap.size, 1, none⟩ (.int .i64 (k : Int))).setCell ⟨wb.heap.size, 2, none⟩ (.slice b1 (grS P k k).length d1)).setCell ⟨wb.heap.size, 3, none⟩ (.slice b2 (grC P k k).length d2)) := (((Chg.of_set (S := fun j => j = wb.heap.size) _ _ _ _ rfl).trans (Chg.of_set (S := fun j => j = wb.heap.size) _ _ _ _ rfl)).trans (Chg.of_set (S := fun j => j = wb.heap.size) _ _ _ _ rfl)).trans (Chg.of_set (S := fun j => j = wb.heap.size) _ _ _ _ rfl)
      generalize (((wk.setCell ⟨wb.heap.size, 0, none⟩ (.int .i64 (k : Int))).setCell ⟨wb.heap.size, 1, none⟩ (.int .i64 (k : Int))).setCell ⟨wb.heap.size, 2, none⟩ (.slice b1 (grS P k k).length d1)).setCell ⟨wb.heap.size, 3, none⟩ (.slice b2 (grC P k k).length d2) = wf at *
      refine bodyPost_ret (by simp [results, Tryz.results50, go_sem, t0, t1, t2, t3]; try rfl) rfl ?_
      have hwr : wb.heap.size < wr.heap.size := (unhide HOr).lt
      have h9 := unhide HLt
      refine ⟨b1, d1, b2, d2, rfl, (unhide HG).1.chg cc (fun z hz _ e => ?_), (unhide HG).2.chg cc (fun z hz _ e => ?_), ?_, fun z hz => ?_, fun z hz => ?_⟩
      · have := (unhide HFr).1 z hz; omega
      · have := (unhide HFr).2 z hz; omega
      · exact (((unhide HCw).below (Nat.le_refl _) (fun j hj e => by omega)).trans ((unhide HBK).mono (unhide HCw).size)).trans (cc.below (Nat.le_trans (unhide HCw).size (unhide HBK).size) (fun j hj e => by omega))
      · have := (unhide HFr).1 z hz; omega
      · have := (unhide HFr).2 z hz; omega
structure LnI (W : World) (t L R : Nat) (f : Nat → Value) (xs : Nat → List Int) : Prop where
  row : W.rowIs L 23 R f
  own : ∀ r, r < R → W.ownsRow t 3 1 (f r) (xs r).length (valsI (xs r))
  apart : ∀ r s, r < R → s < R → r ≠ s → ∀ g, (f r).ownBlock = some g → (f s).ownBlock ≠ some g
theorem LnI.congr {W : World} {t L R : Nat} {f : Nat → Value} {xs ys : Nat → List Int} (h : LnI W t L R f xs) (e : ∀ r, r < R → xs r = ys r) : LnI W t L R f ys := ⟨h.row, fun r hr => by rw [← e r hr]; exact h.own r hr, h.apart⟩
theorem LnI.chg {S : Nat → Prop} {W W' : World} {t L R : Nat} {f : Nat → Value} {xs : Nat → List Int} (h : LnI W t L R f xs) (k : Chg S W W') (hL : ¬ S L) (hs : ∀ j, t ≤ j → j < W.heap.size → ¬ S j) : LnI W' t L R f xs :=
  ⟨h.row.of_block (k.block L h.row.lt hL), fun r hr => ownsRow_chg (h.own r hr) k (fun j hj => hs j (own_ge (h.own r hr) j hj).1 (own_ge (h.own r hr) j hj).2), h.apart⟩
theorem LnI.below {W W' : World} {t L R : Nat} {f : Nat → Value} {xs : Nat → List Int} (h : LnI W t L R f xs) (k : Below W.heap.size W W') : LnI W' t L R f xs := h.chg (S := fun _ => False) (Chg.of_below k) (fun x => x) (fun _ _ _ x => x)
theorem LnI.app {W W3 : World} {t L R k : Nat} {f : Nat → Value} {xs : Nat → List Int} {x : Int} {g cap : Nat} (h : LnI W t L R f xs) (hk : k < R) (hL : L < t) (ht : t ≤ W.heap.size) (o : Obj) (hown : W3.ownsRow t 3 1 (.slice (some ⟨g, 0, none⟩) ((xs k).length + 1) cap) ((xs k).length + 1) (valsI (xs k) ++ [.int .i64 x])) (hg : (W.alloc o).grownBy W3 (f k).ownBlock) (hat : (f k).ownBlock = some g ∨ g = W.heap.size + 1) :
    LnI (W3.setCell ⟨L, k, none⟩ (.slice (some ⟨g, 0, none⟩) ((xs k).length + 1) cap)) t L R (fun r => if r = k then .slice (some ⟨g, 0, none⟩) ((xs k).length + 1) cap else f r) (fun r => if r = k then xs k ++ [x] else xs r) ∧ Chg (fun j => j = L ∨ t ≤ j) W (W3.setCell ⟨L, k, none⟩ (.slice (some ⟨g, 0, none⟩) ((xs k).length + 1) cap)) := by
  have hB : Below t W W3 := Below.grown ((Below.refl t W).alloc ht o) hg (by simp; omega) (fun j hj => (own_ge (h.own k hk) j hj).1)
  have hc : Chg (fun j => j = L) W3 (W3.setCell ⟨L, k, none⟩ (.slice (some ⟨g, 0, none⟩) ((xs k).length + 1) cap)) := Chg.of_set _ _ _ _ rfl
  have hgL : some L ≠ (f k).ownBlock := fun e => by have := (own_ge (h.own k hk) L e.symm).1; omega
  have hgt : t ≤ g := by
    rcases hat with e | e
    · exact (own_ge (h.own k hk) g e).1
    · omega
  refine ⟨⟨((h.row.alloc o).of_block (hg.block L (by simp; omega) hgL)).set k _, fun r hr => ?_, fun r s hr hs hne j hj hj2 => ?_⟩, ⟨hc.os.trans hB.os, hc.tape.trans hB.tape, hc.output.trans hB.output, Nat.le_trans hB.size hc.size, fun j hj hS => ?_⟩⟩
  · by_cases e : r = k
    · subst e
      simp only [if_true]
      refine ownsRow_chg (by simpa [valsI] using hown) hc (fun j hj => ?_)
      have : g = j := by simpa [Value.ownBlock] using hj
      omega
    · simp only [e, if_false]
      have h1 := ((h.own r hr).alloc o).kept hg (by
        cases hu : (f r).ownBlock with
        | none => exact .inl rfl
        | some j =>
          right
          intro e2
          exact h.apart r k hr hk e j hu e2.symm)
      exact ownsRow_chg h1 hc (fun j hj => by have := (own_ge (h.own r hr) j hj).1; omega)
  · by_cases e1 : r = k
    · have e2 : s ≠ k := fun e => hne (e1.trans e.symm)
      simp only [e1, if_true] at hj
      simp only [e2, if_false] at hj2
      have hj' : g = j := by simpa [Value.ownBlock] using hj
      subst hj'
      rcases hat with e | e
      · exact h.apart k s hk hs (fun z => e2 z.symm) _ e hj2
      · have := (own_ge (h.own s hs) _ hj2).2; omega
    · simp only [e1, if_false] at hj
      by_cases e2 : s = k
      · simp only [e2, if_true] at hj2
        have hj' : g = j := by simpa [Value.ownBlock] using hj2
        subst hj'
        rcases hat with e | e
        · exact h.apart r k hr hk e1 _ hj e
        · have := (own_ge (h.own r hr) _ hj).2; omega
      · simp only [e2, if_false] at hj2
        exact h.apart r s hr hs hne j hj hj2
  · rw [hc.block j (Nat.lt_of_lt_of_le hj hB.size) (fun e => hS (.inl e)), hB.block j (by rcases Nat.lt_or_ge j t with c | c; exact c; exact absurd (.inr c) hS)]
def InC (st cols : List Int) (c k : Nat) : Prop := ∃ j, (st.getD k 0).toNat ≤ j ∧ j < (st.getD (k + 1) 0).toNat ∧ cols.getD j 0 = (c : Int)
theorem grR_mem {P : Nat → Nat → Prop} {u : Nat} (v : Int) : ∀ k, (v ∈ grR P u k ↔ ∃ j : Nat, j < k ∧ v = (j : Int) ∧ P u j)
  | 0 => by simp [grR]
  | k + 1 => by
    simp only [grR, List.mem_append]
    rw [grR_mem v k]
    constructor
    · rintro (⟨j, h1, h2, h3⟩ | h)
      · exact ⟨j, by omega, h2, h3⟩
      · by_cases c : tb (P u k) = true
        · rw [if_pos c] at h
          exact ⟨k, by omega, by simpa using h, tb_iff.1 c⟩
        · rw [if_neg c] at h
          cases h
    · rintro ⟨j, h1, h2, h3⟩
      by_cases e : j = k
      · subst e
        right
        rw [if_pos (tb_yes h3), h2]
        simp
      · exact .inl ⟨j, by omega, h2, h3⟩
theorem mem_getD {xs : List Int} {v : Int} : v ∈ xs ↔ ∃ p, p < xs.length ∧ xs.getD p 0 = v := by
  rw [List.mem_iff_getElem?]
  constructor
  · rintro ⟨i, h⟩
    obtain ⟨hi, he⟩ := List.getElem?_eq_some_iff.1 h
    exact ⟨i, hi, by simp [List.getD, h]⟩
  · rintro ⟨p, hp, he⟩
    refine ⟨p, ?_⟩
    rw [List.getElem?_eq_getElem hp]
    simp [List.getD, hp] at he
    rw [he]
theorem MeP.mem {xs : List Int} {u v : Nat} (hx : ∀ j, j < xs.length → 0 ≤ xs.getD j 0 ∧ xs.getD j 0 < 128) (hv : v < 128) : MeP xs xs.length 0 (u * 128 + v) ↔ ((u : Int) ∈ xs ∧ (v : Int) ∈ xs) := by
  rw [mem_getD, mem_getD]
  constructor
  · rintro ⟨p, q, h, e⟩
    rcases h with ⟨h1, h2⟩ | ⟨h1, h2⟩
    · have g1 := hx p h1
      have g2 := hx q h2
      exact ⟨⟨p, h1, by omega⟩, ⟨q, h2, by omega⟩⟩
    · omega
  · rintro ⟨⟨p, h1, e1⟩, ⟨q, h2, e2⟩⟩
    exact ⟨p, q, .inl ⟨h1, h2⟩, by rw [e1, e2]; simp⟩
def CoP (st cols : List Int) (R : Nat) (u v : Nat) : Prop := u ≠ v ∧ ∃ k, k < R ∧ InC st cols u k ∧ InC st cols v k
def RwP (st cols : List Int) (width : Nat) (u v : Nat) : Prop := u ≠ v ∧ ∃ c, c < width ∧ InC st cols c u ∧ InC st cols c v
theorem rowL_mem {R : Nat} {width : Int} {st cols : List Int} (hm : MayP (R : Int) width st cols) {k c : Nat} (hk : k < R) : ((c : Int) ∈ rowL st cols k) ↔ InC st cols c k := by
  obtain ⟨X, Y, hR⟩ := hm.rowAt (k := k) (by omega)
  unfold rowL InC
  rw [hR.hX, hR.hY, mem_getD]
  have hl : ((cols.drop ((X : Int)).toNat).take (((Y : Int)).toNat - ((X : Int)).toNat)).length = Y - X := by
    have := hR.lt
    simp
    omega
  rw [hl]
  have e : ∀ i, i < Y - X → ((cols.drop ((X : Int)).toNat).take (((Y : Int)).toNat - ((X : Int)).toNat)).getD i 0 = cols.getD (X + i) 0 := fun i hi => by simp [List.getD, List.getElem?_drop, hi]
  constructor
  · rintro ⟨p, hp, h⟩
    rw [e p hp] at h
    exact ⟨X + p, by omega, by omega, h⟩
  · rintro ⟨j, h1, h2, h3⟩
    exact ⟨j - X, by omega, by rw [e _ (by omega), show X + (j - X) = j by omega]; exact h3⟩
theorem rowL_rng {R : Nat} {width : Nat} {st cols : List Int} (hm : MayP (R : Int) (width : Int) st cols) {k : Nat} (hk : k < R) : ∀ j, j < (rowL st cols k).length → 0 ≤ (rowL st cols k).getD j 0 ∧ (rowL st cols k).getD j 0 < 128 := by
  intro j hj
  obtain ⟨X, Y, hR⟩ := hm.rowAt (k := k) (by omega)
  have hf := hm.head.fit
  have eL : rowL st cols k = (cols.drop X).take (Y - X) := by unfold rowL; rw [hR.hX, hR.hY]; simp
  have hl : (rowL st cols k).length = Y - X := by rw [eL]; have := hR.lt; simp; omega
  have hrow := (RowP.sub hR.le).2 hR.row
  rw [← eL] at hrow
  have := hrow.rng j (Nat.zero_le _) (by omega)
  omega
theorem MtP.cols {R width : Nat} {st cols : List Int} (hm : MayP (R : Int) (width : Int) st cols) {u v : Nat} (hv : v < width) : (MtP (rowL st cols) R (u * 128 + v) ∧ u ≠ v) ↔ CoP st cols R u v := by
  have hf := hm.head.fit
  unfold MtP CoP
  constructor
  · rintro ⟨⟨i, hi, h⟩, hne⟩
    rw [MeP.mem (rowL_rng hm hi) (by omega), rowL_mem hm hi, rowL_mem hm hi] at h
    exact ⟨hne, i, hi, h⟩
  · rintro ⟨hne, i, hi, h⟩
    exact ⟨⟨i, hi, by rw [MeP.mem (rowL_rng hm hi) (by omega), rowL_mem hm hi, rowL_mem hm hi]; exact h⟩, hne⟩
theorem grR_rng {P : Nat → Nat → Prop} {u R : Nat} (hR : R ≤ 128) : ∀ j, j < (grR P u R).length → 0 ≤ (grR P u R).getD j 0 ∧ (grR P u R).getD j 0 < 128 := by
  intro j hj
  obtain ⟨i, h1, h2, _⟩ := (grR_mem ((grR P u R).getD j 0) R).1 (mem_getD.2 ⟨j, hj, rfl⟩)
  omega
theorem MtP.rows {R width : Nat} {st cols : List Int} (hm : MayP (R : Int) (width : Int) st cols) {u v : Nat} (hu : u < R) (hv : v < R) : (MtP (fun c => grR (InC st cols) c R) width (u * 128 + v) ∧ u ≠ v) ↔ RwP st cols width u v := by
  have hf := hm.head.fit
  have mem : ∀ c w : Nat, w < R → ((w : Int) ∈ grR (InC st cols) c R ↔ InC st cols c w) := fun c w hw => by
    rw [grR_mem]
    constructor
    · rintro ⟨j, h1, h2, h3⟩
      rw [show w = j by omega]
      exact h3
    · intro h
      exact ⟨w, hw, rfl, h⟩
  unfold MtP RwP
  constructor
  · rintro ⟨⟨i, hi, h⟩, hne⟩
    rw [MeP.mem (grR_rng (by omega)) (by omega), mem i u hu, mem i v hv] at h
    exact ⟨hne, i, hi, h⟩
  · rintro ⟨hne, i, hi, h⟩
    exact ⟨⟨i, hi, by rw [MeP.mem (grR_rng (by omega)) (by omega), mem i u hu, mem i v hv]; exact h⟩, hne⟩
def GqP (w w' : World) (e : Ending) (n : Nat) (S C : List Int) (er : Int) : Prop := ∃ a1 c1 a2 c2, e = .returned (.tuple #[.agg #[.int .i64 (n : Int), .int .i64 (n : Int), .slice a1 S.length c1, .slice a2 C.length c2], .int .i64 er]) ∧ SlI w' a1 S.length c1 S ∧ SlI w' a2 C.length c2 C ∧ Below w.heap.size w w' ∧ (∀ z, a1 = some z → w.heap.size ≤ z.block) ∧ (∀ z, a2 = some z → w.heap.size ≤ z.block)
theorem RoV.lsI {W : World} {L R : Nat} {width : Int} {a2 : Option Addr} {n2 c2 : Nat} {st cols : List Int} (h : RoV W L R (rowV st a2 c2)) (h2 : SlI W a2 n2 c2 cols) (hb2 : n2 ≤ 17592186044416) (hm : MayP (R : Int) width st cols) : LsI W L R (rowL st cols) := by
  intro i hi
  obtain ⟨X, Y, hRow⟩ := hm.rowAt (k := i) (by omega)
  have hln := h2.len
  have hsub := h2.sub hRow.le (by rw [← hln]; exact hRow.lt)
  have hcell := (h i hi).1
  have eL : rowL st cols i = (cols.drop X).take (Y - X) := by unfold rowL; rw [hRow.hX, hRow.hY]; simp
  have hV : rowV st a2 c2 i = subV a2 c2 X Y := by unfold rowV; rw [hRow.hX, hRow.hY]; simp
  rw [hV] at hcell
  rw [← eL] at hsub
  have := hRow.lt
  exact ⟨_, _, _, hcell, hsub, by omega⟩
theorem LnI.lsI {W : World} {t L R : Nat} {f : Nat → Value} {xs : Nat → List Int} (h : LnI W t L R f xs) (hl : ∀ r, r < R → (xs r).length ≤ 17592186044416) : LsI W L R xs := by
  intro i hi
  obtain ⟨a, c, hv, hs⟩ := own_slI (h.own i hi)
  have hc := h.row.cell hi
  rw [hv] at hc
  exact ⟨a, _, c, hc, hs, hl i hi⟩
end Go.Proofs.YtgjokididdffhaaGreat
