/- Sp4 -/
import Derived.Test.YtgjokididdffhaaGreatSp3
import Derived.Test.YtgjokididdffhaaGreatGiv
import Derived.OrdersHeld
import Derived.OrdersIn
import Derived.OwnWalkIn
import Derived.RangeFuncCalls
namespace Go.Proofs.YtgjokididdffhaaGreat
open Go.RowKit Go.Deep
set_option linter.unusedVariables false
def Vis (R width : Nat) (st cols : List Int) (i x : Nat) : Prop := ∃ r j : Nat, r < R ∧ st.getD r 0 ≤ (j : Int) ∧ (j : Int) < st.getD (r + 1) 0 ∧ j < i ∧ (r : Int) * (width : Int) + cols.getD j 0 = (x : Int)
theorem Vis.zero {R width : Nat} {st cols : List Int} {x : Nat} : ¬ Vis R width st cols 0 x := fun ⟨_, _, _, _, _, h, _⟩ => absurd h (Nat.not_lt_zero _)
theorem row_one {R : Nat} {width : Int} {st cols : List Int} (hm : MayP (R : Int) width st cols) {r k j : Nat} (hr : r < R) (hk : k < R) (h1 : st.getD r 0 ≤ (j : Int)) (h2 : (j : Int) < st.getD (r + 1) 0) (h3 : st.getD k 0 ≤ (j : Int)) (h4 : (j : Int) < st.getD (k + 1) 0) : r = k := by
  have hl := hm.head.len
  rcases Nat.lt_trichotomy r k with c | c | c
  · have := hm.sort.mono (k - (r + 1)) (r + 1) (by omega)
    rw [show r + 1 + (k - (r + 1)) = k by omega] at this
    omega
  · exact c
  · have := hm.sort.mono (r - (k + 1)) (k + 1) (by omega)
    rw [show k + 1 + (r - (k + 1)) = r by omega] at this
    omega
theorem Vis.step {R width : Nat} {st cols : List Int} (hm : MayP (R : Int) (width : Int) st cols) {k X Y i c : Nat} (hk : k < R) (hR : RowAt st cols (width : Int) k X Y) (h1 : X ≤ i) (h2 : i < Y) (hc : cols.getD i 0 = (c : Int)) (x : Nat) : Vis R width st cols (i + 1) x ↔ (Vis R width st cols i x ∨ x = k * width + c) := by
  constructor
  · rintro ⟨r, j, hr, a1, a2, a3, a4⟩
    by_cases e : j = i
    · subst e
      right
      have := row_one hm hr hk a1 a2 (by rw [hR.hX]; omega) (by rw [hR.hY]; omega)
      subst this
      rw [hc] at a4
      have e2 : ((r * width : Nat) : Int) = (r : Int) * (width : Int) := by simp
      omega
    · exact .inl ⟨r, j, hr, a1, a2, by omega, a4⟩
  · rintro (⟨r, j, hr, a1, a2, a3, a4⟩ | e)
    · exact ⟨r, j, hr, a1, a2, by omega, a4⟩
    · refine ⟨k, i, hk, by rw [hR.hX]; omega, by rw [hR.hY]; omega, by omega, ?_⟩
      rw [hc, e]
      simp
theorem Vis.has {R width : Nat} {st cols : List Int} (hm : MayP (R : Int) (width : Int) st cols) {r c : Nat} (hr : r < R) (hc : c < width) : Vis R width st cols cols.length (r * width + c) ↔ HasP (R : Int) (width : Int) st cols (r : Int) (c : Int) := by
  have e0 : ((r : Int)).toNat = r := by omega
  have hl := hm.head.len
  constructor
  · rintro ⟨q, j, hq, a1, a2, a3, a4⟩
    obtain ⟨X, Y, hR⟩ := hm.rowAt (k := q) (by omega)
    rw [hR.hX] at a1
    rw [hR.hY] at a2
    have hg := hR.row.rng j (by omega) (by omega)
    obtain ⟨d, hd⟩ : ∃ d : Nat, cols.getD j 0 = (d : Int) := ⟨(cols.getD j 0).toNat, by omega⟩
    rw [hd] at a4 hg
    have a5 : q * width + d = r * width + c := by
      have e1 : ((q * width : Nat) : Int) = (q : Int) * (width : Int) := by simp
      have e2 : ((r * width + c : Nat) : Int) = ((r * width : Nat) : Int) + (c : Int) := by simp
      omega
    have a6 : q = r := by
      have h1 : (q * width + d) / width = q := by rw [Nat.mul_comm, Nat.mul_add_div (by omega)]; rw [Nat.div_eq_of_lt (by omega)]; rfl
      have h2 : (r * width + c) / width = r := by rw [Nat.mul_comm, Nat.mul_add_div (by omega)]; rw [Nat.div_eq_of_lt (by omega)]; rfl
      rw [← h1, ← h2, a5]
    subst a6
    exact ⟨hm, by omega, by omega, j, by rw [e0, hR.hX]; omega, by rw [e0, hR.hY]; omega, by rw [hd]; omega⟩
  · rintro ⟨_, _, _, j, a1, a2, a3⟩
    rw [e0] at a1 a2
    obtain ⟨X, Y, hR⟩ := hm.rowAt (k := r) (by omega)
    rw [hR.hX] at a1
    rw [hR.hY] at a2
    refine ⟨r, j, hr, by rw [hR.hX]; omega, by rw [hR.hY]; omega, by have := hR.lt; omega, ?_⟩
    rw [a3]
    simp
structure OpI (w2 W : World) (b : Nat) (m : Nat) (P : Nat → Prop) : Prop where
  row : RoV W b m (fun x => .bool (tb (P x)))
  chg : Chg (fun j => j = b) w2 W
theorem OpI.put {w2 W : World} {b m : Nat} {P Q : Nat → Prop} (h : OpI w2 W b m P) (x : Nat) (hx : x < m) (e : ∀ y, Q y ↔ (P y ∨ y = x)) : OpI w2 (W.setCell ⟨b, x, none⟩ (.bool true)) b m Q := by
  refine ⟨(h.row.put x (.bool true) hx).congr (fun i hi => ?_), h.chg.trans (Chg.of_set _ _ _ _ rfl)⟩
  by_cases c : i = x
  · simp only [c, if_true]
    rw [tb_yes ((e x).2 (.inr rfl))]
  · simp only [c, if_false]
    rw [tb_congr (show P i ↔ Q i from ⟨fun p => (e i).2 (.inl p), fun q => ((e i).1 q).resolve_right c⟩)]
theorem OpI.drew {w2 W : World} {b m : Nat} {P : Nat → Prop} (h : OpI w2 W b m P) : OpI w2 W.drew b m P := ⟨h.row.chg (S := fun _ => False) (Chg.of_drew _) (fun x => x), h.chg.trans (Chg.of_drew _)⟩
set_option maxRecDepth 100000 in
set_option maxHeartbeats 16000000 in
theorem wopen_any (R width : Nat) (a1 a2 : Option Addr) (n1 c1 n2 c2 : Nat) (st cols : List Int) (w : World) (h1 : SlI w a1 n1 c1 st) (h2 : SlI w a2 n2 c2 cols) (hb1 : n1 ≤ 17592186044416) (hb2 : n2 ≤ 17592186044416) (hm : MayP (R : Int) (width : Int) st cols) :
    Calls Tryz.prog 76 #[patV (R : Int) (width : Int) a1 n1 c1 a2 n2 c2] w fun e w' => ∃ b, e = .returned (gridV R width b (R * width)) ∧ RoV w' b (R * width) (fun x => .bool (tb (Vis R width st cols cols.length x))) ∧ Below w.heap.size w w' := by
  obtain ⟨wb, hwb⟩ : ∃ x, w.alloc (.cells #[.int .i64 (R : Int), .int .i64 (width : Int), .slice a1 n1 c1, .slice a2 n2 c2] 25) = x := ⟨_, rfl⟩
  have bb : Below w.heap.size w wb := by rw [← hwb]; exact (Below.refl _ _).alloc (Nat.le_refl _) _
  have hT := BoxP.made w #[.int .i64 (R : Int), .int .i64 (width : Int), .slice a1 n1 c1, .slice a2 n2 c2] 25
  rw [hwb] at hT
  have hO0 := BoxP.made wb #[.int .i64 0, .int .i64 0, .slice none 0 0] 131
  obtain ⟨wo, hwo⟩ : ∃ x, wb.alloc (.cells #[.int .i64 0, .int .i64 0, .slice none 0 0] 131) = x := ⟨_, rfl⟩
  have bo : Below wb.heap.size wb wo := by rw [← hwo]; exact (Below.refl _ _).alloc (Nat.le_refl _) _
  rw [hwo] at hO0
  have hT1 := hT.below bo
  have p0 := (hT1.all 0 _ rfl).1
  have p1 := (hT1.all 1 _ rfl).1
  have p2 := (hT1.all 2 _ rfl).1
  have p3 := (hT1.all 3 _ rfl).1
  have hfit := hm.head.fit
  have KE := hide (wempty_any R width wo (by omega) (by omega))
  have HP := hide (And.intro hT1 hO0)
  have bbo := bb.trans (bo.mono bb.size)
  have HS := hide (And.intro (h1.below bbo) (h2.below bbo))
  have HLW := hide (And.intro (fun hne => h1.block_lt hne) (fun hne => h2.block_lt hne))
  have HB := hide bbo
  have HM := hide hm
  have HF := hide hfit
  have HWB := hide bb.size
  clear hT hT1 hO0 bb bo bbo h1 h2 hm hfit
  obtain ⟨m, hmm⟩ : ∃ m, R * width = m := ⟨_, rfl⟩
  rw [hmm] at KE
  rw [hmm]
  unfold gridV at KE
  have HMM := hide hmm
  clear hmm
  unfold patV
  go_enter Tryz.func76, Tryz.ntmps76
  go_wp2_with fail
  refine (unhide KE).mono ?_
  rintro _ w2 ⟨b, rfl, hbn, hbl, hR, b2⟩
  have HR := hide hR
  have HB2 := hide b2
  have hbn' := hide hbn
  have hT2 := (unhide HP).1.below b2
  have p0 := (hT2.all 0 _ rfl).1
  have p1 := (hT2.all 1 _ rfl).1
  have p2 := (hT2.all 2 _ rfl).1
  have p3 := (hT2.all 3 _ rfl).1
  have hG0 := BoxP.made w2 #[.int .i64 (R : Int), .int .i64 (width : Int), .slice (some ⟨b, 0, none⟩) m m] 131
  obtain ⟨wg, hwg⟩ : ∃ x, w2.alloc (.cells #[.int .i64 (R : Int), .int .i64 (width : Int), .slice (some ⟨b, 0, none⟩) m m] 131) = x := ⟨_, rfl⟩
  have bg : Below w2.heap.size w2 wg := by rw [← hwg]; exact (Below.refl _ _).alloc (Nat.le_refl _) _
  rw [hwg] at hG0
  have b2g := b2.trans (bg.mono b2.size)
  have hlo := And.intro (unhide HP).1.lt (unhide HP).2.lt
  have hRg := hR.below bg
  have HG := hide (And.intro ((unhide HP).1.below b2g) (And.intro ((unhide HP).2.below b2g) hG0))
  have HS2 := hide (And.intro ((unhide HS).1.below b2g) ((unhide HS).2.below b2g))
  have HI0 := hide (show OpI wg wg b m (fun _ => False) from ⟨hRg.congr (fun i hi => by rw [tb_no (fun x => x)]), Chg.refl _ _⟩)
  have HBW := hide ((unhide HB).trans (b2g.mono (unhide HB).size))
  have HNB := hide (show w.heap.size ≠ b ∧ wb.heap.size ≠ b ∧ w2.heap.size ≠ b ∧ w.heap.size ≤ b ∧ wo.heap.size ≤ b from ⟨by omega, by omega, by omega, by have := (unhide HB).size; omega, hbn⟩)
  clear hR b2 hbn KE hT2 hG0 bg b2g hlo hRg hbl p0 p1 p2 p3
  go_wp2_with fail
  go_loopw [4] (fun kv wr => ∃ k X : Nat, k ≤ R ∧ kv = .int .i64 (k : Int) ∧ Hid (st.getD k 0 = (X : Int)) ∧ Hid (OpI wg wr b m (Vis R width st cols X))) (fun kv _ => R - (intOf kv).toNat)
  case atStart =>
    refine ⟨0, 0, Nat.zero_le _, rfl, hide (by rw [(unhide HM).head.first]; rfl), hide ⟨(unhide HI0).row.congr (fun i hi => ?_), (unhide HI0).chg⟩⟩
    rw [tb_congr (show False ↔ Vis R width st cols 0 i from ⟨fun x => x.elim, fun x => Vis.zero x⟩)]
  case round =>
    obtain ⟨k, X, hk, rfl, HX, HI⟩ := hrel
    have hbx := fun (W : World) (c : Chg (fun j => j = b) wg W) => And.intro ((unhide HG).1.chg c (unhide HNB).1) (And.intro ((unhide HG).2.1.chg c (unhide HNB).2.1) ((unhide HG).2.2.chg c (unhide HNB).2.2.1))
    have HBX := hide hbx
    have hw1 := hbx wr (unhide HI).chg
    have p0 := (hw1.1.all 0 _ rfl).1
    have p2 := (hw1.1.all 2 _ rfl).1
    clear hbx hw1
    by_cases hlt : k < R
    · have hlt' : (k : Int) < (R : Int) := by omega
      obtain ⟨X', Y, hRow⟩ := (unhide HM).rowAt (k := k) (by omega)
      obtain rfl : X' = X := by have h8 := hRow.hX; rw [unhide HX] at h8; omega
      have hl1 := (unhide HS2).1.len
      have hl2 := (unhide HS2).2.len
      have hhl := (unhide HM).head.len
      have hlo1 := (unhide HNB)
      have HSW := hide (show ∀ W, Chg (fun j => j = b) wg W → SlI W a1 n1 c1 st ∧ SlI W a2 n2 c2 cols from fun W c => ⟨(unhide HS2).1.chg c (fun z hz hne e => by have := (unhide HLW).1 hne z hz; omega), (unhide HS2).2.chg c (fun z hz hne e => by have := (unhide HLW).2 hne z hz; omega)⟩)
      obtain ⟨b1, o1, rfl, hc1⟩ := (unhide HSW wr (unhide HI).chg).1.at (by omega)
      have sk := hc1 k (by omega)
      rw [hRow.hX] at sk
      have tk1 : (k : Int) < (n1 : Int) := by omega
      have tk2 : (k : Int) + 1 < (n1 : Int) := by omega
      have hrl := hRow.le
      have hrt := hRow.lt
      have HRow := hide hRow
      have HHL := hide (And.intro hl1 (And.intro hl2 hhl))
      clear hlo1 hc1 hl1 hl2 hhl hRow
      go_wp2_with fail
      go_loopw [5] (fun iv wq => ∃ i : Nat, X' ≤ i ∧ i ≤ Y ∧ iv = .int .i64 (i : Int) ∧ Hid (OpI wg wq b m (Vis R width st cols i))) (fun iv _ => Y - (intOf iv).toNat)
      case atStart => exact ⟨X', Nat.le_refl _, hrl, rfl, HI⟩
      case round =>
        clear p0 p2 sk
        obtain ⟨i, hi1, hi2, rfl, HQ⟩ := hrel
        have hw1 := unhide HBX wr (unhide HQ).chg
        have p1 := (hw1.1.all 1 _ rfl).1
        have p2 := (hw1.1.all 2 _ rfl).1
        have p3 := (hw1.1.all 3 _ rfl).1
        have g2 := (hw1.2.2.all 2 _ rfl).1
        obtain ⟨b1', o1', e1, hc1⟩ := (unhide HSW wr (unhide HQ).chg).1.at (by omega)
        cases e1
        have sk1 := hc1 (k + 1) (by omega)
        rw [(unhide HRow).hY] at sk1
        clear hw1 hc1
        by_cases hin : i < Y
        · have hin' : (i : Int) < (Y : Int) := by omega
          have h22 := (unhide HHL).2.1
          obtain ⟨b2, o2, rfl, hc2⟩ := (unhide HSW wr (unhide HQ).chg).2.at (by omega)
          have sc := hc2 i (by omega)
          have hg := (unhide HRow).row.rng i hi1 hin
          obtain ⟨c, hc⟩ : ∃ c : Nat, cols.getD i 0 = (c : Int) := ⟨(cols.getD i 0).toNat, by omega⟩
          rw [hc] at sc hg
          obtain ⟨kw, hkw⟩ : ∃ kw, k * width = kw := ⟨_, rfl⟩
          obtain ⟨x, hx⟩ : ∃ x, kw + c = x := ⟨_, rfl⟩
          have hx1 : (k : Int) * (width : Int) = (kw : Int) := by rw [← hkw]; simp
          have hx2 : (kw : Int) + (c : Int) = (x : Int) := by omega
          have hf := unhide HF
          have hxm : x < m := by
            rw [← unhide HMM, ← hx, ← hkw]
            have h1 : (k + 1) * width ≤ R * width := Nat.mul_le_mul_right _ hlt
            rw [Nat.add_mul] at h1
            omega
          have hm16 : m ≤ 16384 := by rw [← unhide HMM]; exact Nat.mul_le_mul (show R ≤ 128 by omega) (show width ≤ 128 by omega)
          have hxm' : (x : Int) < (m : Int) := by omega
          have hin2 : (i : Int) < (n2 : Int) := by omega
          have hon := ((unhide HQ).row x hxm).1
          have hof := ((unhide HQ).row x hxm).2
          have HN := hide (((unhide HQ).put (Q := Vis R width st cols (i + 1)) x hxm (fun y => by have := Vis.step (unhide HM) hlt (unhide HRow) hi1 hin hc y; rw [hkw, hx] at this; exact this)).drew)
          clear hc2 hg hf h22 hkw hx
          go_wp2_with fail
          go_region
          all_goals go_wp2_with fail
          all_goals exact ⟨⟨i + 1, by omega, by omega, by (first | rfl | go_num), HN⟩, by simp [intOf]; omega⟩
        · obtain rfl : i = Y := by omega
          have hin' : ¬ (i : Int) < (i : Int) := by omega
          go_wp2_with fail
          exact ⟨⟨k + 1, i, by omega, by (first | rfl | go_num), hide (unhide HRow).hY, HQ⟩, by simp [intOf]; omega⟩
    · obtain rfl : k = R := by omega
      have hlt' : ¬ (k : Int) < (k : Int) := by omega
      have hw2 := unhide HBX wr (unhide HI).chg
      have g0 := (hw2.2.2.all 0 _ rfl).1
      have g1 := (hw2.2.2.all 1 _ rfl).1
      have g2 := (hw2.2.2.all 2 _ rfl).1
      have q0 := (hw2.2.1.all 0 _ rfl).1
      have q1 := (hw2.2.1.all 1 _ rfl).1
      have q2 := (hw2.2.1.all 2 _ rfl).1
      have r0 := (hw2.2.1.all 0 _ rfl).2
      have r1 := (hw2.2.1.all 1 _ rfl).2
      have r2 := (hw2.2.1.all 2 _ rfl).2
      have HO := hide hw2.2.1
      clear hw2
      go_wp2_with fail
      have hf := (((unhide HO).put 0 (.int .i64 (k : Int))).put 1 (.int .i64 (width : Int))).put 2 (.slice (some ⟨b, 0, none⟩) m m)
      have t0 := (hf.all 0 _ rfl).1
      have t1 := (hf.all 1 _ rfl).1
      have t2 := (hf.all 2 _ rfl).1
      have c3 : Chg (fun j => j = wb.heap.size) wr (((wr.setCell ⟨wb.heap.size, 0, none⟩ (.int .i64 (k : Int))).setCell ⟨wb.heap.size, 1, none⟩ (.int .i64 (width : Int))).setCell ⟨wb.heap.size, 2, none⟩ (.slice (some ⟨b, 0, none⟩) m m)) := ((Chg.of_set (S := fun j => j = wb.heap.size) _ _ _ _ rfl).trans (Chg.of_set (S := fun j => j = wb.heap.size) _ _ _ _ rfl)).trans (Chg.of_set (S := fun j => j = wb.heap.size) _ _ _ _ rfl)
      generalize ((wr.setCell ⟨wb.heap.size, 0, none⟩ (.int .i64 (k : Int))).setCell ⟨wb.heap.size, 1, none⟩ (.int .i64 (width : Int))).setCell ⟨wb.heap.size, 2, none⟩ (.slice (some ⟨b, 0, none⟩) m m) = wf at *
      refine bodyPost_ret (by simp [results, Tryz.results76, go_sem, t0, t1, t2]; try rfl) rfl ?_
      have hlast : X = cols.length := by
        have h8 := (unhide HM).head.last
        rw [show ((k : Int)).toNat = k by omega, unhide HX] at h8
        omega
      refine ⟨b, rfl, ?_, ?_⟩
      · have := (unhide HI).row.chg c3 (fun e => (unhide HNB).2.1 e.symm)
        rw [hlast] at this
        exact this
      · exact (unhide HBW).trans (((unhide HI).chg.below (unhide HBW).size (fun j hj e => by have := (unhide HNB).2.2.2.1; omega)).trans (c3.below (Nat.le_trans (unhide HBW).size (unhide HI).chg.size) (fun j hj e => by have := unhide HWB; omega)))
structure PlI (w1 W : World) (base : Nat) (v u : Value) (rs cs : List Int) : Prop where
  own1 : W.ownsRow base 3 1 v rs.length (valsI rs)
  own2 : W.ownsRow base 3 1 u cs.length (valsI cs)
  apart : ∀ g, v.ownBlock = some g → u.ownBlock ≠ some g
  bel : Below base w1 W
  le : base ≤ W.heap.size
theorem PlI.swap {w1 W : World} {base : Nat} {v u : Value} {rs cs : List Int} (h : PlI w1 W base v u rs cs) : PlI w1 W base u v cs rs := ⟨h.own2, h.own1, fun g hu hv => h.apart g hv hu, h.bel, h.le⟩
theorem PlI.app {w1 W W3 : World} {base : Nat} {v u : Value} {rs cs : List Int} {x : Int} {g cap : Nat} (h : PlI w1 W base v u rs cs) (o : Obj) (hown : W3.ownsRow base 3 1 (.slice (some ⟨g, 0, none⟩) (rs.length + 1) cap) (rs.length + 1) (valsI rs ++ [.int .i64 x])) (hg : (W.alloc o).grownBy W3 v.ownBlock) (hat : v.ownBlock = some g ∨ g = W.heap.size + 1) : PlI w1 W3 base (.slice (some ⟨g, 0, none⟩) (rs.length + 1) cap) u (rs ++ [x]) cs := by
  have hB : Below base W W3 := Below.grown ((Below.refl base W).alloc h.le o) hg (by simp; have := h.le; omega) (fun j hj => (own_ge h.own1 j hj).1)
  refine ⟨by simpa [valsI] using hown, (h.own2.alloc o).kept hg ?_, ?_, h.bel.trans hB, Nat.le_trans h.le hB.size⟩
  · cases hu : u.ownBlock with
    | none => exact .inl rfl
    | some j =>
      right
      intro e
      exact h.apart j e.symm hu
  · intro j hj hu
    have hj' : g = j := by simpa [Value.ownBlock] using hj
    subst hj'
    rcases hat with e | e
    · exact h.apart _ e hu
    · have := (own_ge h.own2 _ hu).2
      omega
theorem own_slI {w : World} {base n : Nat} {v : Value} {xs : List Int} (h : w.ownsRow base 3 1 v n (valsI xs)) : ∃ a c, v = .slice a n c ∧ SlI w a n c xs := by
  have hl : xs.length = n := by have := h.1; simpa [valsI] using this
  rcases h.2 with ⟨rfl, rfl⟩ | ⟨b, cap, cur, rfl, h4, h5, h6, h7, h8, h9⟩
  · have : xs = [] := List.eq_nil_of_length_eq_zero hl
    subst this
    exact ⟨none, 0, rfl, SlI.nil _⟩
  · refine ⟨_, _, rfl, ⟨hl, h6, h7, .inr ⟨b, 0, rfl, fun i hi => ?_⟩⟩⟩
    rw [Nat.zero_add, cell_of_block h5]
    have : (cur.toList.take (n * 1))[i]? = (valsI xs)[i]? := by rw [h9]
    rw [List.getElem?_take_of_lt (by omega)] at this
    rw [← Array.getElem?_toList, this]
    simp [valsI, List.getD, hi]
theorem take_snoc {cols : List Int} {i : Nat} {x : Int} (hi : i < cols.length) (hx : cols.getD i 0 = x) : cols.take (i + 1) = cols.take i ++ [x] := by
  rw [List.take_add_one]
  congr 1
  subst hx
  simp [hi, List.getD]
section
variable {P : Program} {ops : Array Oper} {Q : Exit → Act → World → Prop} {md : Region.Mode} {S : World → Prop} {L : Nat}

def anyTill (P : Program) (md : Region.Mode) (ops : Array Oper) (Q : Exit → Act → World → Prop) (S : World → Prop) (L : Nat) : Nat → Array Bool → Act → World → Prop
  | 0, l, a, w => Region.ready md ops l = [] ∧ Q .normal a w
  | n + 1, l, a, w => (Region.ready md ops l = [] → Q .normal a w) ∧
      ∀ i ∈ Region.ready md ops l, wpOp P ops Q i (fun a' w' => (i ≠ L → S w') ∧ anyTill P md ops Q S L n (l.setIfInBounds i true) a' w') a w

theorem anyTill_any : ∀ (n : Nat) (l : Array Bool) (a : Act) (w : World), anyTill P md ops Q S L n l a w → wpAny P md ops Q n l a w
  | 0, _, _, _, h => h
  | n + 1, _, _, _, h => ⟨h.1, fun i hi => wpOp_mono (fun a' w' k => anyTill_any n _ a' w' k.2) (h.2 i hi)⟩

theorem anyTill_region (S : World → Prop) (L : Nat) {id : Nat} {a : Act} {w : World} (hm : P.follows .mixedOrders = true)
    (h : anyTill P .any ops Q S L ops.size (Array.replicate ops.size false) a w.drew) : (Code.region id ops true).wp P Q a w :=
  wp_region_any hm (anyTill_any _ _ _ _ h)

theorem anyTill_first {i : Nat} {oi oL : Oper} {v : Value} (hi : ops[i]? = some oi) (hn : Region.noSelect ops = true)
    (hL : ops[L]? = some oL) (hw : ∃ e ∈ oL.after, Region.binds md e = true ∧ e.on = i)
    (hQ : ∀ c a w, Q (.panic c) (a.put oi.dst v) w → Q (.panic c) a w) :
    ∀ (n : Nat) (l : Array Bool) (a : Act) (w : World),
      (∀ j oj, ops[j]? = some oj → j ≠ i → l.getD j true = false → (∀ e ∈ oj.after, Region.binds md e = true → e.on ≠ i) → oi.apart ops oj = true) →
      i ∈ Region.ready md ops l → YieldsIf P ops S oi v a → S w →
      anyTill P md ops Q S L n (l.setIfInBounds i true) (a.put oi.dst v) w → anyTill P md ops Q S L (n + 1) l a w := by
  intro n
  induction n with
  | zero =>
    intro l a w _ hr hy hS H
    refine ⟨fun h => absurd hr (by rw [h]; simp), fun j hj => ?_⟩
    by_cases hji : j = i
    · subst hji; exact hy.wpOp hi hS ⟨fun _ => hS, H⟩
    · exact absurd (ready_mono hj hji) (by rw [H.1]; simp)
  | succ n ih =>
    intro l a w hf hr hy hS H
    refine ⟨fun h => absurd hr (by rw [h]; simp), fun j hj => ?_⟩
    by_cases hji : j = i
    · subst hji; exact hy.wpOp hi hS ⟨fun _ => hS, H⟩
    · obtain ⟨hju, oj, hoj, hall⟩ := mem_ready.1 hj
      have hno : ∀ e ∈ oj.after, Region.binds md e = true → e.on ≠ i := fun e he hb heq => by
        have k1 := hall e he hb
        have k0 := (mem_ready.1 hr).1
        rw [heq] at k1
        rcases Nat.lt_or_ge i l.size with h' | h'
        · simp [h'] at k0 k1; rw [k0] at k1; cases k1
        · simp [Array.getElem?_eq_none h'] at k1
      have hjL : j ≠ L := fun e => by
        obtain ⟨e1, h1, h2, h3⟩ := hw
        rw [e, hL] at hoj
        cases hoj
        exact hno e1 h1 h2 h3
      have k2 := wpOp_putIf hoj (hf j oj hoj hji hju hno) (fun cs b => Region.noSelect_spec hn i oi cs b hi) (fun cs b => Region.noSelect_spec hn j oj cs b hoj) hQ hy (H.2 j (ready_mono hj hji))
      refine wpOp_mono (fun a' w' k3 => ⟨fun _ => k3.2.1 hjL, ih (l.setIfInBounds j true) a' w' (fun k ok hk hki hun hno' => hf k ok hk hki ?_ hno') (ready_mono hr (Ne.symm hji)) k3.1 (k3.2.1 hjL) ?_⟩) k2
      · by_cases hjk : j = k
        · subst hjk; exact hju
        · rw [getD_set_ne true hjk] at hun; exact hun
      · rw [Array.setIfInBounds_comm _ _ hji]; exact k3.2.2

theorem anyTill_take {i : Nat} {oi oL : Oper} {v : Value} {n : Nat} {l : Array Bool} {a : Act} {w : World} (hi : ops[i]? = some oi) (hL : ops[L]? = some oL)
    (hn : Region.noSelect ops = true) (hf : Region.free md ops l i = true) (hr : (Region.ready md ops l).contains i = true) (hw : (oL.after.any fun e => Region.binds md e && e.on == i) = true)
    (hQ : ∀ c a w, Q (.panic c) (a.put oi.dst v) w → Q (.panic c) a w) (hy : YieldsIf P ops S oi v a) (hS : S w)
    (h : anyTill P md ops Q S L n (l.setIfInBounds i true) (a.put oi.dst v) w) : anyTill P md ops Q S L (n + 1) l a w := by
  obtain ⟨e, h1, h2⟩ := Array.any_eq_true'.1 hw
  simp only [Bool.and_eq_true, beq_iff_eq] at h2
  exact anyTill_first hi hn hL ⟨e, h1, h2⟩ hQ n l a w (Region.free_spec hi hf) (by simpa using hr) hy hS h
theorem anyTill_one {i : Nat} {o : Oper} {n : Nat} {l : Array Bool} {a : Act} {w : World} (hr : Region.ready md ops l = [i]) (ho : ops[i]? = some o) (hg : Region.wanted o (yielded ops a.tmps) = true)
    (h : ∀ K : Act → World → Prop, (∀ a' w', (i ≠ L → S w') → anyTill P md ops Q S L n (l.setIfInBounds i true) a' w' → K a' w') → o.wp P a w K Q) : anyTill P md ops Q S L (n + 1) l a w := by
  refine ⟨fun e => absurd (hr.symm.trans e) (by simp), fun j hj => ?_⟩
  rw [hr] at hj
  obtain rfl : j = i := by simpa using hj
  unfold wpOp
  simp only [ho, hg, if_true]
  exact .inl (h _ fun a' w' h1 h2 => ⟨h1, h2⟩)
theorem anyTill_done {n : Nat} {l : Array Bool} {a : Act} {w : World} (hr : Region.ready md ops l = []) (h : Q .normal a w) : anyTill P md ops Q S L n l a w := by
  cases n with
  | zero => exact ⟨hr, h⟩
  | succ n => exact ⟨fun _ => h, fun i hi => absurd hi (by rw [hr]; simp)⟩
end
section
variable {P : Program} {ops : Array Oper} {Q : Exit → Act → World → Prop} {md : Region.Mode} {n l : Nat}
end
noncomputable def grR (P : Nat → Nat → Prop) (u : Nat) : Nat → List Int
  | 0 => []
  | k + 1 => grR P u k ++ (if tb (P u k) = true then [(k : Int)] else [])
noncomputable def grC (P : Nat → Nat → Prop) (n : Nat) : Nat → List Int
  | 0 => []
  | k + 1 => grC P n k ++ grR P k n
noncomputable def grS (P : Nat → Nat → Prop) (n : Nat) : Nat → List Int
  | 0 => [0]
  | k + 1 => grS P n k ++ [((grC P n (k + 1)).length : Int)]
theorem grR_len (P : Nat → Nat → Prop) (u : Nat) : ∀ k, (grR P u k).length ≤ k
  | 0 => Nat.le_refl _
  | k + 1 => by
    have := grR_len P u k
    simp only [grR, List.length_append]
    split <;> simp <;> omega
theorem grC_len (P : Nat → Nat → Prop) (n : Nat) : ∀ k, (grC P n k).length ≤ k * n
  | 0 => Nat.zero_le _
  | k + 1 => by
    have h1 := grC_len P n k
    have h2 := grR_len P k n
    simp only [grC, List.length_append]
    rw [Nat.add_mul, Nat.one_mul]
    omega
theorem grS_len (P : Nat → Nat → Prop) (n : Nat) : ∀ k, (grS P n k).length = k + 1
  | 0 => rfl
  | k + 1 => by simp only [grS, List.length_append, List.length_singleton]; rw [grS_len P n k]
structure PbI (w1 W : World) (B X : Nat) (n : Int) (vS vC : Value) (S C : List Int) : Prop where
  box : W.heap[X]? = some (.cells #[.int .i64 n, .int .i64 n, vS, vC] 25 (0, 0))
  ownS : W.ownsRow B 3 1 vS S.length (valsI S)
  ownC : W.ownsRow B 3 1 vC C.length (valsI C)
  apart : ∀ g, vS.ownBlock = some g → vC.ownBlock ≠ some g
  bel : Below B w1 W
  le : B ≤ W.heap.size
  lx : B ≤ X
theorem own_neB {w : World} {B : Nat} {e : TypeId} {v : Value} {n : Nat} {xs : List Value} (h : w.ownsRow B e 1 v n xs) {k : Nat} {cs : Array Value} {e2 : TypeId} (hk : w.heap[k]? = some (.cells cs e2 (0, 0))) (hne : e ≠ e2) : v.ownBlock ≠ some k := by
  intro he
  rcases h.2 with ⟨h1, _⟩ | ⟨g, cap, cur, h1, h2, h3, _⟩
  · rw [h1] at he; simp [Value.ownBlock] at he
  · rw [h1] at he
    have : g = k := by simpa [Value.ownBlock] using he
    subst this
    rw [h3] at hk
    cases hk
    exact hne rfl
theorem PbI.below {w1 W Wn : World} {B X : Nat} {n : Int} {vS vC : Value} {S C : List Int} (h : PbI w1 W B X n vS vC S C) (k : Below W.heap.size W Wn) : PbI w1 Wn B X n vS vC S C :=
  ⟨(k.block _ (Array.getElem?_eq_some_iff.1 h.box).1).trans h.box, ownsRow_chg (S := fun _ => False) h.ownS (.of_below k) (fun _ _ => id), ownsRow_chg (S := fun _ => False) h.ownC (.of_below k) (fun _ _ => id), h.apart, h.bel.trans (k.mono h.le), Nat.le_trans h.le k.size, h.lx⟩
theorem PbI.appC {w1 W W3 : World} {B X : Nat} {n : Int} {vS vC : Value} {S C : List Int} {x : Int} {g cap : Nat} (h : PbI w1 W B X n vS vC S C) (hown : W3.ownsRow B 3 1 (.slice (some ⟨g, 0, none⟩) (C.length + 1) cap) (C.length + 1) (valsI C ++ [.int .i64 x])) (hg : W.grownBy W3 vC.ownBlock) (hat : vC.ownBlock = some g ∨ g = W.heap.size) :
    PbI w1 (W3.setCell ⟨X, 3, none⟩ (.slice (some ⟨g, 0, none⟩) (C.length + 1) cap)) B X n vS (.slice (some ⟨g, 0, none⟩) (C.length + 1) cap) S (C ++ [x]) := by
  have hX := (Array.getElem?_eq_some_iff.1 h.box).1
  have nC := own_neB h.ownC h.box (by decide)
  have nS := own_neB h.ownS h.box (by decide)
  have hb3 : W3.heap[X]? = some (.cells #[.int .i64 n, .int .i64 n, vS, vC] 25 (0, 0)) := (hg.block X hX (fun e => nC e.symm)).trans h.box
  have hB : Below B W W3 := (Below.refl B W).grown hg h.le (fun j hj => (own_ge h.ownC j hj).1)
  have hc : Chg (fun j => j = X) W3 (W3.setCell ⟨X, 3, none⟩ (.slice (some ⟨g, 0, none⟩) (C.length + 1) cap)) := Chg.of_set _ _ _ _ rfl
  have hgX : g ≠ X := by
    intro e
    rcases hown.2 with ⟨h1, _⟩ | ⟨g', cap', cur, h1, h2, h3, _⟩
    · cases h1
    · cases h1
      rw [e, hb3] at h3
      cases h3
  refine ⟨by simp [World.setCell, Array.getElem?_modify, hb3], ownsRow_chg (h.ownS.kept hg ?_) hc (fun j hj e => nS (by rw [← e]; exact hj)), ownsRow_chg (by simpa [valsI] using hown) hc (fun j hj e => ?_), fun j hj hu => ?_, h.bel.trans (hB.trans (hc.below (Nat.le_trans h.le hB.size) (fun j hj e => by have := h.lx; omega))), Nat.le_trans h.le (Nat.le_trans hB.size hc.size), h.lx⟩
  · cases hv : vS.ownBlock with
    | none => exact .inl rfl
    | some j => right; intro e; exact h.apart j hv e.symm
  · have : g = j := by simpa [Value.ownBlock] using hj
    exact hgX (this.trans e)
  · have hu' : g = j := by simpa [Value.ownBlock] using hu
    subst hu'
    rcases hat with e | e
    · exact h.apart _ hj e
    · have := (own_ge h.ownS _ hj).2; omega
theorem PbI.appS {w1 W W3 : World} {B X : Nat} {n : Int} {vS vC : Value} {S C : List Int} {x : Int} {g cap : Nat} (h : PbI w1 W B X n vS vC S C) (hown : W3.ownsRow B 3 1 (.slice (some ⟨g, 0, none⟩) (S.length + 1) cap) (S.length + 1) (valsI S ++ [.int .i64 x])) (hg : W.grownBy W3 vS.ownBlock) (hat : vS.ownBlock = some g ∨ g = W.heap.size) :
    PbI w1 (W3.setCell ⟨X, 2, none⟩ (.slice (some ⟨g, 0, none⟩) (S.length + 1) cap)) B X n (.slice (some ⟨g, 0, none⟩) (S.length + 1) cap) vC (S ++ [x]) C := by
  have hX := (Array.getElem?_eq_some_iff.1 h.box).1
  have nC := own_neB h.ownC h.box (by decide)
  have nS := own_neB h.ownS h.box (by decide)
  have hb3 : W3.heap[X]? = some (.cells #[.int .i64 n, .int .i64 n, vS, vC] 25 (0, 0)) := (hg.block X hX (fun e => nS e.symm)).trans h.box
  have hB : Below B W W3 := (Below.refl B W).grown hg h.le (fun j hj => (own_ge h.ownS j hj).1)
  have hc : Chg (fun j => j = X) W3 (W3.setCell ⟨X, 2, none⟩ (.slice (some ⟨g, 0, none⟩) (S.length + 1) cap)) := Chg.of_set _ _ _ _ rfl
  have hgX : g ≠ X := by
    intro e
    rcases hown.2 with ⟨h1, _⟩ | ⟨g', cap', cur, h1, h2, h3, _⟩
    · cases h1
    · cases h1
      rw [e, hb3] at h3
      cases h3
  refine ⟨by simp [World.setCell, Array.getElem?_modify, hb3], ownsRow_chg (by simpa [valsI] using hown) hc (fun j hj e => ?_), ownsRow_chg (h.ownC.kept hg ?_) hc (fun j hj e => nC (by rw [← e]; exact hj)), fun j hj hu => ?_, h.bel.trans (hB.trans (hc.below (Nat.le_trans h.le hB.size) (fun j hj e => by have := h.lx; omega))), Nat.le_trans h.le (Nat.le_trans hB.size hc.size), h.lx⟩
  · have : g = j := by simpa [Value.ownBlock] using hj
    exact hgX (this.trans e)
  · cases hv : vC.ownBlock with
    | none => exact .inl rfl
    | some j => right; intro e; exact h.apart j e.symm hv
  · have hj' : g = j := by simpa [Value.ownBlock] using hj
    subst hj'
    rcases hat with e | e
    · exact h.apart _ e hu
    · have := (own_ge h.ownC _ hu).2; omega
def grV (n : Nat) (b m : Nat) : Value := .agg #[.int .i64 (n : Int), .slice (some ⟨b, 0, none⟩) m m]
set_option maxRecDepth 100000 in
set_option maxHeartbeats 16000000 in
theorem wmeet_any (n b m u v : Nat) (Q : Nat → Bool) (w : World) (hn : n ≤ 128) (hu : u < 128) (hv : v < 128) (hm : u * n + v < m) (hm2 : m ≤ 16384) (hR : RoV w b m (fun i => .bool (Q i))) :
    Calls Tryz.prog 59 #[grV n b m, .int .i64 (u : Int), .int .i64 (v : Int)] w fun e w' => e = .returned (.bool (Q (u * n + v))) ∧ Below w.heap.size w w' := by
  obtain ⟨wb, hwb⟩ : ∃ x, w.alloc (.cells #[.int .i64 (n : Int), .slice (some ⟨b, 0, none⟩) m m] 45) = x := ⟨_, rfl⟩
  have bb : Below w.heap.size w wb := by rw [← hwb]; exact (Below.refl _ _).alloc (Nat.le_refl _) _
  have hT := BoxP.made w #[.int .i64 (n : Int), .slice (some ⟨b, 0, none⟩) m m] 45
  rw [hwb] at hT
  have q0 := (hT.all 0 _ rfl).1
  have q1 := (hT.all 1 _ rfl).1
  obtain ⟨y, hy⟩ : ∃ y, u * n = y := ⟨_, rfl⟩
  obtain ⟨x, hx⟩ : ∃ x, y + v = x := ⟨_, rfl⟩
  have hm1 : (u : Int) * (n : Int) = (y : Int) := by rw [← hy]; simp
  have hx1 : (y : Int) + (v : Int) = (x : Int) := by omega
  rw [hy, hx] at hm ⊢
  have hxn : (x : Int) < (m : Int) := by omega
  have hcell := ((hR.below bb) x hm).1
  obtain ⟨z, hz⟩ : ∃ z, Q x = z := ⟨_, rfl⟩
  rw [hz] at hcell ⊢
  have HB := hide bb
  clear bb hT hR hy hx hz
  unfold grV
  go_enter Tryz.func59, Tryz.ntmps59
  go_wp2_with fail
  go_ret
  exact ⟨rfl, unhide HB⟩
def GpP (w w' : World) (e : Ending) (n : Nat) (S C : List Int) : Prop := ∃ a1 c1 a2 c2, e = .returned (.agg #[.int .i64 (n : Int), .int .i64 (n : Int), .slice a1 S.length c1, .slice a2 C.length c2]) ∧ SlI w' a1 S.length c1 S ∧ SlI w' a2 C.length c2 C ∧ Below w.heap.size w w' ∧ (∀ z, a1 = some z → w.heap.size ≤ z.block) ∧ (∀ z, a2 = some z → w.heap.size ≤ z.block)
end Go.Proofs.YtgjokididdffhaaGreat
