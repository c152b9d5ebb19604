/- Cz3 -/
import Derived.Test.YtgjokididdffhaaGreatCgj
namespace Go.Proofs.YtgjokididdffhaaGreat
open Go.RowKit Go.Deep
set_option linter.unusedVariables false
def OrQ (V : (Nat → Nat) → Nat → Prop) (m go gu : Nat) (uf : Nat → Bool) (o : Nat → Nat) (k best : Nat) (w w' : World) (e : Ending) : Prop :=
  ∃ r : Nat, e = .returned (.int .i64 (r : Int)) ∧ OpE V o k (fun _ => True) best r ∧ (∃ o' : Nat → Nat, RoV w' go m (fun i => .int .i64 (o' i : Int)) ∧ ∀ i, i < k → o' i = o i) ∧ RoV w' gu m (fun i => .bool (uf i)) ∧ Chg (fun j => j = go ∨ j = gu) w w'
def UsE (uf : Nat → Bool) (o : Nat → Nat) (m k : Nat) : Prop := ∀ v, v < m → (uf v = true ↔ ∃ j, j < k ∧ o j = v)
set_option maxRecDepth 100000 in
set_option maxHeartbeats 32000000 in
theorem worders_any (V : (Nat → Nat) → Nat → Prop) (kd rows width : Int) (a1 : Option Addr) (n1 c1 : Nat) (a2 : Option Addr) (n2 c2 : Nat) (st cols : List Int) (m go gu : Nat) (hm : m ≤ 8) (hgg : go ≠ gu)
    (hVp : ∀ f z, V f z → PrmE m f) (hVc : ∀ f o z z', AgE f o m → V f z' → V o z → z' = z) (hVm : ∀ f z, V f z → z ≤ m)
    (hGr : ∀ (o : Nat → Nat) W, PrmE m o → SlI W a1 n1 c1 st → SlI W a2 n2 c2 cols → RoV W go m (fun i => .int .i64 (o i : Int)) → Calls Tryz.prog 18 #[.int .i64 kd, patV rows width a1 n1 c1 a2 n2 c2, .slice (some ⟨go, 0, none⟩) m m] W fun e w' => Below W.heap.size W w' ∧ ∃ (a : Option Addr) (n c z : Nat), e = .returned (.tuple #[.slice a n c, .int .i64 (z : Int), .int .i64 0]) ∧ V o z) :
    ∀ (d : Nat) (o : Nat → Nat) (uf : Nat → Bool) (k best : Nat) (w : World), k + d = m → best ≤ m + 1 → (∀ i, i < k → o i < m) → (∀ i j, i < k → j < k → o i = o j → i = j) → UsE uf o m k → SlI w a1 n1 c1 st → SlI w a2 n2 c2 cols → (∀ z, a1 = some z → st ≠ [] → z.block ≠ go ∧ z.block ≠ gu) → (∀ z, a2 = some z → cols ≠ [] → z.block ≠ go ∧ z.block ≠ gu) → RoV w go m (fun i => .int .i64 (o i : Int)) → RoV w gu m (fun i => .bool (uf i)) → go < w.heap.size → gu < w.heap.size →
    Calls Tryz.prog 12 #[.int .i64 kd, patV rows width a1 n1 c1 a2 n2 c2, .slice (some ⟨go, 0, none⟩) m m, .slice (some ⟨gu, 0, none⟩) m m, .int .i64 (k : Int), .int .i64 (best : Int)] w fun e w' => OrQ V m go gu uf o k best w w' e := by
  intro d
  induction d with
  | zero =>
    intro o uf k best w hkd hb ho1 ho2 hu h1 h2 l1 l2 hRo hRu hgo hgu
    obtain rfl : k = m := by omega
    obtain ⟨wb, hwb⟩ : ∃ x, w.alloc (.cells #[.int .i64 rows, .int .i64 width, .slice a1 n1 c1, .slice a2 n2 c2] 25) = x := ⟨_, rfl⟩
    have bb : Below w.heap.size w wb := by rw [← hwb]; exact (Below.refl _ _).alloc (Nat.le_refl _) _
    have hT0 := BoxP.made w #[.int .i64 rows, .int .i64 width, .slice a1 n1 c1, .slice a2 n2 c2] 25
    rw [hwb] at hT0
    have p0 := (hT0.all 0 _ rfl).1
    have p1 := (hT0.all 1 _ rfl).1
    have p2 := (hT0.all 2 _ rfl).1
    have p3 := (hT0.all 3 _ rfl).1
    have KG := hGr o wb ⟨ho1, ho2⟩ (h1.below bb) (h2.below bb) (hRo.below bb)
    unfold patV at KG
    have KG := hide KG
    have HB := hide bb
    have HF := hide (show ∀ (W : World) (z r : Nat), Below w.heap.size w W → V o z → r = min z best → OrQ V k go gu uf o k best w W (.returned (.int .i64 (r : Int))) from fun W z r b hz hr => by
      subst hr
      exact ⟨_, rfl, OpE.done (fun f z' ha hv => hVc f o z z' ha hv hz) hz, ⟨o, hRo.below b, fun i _ => rfl⟩, hRu.below b, Chg.of_below b⟩)
    have e0 : ((k : Int) == (k : Int)) = true := by simp
    clear hT0 bb h1 h2 l1 l2 hRo hRu hu ho1 ho2 hGr
    unfold patV
    go_enter Tryz.func12, Tryz.ntmps12
    go_wp2_with fail
    refine (unhide KG).mono ?_
    rintro _ w2 ⟨b2, a, n, c, z, rfl, hV⟩
    have hb2 := (unhide HB).trans (b2.mono (unhide HB).size)
    have HF2 := hide (fun r (hr : r = min z best) => unhide HF w2 z r hb2 hV hr)
    clear KG b2 hb2 hV p0 p1 p2 p3
    go_wp2_with fail
    refine (num12_any 0 w2).mono ?_
    rintro _ wn ⟨rfl, hwn⟩
    rw [hwn]
    clear hwn wn
    by_cases hzb : z < best
    · have hzb' : (z : Int) < (best : Int) := by omega
      have HA := hide (unhide HF2 z (by omega))
      clear HF2 hzb
      go_wp2_with fail
      try go_ret
      exact unhide HA
    · have hzb' : ¬ (z : Int) < (best : Int) := by omega
      have HA := hide (unhide HF2 best (by omega))
      clear HF2 hzb
      go_wp2_with fail
      try go_ret
      exact unhide HA
  | succ d ih =>
    intro o uf k best w hkd hb ho1 ho2 hu h1 h2 l1 l2 hRo hRu hgo hgu
    have hkm : k < m := by omega
    obtain ⟨wb, hwb⟩ : ∃ x, w.alloc (.cells #[.int .i64 rows, .int .i64 width, .slice a1 n1 c1, .slice a2 n2 c2] 25) = x := ⟨_, rfl⟩
    have bb : Below w.heap.size w wb := by rw [← hwb]; exact (Below.refl _ _).alloc (Nat.le_refl _) _
    have hT0 := BoxP.made w #[.int .i64 rows, .int .i64 width, .slice a1 n1 c1, .slice a2 n2 c2] 25
    rw [hwb] at hT0
    have hs := bb.size
    have HNx := hide (show ∀ W, Chg (fun j => j = go ∨ j = gu) wb W → BoxP W w.heap.size [.int .i64 rows, .int .i64 width, .slice a1 n1 c1, .slice a2 n2 c2] ∧ SlI W a1 n1 c1 st ∧ SlI W a2 n2 c2 cols ∧ Chg (fun j => j = go ∨ j = gu) w W ∧ wb.heap.size ≤ W.heap.size from fun W c =>
      ⟨hT0.chg c (fun e => by omega), (h1.below bb).chg c (fun z hz hne e => by have := l1 z hz hne; omega), (h2.below bb).chg c (fun z hz hne e => by have := l2 z hz hne; omega), (Chg.of_below bb).trans c, c.size⟩)
    have HIH := hide (show ∀ (y : Nat) (o' : Nat → Nat) (best' : Nat) (W : World), y < m → uf y = false → best' ≤ m + 1 → (∀ i, i < k → o' i = o i) → Chg (fun j => j = go ∨ j = gu) wb W → RoV W go m (fun i => .int .i64 (if i = k then y else o' i : Nat)) → RoV W gu m (fun i => .bool (if i = y then true else uf i)) → Calls Tryz.prog 12 #[.int .i64 kd, patV rows width a1 n1 c1 a2 n2 c2, .slice (some ⟨go, 0, none⟩) m m, .slice (some ⟨gu, 0, none⟩) m m, .int .i64 ((k : Int) + 1), .int .i64 (best' : Int)] W fun e w' => ∃ r : Nat, e = .returned (.int .i64 (r : Int)) ∧ r ≤ best' ∧ OpE V (upE o k y) (k + 1) (fun _ => True) best' r ∧ (∃ o'' : Nat → Nat, RoV w' go m (fun i => .int .i64 (o'' i : Int)) ∧ ∀ i, i < k → o'' i = o i) ∧ RoV w' gu m (fun i => .bool (if i = y then true else uf i)) ∧ Chg (fun j => j = go ∨ j = gu) W w' from fun y o' best' W hy huy hb' hoo hc r1 r2 => by
      have hx := unhide HNx W hc
      have hnew : ∀ j, j < k → o j ≠ y := fun j hj e => by
        have := (hu y hy).2 ⟨j, hj, e⟩
        rw [huy] at this; cases this
      have key : ∀ i, i < k + 1 → (if i = k then y else o' i) = (if i = k then y else o i) := fun i hi => by
        by_cases e : i = k
        · rw [if_pos e, if_pos e]
        · rw [if_neg e, if_neg e, hoo i (by omega)]
      have q := ih (fun i => if i = k then y else o' i) (fun i => if i = y then true else uf i) (k + 1) best' W (by omega) hb' (fun i hi => by
          rw [key i hi]
          by_cases e : i = k
          · rw [if_pos e]; exact hy
          · rw [if_neg e]; exact ho1 i (by omega)) (fun i j hi hj e => by
          simp only [key i hi, key j hj] at e
          by_cases e1 : i = k
          · by_cases e2 : j = k
            · omega
            · rw [if_pos e1, if_neg e2] at e
              exact absurd e.symm (hnew j (by omega))
          · by_cases e2 : j = k
            · rw [if_neg e1, if_pos e2] at e
              exact absurd e (hnew i (by omega))
            · rw [if_neg e1, if_neg e2] at e
              exact ho2 i j (by omega) (by omega) e) (fun v hv => by
          show (if v = y then true else uf v) = true ↔ ∃ j, j < k + 1 ∧ (if j = k then y else o' j) = v
          constructor
          · intro e
            by_cases e1 : v = y
            · exact ⟨k, by omega, by rw [if_pos rfl, e1]⟩
            · rw [if_neg e1] at e
              obtain ⟨j, hj, e2⟩ := (hu v hv).1 e
              exact ⟨j, by omega, by rw [if_neg (by omega), hoo j hj, e2]⟩
          · rintro ⟨j, hj, e⟩
            by_cases e1 : v = y
            · rw [if_pos e1]
            · rw [if_neg e1]
              by_cases e2 : j = k
              · rw [if_pos e2] at e; exact absurd e.symm e1
              · rw [if_neg e2, hoo j (by omega)] at e
                exact (hu v hv).2 ⟨j, by omega, e⟩) hx.2.1 hx.2.2.1 l1 l2 r1 r2 (by have := hx.2.2.2.2; omega) (by have := hx.2.2.2.2; omega)
      rw [show ((k + 1 : Nat) : Int) = (k : Int) + 1 by omega] at q
      refine q.mono (fun e w' ⟨r, e1, e2, ⟨o'', e3, e4⟩, e5, e6⟩ => ⟨r, e1, e2.le, ?_, ⟨o'', e3, fun i hi => ?_⟩, e5, e6⟩)
      · have hag : ∀ f, AgE f (fun i => if i = k then y else o' i) (k + 1) ↔ AgE f (upE o k y) (k + 1) := fun f => by
          have kk : ∀ i, i < k + 1 → (if i = k then y else o' i) = upE o k y i := fun i hi => by rw [key i hi]; rfl
          exact ⟨fun h i hi => (h i hi).trans (kk i hi), fun h i hi => (h i hi).trans (kk i hi).symm⟩
        refine ⟨e2.le, e2.at_.imp id (fun ⟨f, f1, f2⟩ => ⟨f, (hag f).1 f1, f2⟩), fun f z f1 f2 f3 => e2.all f z ((hag f).2 f1) f2 f3⟩
      · rw [e4 i (by omega)]
        show (if i = k then y else o' i) = o i
        rw [if_neg (by omega), hoo i hi])
    have HSK := hide (show ∀ y, y < m → uf y = true → ∀ f z, AgE f o k → V f z → f k ≠ y from fun y hy huy f z hf hv e => by
      obtain ⟨j, hj, e2⟩ := (hu y hy).1 huy
      have hp := hVp f z hv
      have := hp.2 j k (by omega) hkm (by rw [hf j hj, e2, e])
      omega)
    have HVL := hide (show ∀ f z, V f z → f k < m from fun f z hv => (hVp f z hv).1 k hkm)
    have HR0 := hide (And.intro (hRo.below bb) (hRu.below bb))
    have hkne : ((k : Int) == (m : Int)) = false := by simp; omega
    have hkm' : (k : Int) < (m : Int) := by omega
    have hw1 : IntKind.i64.wrap ((k : Int) + 1) = (k : Int) + 1 := by rw [IntKind.wrap_i64]; omega
    unfold patV at HIH ⊢
    clear hT0 bb h1 h2 l1 l2 hRo hRu hu ho1 ho2 hGr ih hs
    go_enter Tryz.func12, Tryz.ntmps12
    go_wp2_with fail
    go_loopw [16, 5] (fun vv bv wr => ∃ (v r : Nat), v ≤ m ∧ r ≤ m + 1 ∧ vv = .int .i64 (v : Int) ∧ bv = .int .i64 (r : Int) ∧ Hid (OpE V o k (fun x => x < v) best r) ∧ Hid (∃ o' : Nat → Nat, RoV wr go m (fun i => .int .i64 (o' i : Int)) ∧ ∀ i, i < k → o' i = o i) ∧ Hid (RoV wr gu m (fun i => .bool (uf i))) ∧ Hid (Chg (fun j => j = go ∨ j = gu) wb wr)) (fun vv _ _ => m - (intOf vv).toNat)
    case atStart => exact ⟨0, best, Nat.zero_le _, hb, rfl, rfl, hide (OpE.start _ _ _), hide ⟨o, (unhide HR0).1, fun i _ => rfl⟩, hide (unhide HR0).2, hide (Chg.refl _ _)⟩
    case round =>
      obtain ⟨v, r, hv, hr, rfl, rfl, HO, HRo, HRu, HC⟩ := hrel
      by_cases hlt : v < m
      · have hlt' : (v : Int) < (m : Int) := by omega
        have q0 := (unhide HRu v hlt).1
        have q1 := (unhide HRu v hlt).2
        obtain ⟨t, ht⟩ : ∃ t, uf v = t := ⟨_, rfl⟩
        simp only [ht] at q0
        have HT := hide ht
        clear ht
        cases t
        · obtain ⟨o', hRo', hoo⟩ := unhide HRo
          have k0 := (hRo' k hkm).1
          have k1 := (hRo' k hkm).2
          have hC1 : Chg (fun j => j = go ∨ j = gu) wr (wr.setCell ⟨gu, v, none⟩ (.bool true)) := Chg.of_set _ _ _ _ (.inr rfl)
          have hC2 : Chg (fun j => j = go ∨ j = gu) (wr.setCell ⟨gu, v, none⟩ (.bool true)) ((wr.setCell ⟨gu, v, none⟩ (.bool true)).setCell ⟨go, k, none⟩ (.int .i64 (v : Int))) := Chg.of_set _ _ _ _ (.inl rfl)
          have hS1 : RoV (wr.setCell ⟨gu, v, none⟩ (.bool true)) gu m (fun i => .bool (if i = v then true else uf i)) := ((unhide HRu).put v _ hlt).congr (fun i hi => by split <;> rfl)
          have hS1o : RoV (wr.setCell ⟨gu, v, none⟩ (.bool true)) go m (fun i => .int .i64 (o' i : Int)) := hRo'.chg (Chg.of_set (S := fun j => j = gu) wr gu v (.bool true) rfl) hgg
          have k2 := (hS1o k hkm).1
          have k3 := (hS1o k hkm).2
          have hS2o : RoV ((wr.setCell ⟨gu, v, none⟩ (.bool true)).setCell ⟨go, k, none⟩ (.int .i64 (v : Int))) go m (fun i => .int .i64 (if i = k then v else o' i : Nat)) := (hS1o.put k _ hkm).congr (fun i hi => by split <;> rfl)
          have hS2 : RoV ((wr.setCell ⟨gu, v, none⟩ (.bool true)).setCell ⟨go, k, none⟩ (.int .i64 (v : Int))) gu m (fun i => .bool (if i = v then true else uf i)) := hS1.chg (Chg.of_set (S := fun j => j = go) _ go k (.int .i64 (v : Int)) rfl) (fun e => hgg e.symm)
          have hC3 := (unhide HC).trans (hC1.trans hC2)
          have KI := hide (unhide HIH v o' r _ hlt (unhide HT) hr hoo hC3 hS2o hS2)
          have hx := unhide HNx _ hC3
          have t0 := (hx.1.all 0 _ rfl).1
          have t1 := (hx.1.all 1 _ rfl).1
          have t2 := (hx.1.all 2 _ rfl).1
          have t3 := (hx.1.all 3 _ rfl).1
          have HC3 := hide hC3
          have HI9 := hide (show v + 1 ≤ m ∧ m - (v + 1) < m - v from by omega)
          clear hRo' hoo hC1 hC2 hS1 hS1o hS2 hS2o hC3 hx
          go_wp2_with fail
          refine (unhide KI).mono ?_
          rintro _ w6 ⟨r', rfl, hr', hO6, HRo6, hRu6, hc6⟩
          have y0 : w6.cell? ⟨gu, v, none⟩ = some (.bool true) := by have h := (hRu6 v hlt).1; simpa using h
          have y1 := (hRu6 v hlt).2
          have hC7 : Chg (fun j => j = go ∨ j = gu) w6 (w6.setCell ⟨gu, v, none⟩ (.bool false)) := Chg.of_set _ _ _ _ (.inr rfl)
          have HRu7 := hide (show RoV (w6.setCell ⟨gu, v, none⟩ (.bool false)) gu m (fun i => .bool (uf i)) from (hRu6.put v _ hlt).congr (fun i hi => by
            by_cases e : i = v
            · rw [if_pos e, e, unhide HT]
            · rw [if_neg e, if_neg e]))
          have HRo7 := hide (show ∃ o' : Nat → Nat, RoV (w6.setCell ⟨gu, v, none⟩ (.bool false)) go m (fun i => .int .i64 (o' i : Int)) ∧ ∀ i, i < k → o' i = o i from by
            obtain ⟨o'', e1, e2⟩ := HRo6
            exact ⟨o'', e1.chg (Chg.of_set (S := fun j => j = gu) w6 gu v (.bool false) rfl) hgg, e2⟩)
          have HC7 := hide ((unhide HC3).trans (hc6.trans hC7))
          have HO7 := hide ((unhide HO).step hO6)
          have hr7 : r' ≤ m + 1 := Nat.le_trans hr' hr
          clear hO6 HRo6 hRu6 hc6 hC7 hr' KI t0 t1 t2 t3 k0 k1 k2 k3 q0 q1
          go_wp2_with fail
          exact ⟨⟨v + 1, r', (unhide HI9).1, hr7, by (first | rfl | go_num), rfl, HO7, HRo7, HRu7, HC7⟩, by have := (unhide HI9).2; simp only [intOf]; omega⟩
        · have HO7 := hide ((unhide HO).skip (unhide HSK v hlt (unhide HT)))
          go_wp2_with fail
          exact ⟨⟨v + 1, r, by omega, hr, by (first | rfl | go_num), rfl, HO7, HRo, HRu, HC⟩, by simp [intOf]; omega⟩
      · obtain rfl : v = m := by omega
        have hlt' : ¬ (v : Int) < (v : Int) := by omega
        have HA := hide (show OrQ V v go gu uf o k best w wr (.returned (.int .i64 (r : Int))) from ⟨r, rfl, (unhide HO).all_ (unhide HVL), unhide HRo, unhide HRu, (unhide HNx wr (unhide HC)).2.2.2.1⟩)
        go_wp2_with fail
        try go_ret
        exact unhide HA
end Go.Proofs.YtgjokididdffhaaGreat
