/- Cx9 -/
import Derived.Test.YtgjokididdffhaaGreatCx4
import Derived.Test.YtgjokididdffhaaGreatCge
namespace Go.Proofs.YtgjokididdffhaaGreat
open Go.RowKit Go.Deep
set_option linter.unusedVariables false
theorem own_three {base : Nat} (w : World) (a b c : Int) (hb : base ≤ w.heap.size) : (w.alloc (.cells #[.int .i64 a, .int .i64 b, .int .i64 c] 3)).ownsRow base 3 1 (.slice (some ⟨w.heap.size, 0, none⟩) 3 3) 3 (valsI [a, b, c]) :=
  ⟨by simp [valsI], .inr ⟨w.heap.size, 3, _, rfl, hb, heap_alloc_new w _, Nat.le_refl _, by decide, by simp, by simp [valsI]⟩⟩
set_option maxRecDepth 100000 in
set_option maxHeartbeats 16000000 in
theorem wwhere_cols (kd : Int) (hk2 : (kd == 2) = true) (R width : Nat) (a1 a2 : Option Addr) (n1 c1 n2 c2 : Nat) (st cols : List Int) (u v : Nat) (w : World) (h1 : SlI w a1 n1 c1 st) (h2 : SlI w a2 n2 c2 cols) (hb1 : n1 ≤ 17592186044416) (hb2 : n2 ≤ 17592186044416) (hm : MayP (R : Int) (width : Int) st cols) (hu : u < width) (hv : v < width) (kk : Nat) (hkk : kk < R) (hk : InC st cols u kk ∧ InC st cols v kk ∧ ∀ j, j < kk → ¬ (InC st cols u j ∧ InC st cols v j)) :
    Calls Tryz.prog 60 #[.int .i64 kd, patV (R : Int) (width : Int) a1 n1 c1 a2 n2 c2, .int .i64 (u : Int), .int .i64 (v : Int)] w fun e w' => OwA [(u : Int), (v : Int), (kk : Int)] w w' e := by
  have hR8 : R ≤ 128 ∧ width ≤ 128 := by have := hm.head.fit; omega
  obtain ⟨wb, hwb⟩ : ∃ x, w.alloc (.cells #[.int .i64 (R : Int), .int .i64 (width : Int), .slice a1 n1 c1, .slice a2 n2 c2] 25) = x := ⟨_, rfl⟩
  have bb : Below w.heap.size w wb := by rw [← hwb]; exact (Below.refl _ _).alloc (Nat.le_refl _) _
  have hT := BoxP.made w #[.int .i64 (R : Int), .int .i64 (width : Int), .slice a1 n1 c1, .slice a2 n2 c2] 25
  rw [hwb] at hT
  have p0 := (hT.all 0 _ rfl).1
  have p1 := (hT.all 1 _ rfl).1
  have p2 := (hT.all 2 _ rfl).1
  have p3 := (hT.all 3 _ rfl).1
  have KO := hide (wopen_any R width a1 a2 n1 c1 n2 c2 st cols wb (h1.below bb) (h2.below bb) hb1 hb2 hm)
  obtain ⟨nn, hnn⟩ : ∃ nn, R * width = nn := ⟨_, rfl⟩
  have hnn2 : nn ≤ 16384 := by rw [← hnn]; exact Nat.mul_le_mul hR8.1 hR8.2
  rw [hnn] at KO
  unfold patV gridV at KO
  have HT := hide hT
  have HB := hide bb
  have HM := hide hm
  have HNN := hide hnn
  clear hT bb h1 h2 hm hnn
  unfold patV
  go_enter Tryz.func60, Tryz.ntmps60
  go_wp2_with fail
  refine (unhide KO).mono ?_
  rintro _ w2 ⟨b, rfl, hRo, b2⟩
  have hG0 := BoxP.made w2 #[.int .i64 (R : Int), .int .i64 (width : Int), .slice (some ⟨b, 0, none⟩) nn nn] 131
  obtain ⟨wg, hwg⟩ : ∃ x, w2.alloc (.cells #[.int .i64 (R : Int), .int .i64 (width : Int), .slice (some ⟨b, 0, none⟩) nn nn] 131) = x := ⟨_, rfl⟩
  have bg : Below w2.heap.size w2 wg := by rw [← hwg]; exact (Below.refl _ _).alloc (Nat.le_refl _) _
  rw [hwg] at hG0
  obtain ⟨GB, hGB⟩ : ∃ GB, w2.heap.size = GB := ⟨_, rfl⟩
  rw [hGB] at hG0
  have b2g := b2.trans (bg.mono b2.size)
  have HN := hide (show ∀ W, Below wg.heap.size wg W → BoxP W w.heap.size [.int .i64 (R : Int), .int .i64 (width : Int), .slice a1 n1 c1, .slice a2 n2 c2] ∧ BoxP W GB [.int .i64 (R : Int), .int .i64 (width : Int), .slice (some ⟨b, 0, none⟩) nn nn] ∧ Below w.heap.size w W from fun W k => ⟨((unhide HT).below b2g).below k, hG0.below k, ((unhide HB).trans (b2g.mono (unhide HB).size)).trans (k.mono (Nat.le_trans (unhide HB).size b2g.size))⟩)
  have HAT := hide (show ∀ W, Below wg.heap.size wg W → ∀ r c t, r < R → c < width → TruQ t (InC st cols c r) → Calls Tryz.prog 77 #[.agg #[.int .i64 (R : Int), .int .i64 (width : Int), .slice (some ⟨b, 0, none⟩) nn nn], .int .i64 (r : Int), .int .i64 (c : Int)] W fun e w' => e = .returned (.bool t) ∧ Below W.heap.size W w' from fun W k r c t hr hc ht => by
    have h9 := wat_any R width b nn r c (fun x => tb (Vis R width st cols cols.length x)) W hR8.2 (by omega) (by omega) (by rw [← unhide HNN]; exact idx_lt hr hc) hnn2 ((hRo.below bg).below k)
    have e9 : t = tb (Vis R width st cols cols.length (r * width + c)) := by
      have h1 : t = true ↔ InC st cols c r := ht
      have h2 : tb (Vis R width st cols cols.length (r * width + c)) = true ↔ InC st cols c r := vis_in (unhide HM) hr hc
      rw [Bool.eq_iff_iff, h1, h2]
    rw [e9]
    exact h9)
  clear KO p0 p1 p2 p3 hG0 bg b2 b2g hRo
  have HX0 := hide (Below.refl wg.heap.size wg)
  have HK := hide hk
  clear hk
  go_wp2_with fail
  go_loopw [10] (fun kv wr => ∃ k : Nat, k ≤ kk ∧ kv = .int .i64 (k : Int) ∧ Hid (Below wg.heap.size wg wr)) (fun kv _ => R - (intOf kv).toNat)
  case atStart => exact ⟨0, Nat.zero_le _, rfl, HX0⟩
  case round =>
    obtain ⟨k, hk, rfl, HW⟩ := hrel
    have hkn : k < R := by omega
    have hkn' : (k : Int) < (R : Int) := by omega
    obtain ⟨t1, ht1⟩ := truth (InC st cols u k)
    obtain ⟨t2, ht2⟩ := truth (InC st cols v k)
    have hx := unhide HN wr (unhide HW)
    have p0 := (hx.1.all 0 _ rfl).1
    have p1 := (hx.1.all 1 _ rfl).1
    have g0 := (hx.2.1.all 0 _ rfl).1
    have g1 := (hx.2.1.all 1 _ rfl).1
    have g2 := (hx.2.1.all 2 _ rfl).1
    have K1 := hide (unhide HAT wr (unhide HW) k u t1 (by omega) (by omega) ht1)
    have K2 := hide (fun W (q : Below wg.heap.size wg W) => unhide HAT W q k v t2 (by omega) (by omega) ht2)
    have HT1 := hide (show TruQ t1 _ from ht1)
    have HT2 := hide (show TruQ t2 _ from ht2)
    clear hx ht1 ht2
    go_wp2_with fail
    refine (unhide K1).mono ?_
    rintro _ w5 ⟨rfl, b5⟩
    have HW5 := hide ((unhide HW).trans (b5.mono (unhide HW).size))
    have K3 := hide (unhide K2 w5 (unhide HW5))
    have hx := unhide HN w5 (unhide HW5)
    clear K1 K2 b5 p0 p1 g0 g1 g2
    have g0 := (hx.2.1.all 0 _ rfl).1
    have g1 := (hx.2.1.all 1 _ rfl).1
    have g2 := (hx.2.1.all 2 _ rfl).1
    clear hx
    cases t1
    · have hne : k ≠ kk := fun e => by subst e; have := (unhide HT1).2 (unhide HK).1; cases this
      go_wp2_with fail
      exact ⟨⟨k + 1, by omega, by (first | rfl | go_num), HW5⟩, by simp [intOf]; omega⟩
    · go_wp2_with fail
      refine (unhide K3).mono ?_
      rintro _ w6 ⟨rfl, b6⟩
      have HW6 := hide ((unhide HW5).trans (b6.mono (unhide HW5).size))
      clear K3 b6 g0 g1 g2
      cases t2
      · have hne : k ≠ kk := fun e => by subst e; have := (unhide HT2).2 (unhide HK).2.1; cases this
        go_wp2_with fail
        exact ⟨⟨k + 1, by omega, by (first | rfl | go_num), HW6⟩, by simp [intOf]; omega⟩
      · have hke : k = kk := by
          apply Classical.byContradiction
          intro hne
          exact (unhide HK).2.2 k (by omega) ⟨(unhide HT1).1 (by first | rfl | trivial), (unhide HT2).1 (by first | rfl | trivial)⟩
        subst hke
        have HF := hide (unhide HN w6 (unhide HW6)).2.2
        go_wp2_with fail
        try go_ret
        exact ⟨_, rfl, own_three _ _ _ _ (unhide HF).size, (unhide HF).alloc (unhide HF).size _⟩
set_option maxRecDepth 100000 in
set_option maxHeartbeats 16000000 in
theorem wwhere_rows (kd : Int) (hk2 : (kd == 2) = false) (hk3 : (kd == 3) = true) (R width : Nat) (a1 a2 : Option Addr) (n1 c1 n2 c2 : Nat) (st cols : List Int) (u v : Nat) (w : World) (h1 : SlI w a1 n1 c1 st) (h2 : SlI w a2 n2 c2 cols) (hb1 : n1 ≤ 17592186044416) (hb2 : n2 ≤ 17592186044416) (hm : MayP (R : Int) (width : Int) st cols) (hu : u < R) (hv : v < R) (kk : Nat) (hkk : kk < width) (hk : InC st cols kk u ∧ InC st cols kk v ∧ ∀ j, j < kk → ¬ (InC st cols j u ∧ InC st cols j v)) :
    Calls Tryz.prog 60 #[.int .i64 kd, patV (R : Int) (width : Int) a1 n1 c1 a2 n2 c2, .int .i64 (u : Int), .int .i64 (v : Int)] w fun e w' => OwA [(u : Int), (v : Int), (kk : Int)] w w' e := by
  have hR8 : R ≤ 128 ∧ width ≤ 128 := by have := hm.head.fit; omega
  obtain ⟨wb, hwb⟩ : ∃ x, w.alloc (.cells #[.int .i64 (R : Int), .int .i64 (width : Int), .slice a1 n1 c1, .slice a2 n2 c2] 25) = x := ⟨_, rfl⟩
  have bb : Below w.heap.size w wb := by rw [← hwb]; exact (Below.refl _ _).alloc (Nat.le_refl _) _
  have hT := BoxP.made w #[.int .i64 (R : Int), .int .i64 (width : Int), .slice a1 n1 c1, .slice a2 n2 c2] 25
  rw [hwb] at hT
  have p0 := (hT.all 0 _ rfl).1
  have p1 := (hT.all 1 _ rfl).1
  have p2 := (hT.all 2 _ rfl).1
  have p3 := (hT.all 3 _ rfl).1
  have KO := hide (wopen_any R width a1 a2 n1 c1 n2 c2 st cols wb (h1.below bb) (h2.below bb) hb1 hb2 hm)
  obtain ⟨nn, hnn⟩ : ∃ nn, R * width = nn := ⟨_, rfl⟩
  have hnn2 : nn ≤ 16384 := by rw [← hnn]; exact Nat.mul_le_mul hR8.1 hR8.2
  rw [hnn] at KO
  unfold patV gridV at KO
  have HT := hide hT
  have HB := hide bb
  have HM := hide hm
  have HNN := hide hnn
  clear hT bb h1 h2 hm hnn
  unfold patV
  go_enter Tryz.func60, Tryz.ntmps60
  go_wp2_with fail
  refine (unhide KO).mono ?_
  rintro _ w2 ⟨b, rfl, hRo, b2⟩
  have hG0 := BoxP.made w2 #[.int .i64 (R : Int), .int .i64 (width : Int), .slice (some ⟨b, 0, none⟩) nn nn] 131
  obtain ⟨wg, hwg⟩ : ∃ x, w2.alloc (.cells #[.int .i64 (R : Int), .int .i64 (width : Int), .slice (some ⟨b, 0, none⟩) nn nn] 131) = x := ⟨_, rfl⟩
  have bg : Below w2.heap.size w2 wg := by rw [← hwg]; exact (Below.refl _ _).alloc (Nat.le_refl _) _
  rw [hwg] at hG0
  obtain ⟨GB, hGB⟩ : ∃ GB, w2.heap.size = GB := ⟨_, rfl⟩
  rw [hGB] at hG0
  have b2g := b2.trans (bg.mono b2.size)
  have HN := hide (show ∀ W, Below wg.heap.size wg W → BoxP W w.heap.size [.int .i64 (R : Int), .int .i64 (width : Int), .slice a1 n1 c1, .slice a2 n2 c2] ∧ BoxP W GB [.int .i64 (R : Int), .int .i64 (width : Int), .slice (some ⟨b, 0, none⟩) nn nn] ∧ Below w.heap.size w W from fun W k => ⟨((unhide HT).below b2g).below k, hG0.below k, ((unhide HB).trans (b2g.mono (unhide HB).size)).trans (k.mono (Nat.le_trans (unhide HB).size b2g.size))⟩)
  have HAT := hide (show ∀ W, Below wg.heap.size wg W → ∀ r c t, r < R → c < width → TruQ t (InC st cols c r) → Calls Tryz.prog 77 #[.agg #[.int .i64 (R : Int), .int .i64 (width : Int), .slice (some ⟨b, 0, none⟩) nn nn], .int .i64 (r : Int), .int .i64 (c : Int)] W fun e w' => e = .returned (.bool t) ∧ Below W.heap.size W w' from fun W k r c t hr hc ht => by
    have h9 := wat_any R width b nn r c (fun x => tb (Vis R width st cols cols.length x)) W hR8.2 (by omega) (by omega) (by rw [← unhide HNN]; exact idx_lt hr hc) hnn2 ((hRo.below bg).below k)
    have e9 : t = tb (Vis R width st cols cols.length (r * width + c)) := by
      have h1 : t = true ↔ InC st cols c r := ht
      have h2 : tb (Vis R width st cols cols.length (r * width + c)) = true ↔ InC st cols c r := vis_in (unhide HM) hr hc
      rw [Bool.eq_iff_iff, h1, h2]
    rw [e9]
    exact h9)
  clear KO p0 p1 p2 p3 hG0 bg b2 b2g hRo
  have HX0 := hide (Below.refl wg.heap.size wg)
  have HK := hide hk
  clear hk
  go_wp2_with fail
  go_loopw [10] (fun kv wr => kv = .int .i64 0 ∧ Hid (Below wg.heap.size wg wr)) (fun kv _ => 0)
  case atStart => exact ⟨rfl, HX0⟩
  case round =>
    obtain ⟨rfl, HX0⟩ := hrel
    go_wp2_with fail
    go_loopw [11] (fun kv wr => ∃ k : Nat, k ≤ kk ∧ kv = .int .i64 (k : Int) ∧ Hid (Below wg.heap.size wg wr)) (fun kv _ => width - (intOf kv).toNat)
    case atStart => exact ⟨0, Nat.zero_le _, rfl, HX0⟩
    case round =>
      obtain ⟨k, hk, rfl, HW⟩ := hrel
      have hkn : k < width := by omega
      have hkn' : (k : Int) < (width : Int) := by omega
      obtain ⟨t1, ht1⟩ := truth (InC st cols k u)
      obtain ⟨t2, ht2⟩ := truth (InC st cols k v)
      have hx := unhide HN wr (unhide HW)
      have p0 := (hx.1.all 0 _ rfl).1
      have p1 := (hx.1.all 1 _ rfl).1
      have g0 := (hx.2.1.all 0 _ rfl).1
      have g1 := (hx.2.1.all 1 _ rfl).1
      have g2 := (hx.2.1.all 2 _ rfl).1
      have K1 := hide (unhide HAT wr (unhide HW) u k t1 (by omega) (by omega) ht1)
      have K2 := hide (fun W (q : Below wg.heap.size wg W) => unhide HAT W q v k t2 (by omega) (by omega) ht2)
      have HT1 := hide (show TruQ t1 _ from ht1)
      have HT2 := hide (show TruQ t2 _ from ht2)
      clear hx ht1 ht2
      go_wp2_with fail
      refine (unhide K1).mono ?_
      rintro _ w5 ⟨rfl, b5⟩
      have HW5 := hide ((unhide HW).trans (b5.mono (unhide HW).size))
      have K3 := hide (unhide K2 w5 (unhide HW5))
      have hx := unhide HN w5 (unhide HW5)
      clear K1 K2 b5 p0 p1 g0 g1 g2
      have g0 := (hx.2.1.all 0 _ rfl).1
      have g1 := (hx.2.1.all 1 _ rfl).1
      have g2 := (hx.2.1.all 2 _ rfl).1
      clear hx
      cases t1
      · have hne : k ≠ kk := fun e => by subst e; have := (unhide HT1).2 (unhide HK).1; cases this
        go_wp2_with fail
        exact ⟨⟨k + 1, by omega, by (first | rfl | go_num), HW5⟩, by simp [intOf]; omega⟩
      · go_wp2_with fail
        refine (unhide K3).mono ?_
        rintro _ w6 ⟨rfl, b6⟩
        have HW6 := hide ((unhide HW5).trans (b6.mono (unhide HW5).size))
        clear K3 b6 g0 g1 g2
        cases t2
        · have hne : k ≠ kk := fun e => by subst e; have := (unhide HT2).2 (unhide HK).2.1; cases this
          go_wp2_with fail
          exact ⟨⟨k + 1, by omega, by (first | rfl | go_num), HW6⟩, by simp [intOf]; omega⟩
        · have hke : k = kk := by
            apply Classical.byContradiction
            intro hne
            exact (unhide HK).2.2 k (by omega) ⟨(unhide HT1).1 (by first | rfl | trivial), (unhide HT2).1 (by first | rfl | trivial)⟩
          subst hke
          have HF := hide (unhide HN w6 (unhide HW6)).2.2
          go_wp2_with fail
          try go_ret
          exact ⟨_, rfl, own_three _ _ _ _ (unhide HF).size, (unhide HF).alloc (unhide HF).size _⟩
set_option maxRecDepth 100000 in
set_option maxHeartbeats 16000000 in
theorem wwhere_off (kd : Int) (hk2 : (kd == 2) = false) (hk3 : (kd == 3) = false) (R width : Nat) (a1 a2 : Option Addr) (n1 c1 n2 c2 : Nat) (st cols : List Int) (u v : Nat) (w : World) (h1 : SlI w a1 n1 c1 st) (h2 : SlI w a2 n2 c2 cols) (hb1 : n1 ≤ 17592186044416) (hb2 : n2 ≤ 17592186044416) (hm : MayP (R : Int) (width : Int) st cols) :
    Calls Tryz.prog 60 #[.int .i64 kd, patV (R : Int) (width : Int) a1 n1 c1 a2 n2 c2, .int .i64 (u : Int), .int .i64 (v : Int)] w fun e w' => OwA [(u : Int), (v : Int)] w w' e := by
  have hR8 : R ≤ 128 ∧ width ≤ 128 := by have := hm.head.fit; omega
  obtain ⟨wb, hwb⟩ : ∃ x, w.alloc (.cells #[.int .i64 (R : Int), .int .i64 (width : Int), .slice a1 n1 c1, .slice a2 n2 c2] 25) = x := ⟨_, rfl⟩
  have bb : Below w.heap.size w wb := by rw [← hwb]; exact (Below.refl _ _).alloc (Nat.le_refl _) _
  have hT := BoxP.made w #[.int .i64 (R : Int), .int .i64 (width : Int), .slice a1 n1 c1, .slice a2 n2 c2] 25
  rw [hwb] at hT
  have p0 := (hT.all 0 _ rfl).1
  have p1 := (hT.all 1 _ rfl).1
  have p2 := (hT.all 2 _ rfl).1
  have p3 := (hT.all 3 _ rfl).1
  have KO := hide (wopen_any R width a1 a2 n1 c1 n2 c2 st cols wb (h1.below bb) (h2.below bb) hb1 hb2 hm)
  obtain ⟨nn, hnn⟩ : ∃ nn, R * width = nn := ⟨_, rfl⟩
  have hnn2 : nn ≤ 16384 := by rw [← hnn]; exact Nat.mul_le_mul hR8.1 hR8.2
  rw [hnn] at KO
  unfold patV gridV at KO
  have HT := hide hT
  have HB := hide bb
  have HM := hide hm
  have HNN := hide hnn
  clear hT bb h1 h2 hm hnn
  unfold patV
  go_enter Tryz.func60, Tryz.ntmps60
  go_wp2_with fail
  refine (unhide KO).mono ?_
  rintro _ w2 ⟨b, rfl, hRo, b2⟩
  have hG0 := BoxP.made w2 #[.int .i64 (R : Int), .int .i64 (width : Int), .slice (some ⟨b, 0, none⟩) nn nn] 131
  obtain ⟨wg, hwg⟩ : ∃ x, w2.alloc (.cells #[.int .i64 (R : Int), .int .i64 (width : Int), .slice (some ⟨b, 0, none⟩) nn nn] 131) = x := ⟨_, rfl⟩
  have bg : Below w2.heap.size w2 wg := by rw [← hwg]; exact (Below.refl _ _).alloc (Nat.le_refl _) _
  rw [hwg] at hG0
  obtain ⟨GB, hGB⟩ : ∃ GB, w2.heap.size = GB := ⟨_, rfl⟩
  rw [hGB] at hG0
  have b2g := b2.trans (bg.mono b2.size)
  have HN := hide (show ∀ W, Below wg.heap.size wg W → BoxP W w.heap.size [.int .i64 (R : Int), .int .i64 (width : Int), .slice a1 n1 c1, .slice a2 n2 c2] ∧ BoxP W GB [.int .i64 (R : Int), .int .i64 (width : Int), .slice (some ⟨b, 0, none⟩) nn nn] ∧ Below w.heap.size w W from fun W k => ⟨((unhide HT).below b2g).below k, hG0.below k, ((unhide HB).trans (b2g.mono (unhide HB).size)).trans (k.mono (Nat.le_trans (unhide HB).size b2g.size))⟩)
  have HAT := hide (show ∀ W, Below wg.heap.size wg W → ∀ r c t, r < R → c < width → TruQ t (InC st cols c r) → Calls Tryz.prog 77 #[.agg #[.int .i64 (R : Int), .int .i64 (width : Int), .slice (some ⟨b, 0, none⟩) nn nn], .int .i64 (r : Int), .int .i64 (c : Int)] W fun e w' => e = .returned (.bool t) ∧ Below W.heap.size W w' from fun W k r c t hr hc ht => by
    have h9 := wat_any R width b nn r c (fun x => tb (Vis R width st cols cols.length x)) W hR8.2 (by omega) (by omega) (by rw [← unhide HNN]; exact idx_lt hr hc) hnn2 ((hRo.below bg).below k)
    have e9 : t = tb (Vis R width st cols cols.length (r * width + c)) := by
      have h1 : t = true ↔ InC st cols c r := ht
      have h2 : tb (Vis R width st cols cols.length (r * width + c)) = true ↔ InC st cols c r := vis_in (unhide HM) hr hc
      rw [Bool.eq_iff_iff, h1, h2]
    rw [e9]
    exact h9)
  clear KO p0 p1 p2 p3 hG0 bg b2 b2g hRo
  have HX0 := hide (Below.refl wg.heap.size wg)
  go_wp2_with fail
  go_loopw [10] (fun kv wr => kv = .int .i64 0 ∧ Hid (Below wg.heap.size wg wr)) (fun kv _ => 0)
  case atStart => exact ⟨rfl, HX0⟩
  case round =>
    obtain ⟨rfl, HX0⟩ := hrel
    go_wp2_with fail
    go_loopw [11] (fun kv wr => kv = .int .i64 0 ∧ Hid (Below wg.heap.size wg wr)) (fun kv _ => 0)
    case atStart => exact ⟨rfl, HX0⟩
    case round =>
      obtain ⟨rfl, HX1⟩ := hrel
      have HF := hide (unhide HN wr (unhide HX1)).2.2
      go_wp2_with fail
      try go_ret
      exact ⟨_, rfl, own_pair _ _ _ (unhide HF).size, (unhide HF).alloc (unhide HF).size _⟩
end Go.Proofs.YtgjokididdffhaaGreat
