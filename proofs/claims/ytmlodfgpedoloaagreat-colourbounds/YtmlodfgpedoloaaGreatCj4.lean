/-
  BOUNDS: sloperef12.Floor: contracts by premises.
-/
import Derived.Test.YtmlodfgpedoloaaGreatCj3
namespace Go.Proofs.YtmlodfgpedoloaaGreat
open Go.RowKit Go.Deep
set_option linter.unusedVariables false

/-- What a graph with so many places needs. -/
def flG (n2 : Nat) : Nat := if n2 = 0 then 1 else 2
set_option maxRecDepth 100000 in
set_option maxHeartbeats 16000000 in
/-- sloperef12.Floor of a graph. -/
theorem wFloor_gr (kd : Int) (hk2 : (kd != 2) = true) (hk3 : (kd != 3) = true) (R width m : Nat) (Q : Nat → Bool) (a1 a2 : Option Addr) (n1 c1 n2 c2 : Nat) (st cols : List Int) (w : World) (h1 : SlI w a1 n1 c1 st) (h2 : SlI w a2 n2 c2 cols) (hT : ∀ W, SlI W a1 n1 c1 st → SlI W a2 n2 c2 cols → Calls Tryz.prog 17 #[.int .i64 kd, patV (R : Int) (width : Int) a1 n1 c1 a2 n2 c2] W fun e w' => TgQ W w' e m (m * m) Q) (hb2 : n2 ≤ 17592186044000) :
    Calls Tryz.prog 9 #[.int .i64 kd, patV (R : Int) (width : Int) a1 n1 c1 a2 n2 c2] w fun e w' => FlP m (fun q => q = flG n2) w w' e := by
  obtain ⟨wb, hwb⟩ : ∃ x, w.alloc (.cells #[.int .i64 (R : Int), .int .i64 (width : Int), .slice a1 n1 c1, .slice a2 n2 c2] 25) = x := ⟨_, rfl⟩
  have bb : Below w.heap.size w wb := by rw [← hwb]; exact (Below.refl _ _).alloc (Nat.le_refl _) _
  have hT0 := BoxP.made w #[.int .i64 (R : Int), .int .i64 (width : Int), .slice a1 n1 c1, .slice a2 n2 c2] 25
  rw [hwb] at hT0
  have p0 := (hT0.all 0 _ rfl).1
  have p1 := (hT0.all 1 _ rfl).1
  have p2 := (hT0.all 2 _ rfl).1
  have p3 := (hT0.all 3 _ rfl).1
  have KT := hide (hT wb (h1.below bb) (h2.below bb))
  unfold patV at KT
  have HB := hide bb
  have HT0 := hide hT0
  have HS := hide (And.intro h1 h2)
  obtain ⟨mm, hmm⟩ : ∃ mm, m * m = mm := ⟨_, rfl⟩
  rw [hmm] at KT
  unfold TgQ grV at KT
  clear hT0 bb h1 h2 hT hmm
  unfold patV
  go_enter Tryz.func9, Tryz.ntmps9
  go_wp2_with fail
  refine (unhide KT).mono ?_
  rintro _ w2 ⟨gb, rfl, hRo, b2⟩
  clear p0 p1 p2 p3 KT
  try dsimp only
  repeat ((fail_if_success (with_reducible (show Code.wp _ _ _ _ (World.alloc w2 (Obj.cells #[_, .slice (some ⟨gb, 0, none⟩) mm mm] _))))); (first | go_values | go_skip | go_guarded | go_step | go_upon | go_back))
  have hG := BoxP.made w2 #[.int .i64 (m : Int), .slice (some ⟨gb, 0, none⟩) mm mm] 65
  have bg : Below w2.heap.size w2 (w2.alloc (.cells #[.int .i64 (m : Int), .slice (some ⟨gb, 0, none⟩) mm mm] 65)) := (Below.refl _ _).alloc (Nat.le_refl _) _
  have hb3 := ((unhide HB).trans (b2.mono (unhide HB).size)).trans (bg.mono (Nat.le_trans (unhide HB).size b2.size))
  have hT3 := ((unhide HT0).below b2).below bg
  clear b2 bg hRo
  generalize w2.alloc (.cells #[.int .i64 (m : Int), .slice (some ⟨gb, 0, none⟩) mm mm] 65) = w3 at *
  have s0 := (hG.all 0 _ rfl).1
  have q0 := (hT3.all 0 _ rfl).1
  have q1 := (hT3.all 1 _ rfl).1
  have q2 := (hT3.all 2 _ rfl).1
  have q3 := (hT3.all 3 _ rfl).1
  have HB3 := hide hb3
  have HT3 := hide hT3
  clear hG hb3 hT3
  by_cases hm0 : m = 0
  · have hm0' : ((m : Int) == 0) = true := by simp [hm0]
    have HM0 := hide hm0
    clear hm0
    go_wp2_with fail
    refine bodyPost_ret (by simp [results, Tryz.results9, go_sem]; try rfl) rfl ?_
    exact ⟨unhide HB3, 0, rfl, fun _ => rfl, fun h => by have := unhide HM0; omega⟩
  · have hm0' : ((m : Int) == 0) = false := by simp; omega
    have HM0 := hide hm0
    clear hm0
    by_cases hn0 : n2 = 0
    · have hn0' : ¬ (0 : Int) < (n2 : Int) := by omega
      have HN0 := hide hn0
      clear hn0
      go_wp2_with fail
      refine bodyPost_ret (by simp [results, Tryz.results9, go_sem]; try rfl) rfl ?_
      exact ⟨unhide HB3, 1, rfl, fun h => absurd h (unhide HM0), fun _ => by show 1 = flG n2; unfold flG; rw [if_pos (unhide HN0)]⟩
    · have hn0' : (0 : Int) < (n2 : Int) := by omega
      have HN0 := hide hn0
      clear hn0
      go_wp2_with fail
      refine bodyPost_ret (by simp [results, Tryz.results9, go_sem]; try rfl) rfl ?_
      exact ⟨unhide HB3, 2, rfl, fun h => absurd h (unhide HM0), fun _ => by show 2 = flG n2; unfold flG; rw [if_neg (unhide HN0)]⟩
set_option maxRecDepth 100000 in
set_option maxHeartbeats 16000000 in
/-- sloperef12.Floor of cols. -/
theorem wFloor_cols (R width m : Nat) (Q : Nat → Bool) (a1 a2 : Option Addr) (n1 c1 n2 c2 : Nat) (st cols : List Int) (w : World) (h1 : SlI w a1 n1 c1 st) (h2 : SlI w a2 n2 c2 cols) (hT : ∀ W, SlI W a1 n1 c1 st → SlI W a2 n2 c2 cols → Calls Tryz.prog 17 #[.int .i64 2, patV (R : Int) (width : Int) a1 n1 c1 a2 n2 c2] W fun e w' => TgQ W w' e m (m * m) Q) (hb1 : n1 ≤ 17592186044000) (hb2 : n2 ≤ 17592186044000) (hm : MayP (R : Int) (width : Int) st cols) :
    Calls Tryz.prog 9 #[.int .i64 2, patV (R : Int) (width : Int) a1 n1 c1 a2 n2 c2] w fun e w' => FlP m (fun q => ∃ y, LgT (fun r => cnP (fun c => InC st cols c r) width) R y ∧ q = max 1 y) w w' e := by
  have hR8 : R ≤ 128 ∧ width ≤ 128 := by have := hm.head.fit; omega
  have HM := hide hm
  clear hm
  obtain ⟨wb, hwb⟩ : ∃ x, w.alloc (.cells #[.int .i64 (R : Int), .int .i64 (width : Int), .slice a1 n1 c1, .slice a2 n2 c2] 25) = x := ⟨_, rfl⟩
  have bb : Below w.heap.size w wb := by rw [← hwb]; exact (Below.refl _ _).alloc (Nat.le_refl _) _
  have hT0 := BoxP.made w #[.int .i64 (R : Int), .int .i64 (width : Int), .slice a1 n1 c1, .slice a2 n2 c2] 25
  rw [hwb] at hT0
  have p0 := (hT0.all 0 _ rfl).1
  have p1 := (hT0.all 1 _ rfl).1
  have p2 := (hT0.all 2 _ rfl).1
  have p3 := (hT0.all 3 _ rfl).1
  have KT := hide (hT wb (h1.below bb) (h2.below bb))
  unfold patV at KT
  have HB := hide bb
  have HT0 := hide hT0
  have HS := hide (And.intro h1 h2)
  obtain ⟨mm, hmm⟩ : ∃ mm, m * m = mm := ⟨_, rfl⟩
  rw [hmm] at KT
  unfold TgQ grV at KT
  clear hT0 bb h1 h2 hT hmm
  unfold patV
  go_enter Tryz.func9, Tryz.ntmps9
  go_wp2_with fail
  refine (unhide KT).mono ?_
  rintro _ w2 ⟨gb, rfl, hRo, b2⟩
  clear p0 p1 p2 p3 KT
  try dsimp only
  repeat ((fail_if_success (with_reducible (show Code.wp _ _ _ _ (World.alloc w2 (Obj.cells #[_, .slice (some ⟨gb, 0, none⟩) mm mm] _))))); (first | go_values | go_skip | go_guarded | go_step | go_upon | go_back))
  have hG := BoxP.made w2 #[.int .i64 (m : Int), .slice (some ⟨gb, 0, none⟩) mm mm] 65
  have bg : Below w2.heap.size w2 (w2.alloc (.cells #[.int .i64 (m : Int), .slice (some ⟨gb, 0, none⟩) mm mm] 65)) := (Below.refl _ _).alloc (Nat.le_refl _) _
  have hb3 := ((unhide HB).trans (b2.mono (unhide HB).size)).trans (bg.mono (Nat.le_trans (unhide HB).size b2.size))
  have hT3 := ((unhide HT0).below b2).below bg
  clear b2 bg hRo
  generalize w2.alloc (.cells #[.int .i64 (m : Int), .slice (some ⟨gb, 0, none⟩) mm mm] 65) = w3 at *
  have s0 := (hG.all 0 _ rfl).1
  have q0 := (hT3.all 0 _ rfl).1
  have q1 := (hT3.all 1 _ rfl).1
  have q2 := (hT3.all 2 _ rfl).1
  have q3 := (hT3.all 3 _ rfl).1
  have HB3 := hide hb3
  have HT3 := hide hT3
  clear hG hb3 hT3
  by_cases hm0 : m = 0
  · have hm0' : ((m : Int) == 0) = true := by simp [hm0]
    have HM0 := hide hm0
    clear hm0
    go_wp2_with fail
    refine bodyPost_ret (by simp [results, Tryz.results9, go_sem]; try rfl) rfl ?_
    exact ⟨unhide HB3, 0, rfl, fun _ => rfl, fun h => by have := unhide HM0; omega⟩
  · have hm0' : ((m : Int) == 0) = false := by simp; omega
    have HM0 := hide hm0
    have KO := hide (wopen_any R width a1 a2 n1 c1 n2 c2 st cols w3 ((unhide HS).1.below (unhide HB3)) ((unhide HS).2.below (unhide HB3)) (by omega) (by omega) (unhide HM))
    unfold patV gridV at KO
    obtain ⟨mo, hmo⟩ : ∃ mo, R * width = mo := ⟨_, rfl⟩
    have hmo2 : mo ≤ 16384 := by rw [← hmo]; exact Nat.mul_le_mul hR8.1 hR8.2
    rw [hmo] at KO
    have HMO := hide hmo
    clear hm0 hmo
    go_wp2_with fail
    refine (unhide KO).mono ?_
    rintro _ w4 ⟨ob, rfl, hRo, b4⟩
    clear KO
    try dsimp only
    repeat ((fail_if_success (with_reducible (show Code.wp _ _ _ _ (World.alloc w4 (Obj.cells #[_, _, .slice (some ⟨ob, 0, none⟩) mo mo] _))))); (first | go_values | go_skip | go_guarded | go_step | go_upon | go_back))
    have hO := BoxP.made w4 #[.int .i64 (R : Int), .int .i64 (width : Int), .slice (some ⟨ob, 0, none⟩) mo mo] 70
    have bo : Below w4.heap.size w4 (w4.alloc (.cells #[.int .i64 (R : Int), .int .i64 (width : Int), .slice (some ⟨ob, 0, none⟩) mo mo] 70)) := (Below.refl _ _).alloc (Nat.le_refl _) _
    have b34 := b4.trans (bo.mono b4.size)
    have HT5 := hide ((unhide HT3).below b34)
    have HRo := hide (hRo.below bo)
    have HB5 := hide ((unhide HB3).trans (b34.mono (unhide HB3).size))
    clear b4 bo b34 hRo q0 q1 q2 q3 s0
    generalize w4.alloc (.cells #[.int .i64 (R : Int), .int .i64 (width : Int), .slice (some ⟨ob, 0, none⟩) mo mo] 70) = w5 at *
    have HO := hide hO
    have HAT := hide (show ∀ W, Below w5.heap.size w5 W → ∀ r c, r < R → c < width → Calls Tryz.prog 21 #[.agg #[.int .i64 (R : Int), .int .i64 (width : Int), .slice (some ⟨ob, 0, none⟩) mo mo], .int .i64 (r : Int), .int .i64 (c : Int)] W fun e w' => e = .returned (.bool (tb (Vis R width st cols cols.length (r * width + c)))) ∧ Below W.heap.size W w' from fun W b r c hr hc =>
      wat_any R width ob mo r c _ W hR8.2 (by omega) (by omega) (by rw [← unhide HMO]; exact idx_lt hr hc) hmo2 ((unhide HRo).below b))
    clear hO
    go_wp2_with fail
    go_loopw [10, 9] (fun ov nv wr => ∃ (r q : Nat), r ≤ R ∧ ov = .int .i64 (r : Int) ∧ nv = .int .i64 (q : Int) ∧ q ≤ 129 ∧ Hid (∃ y, LgT (fun r => cnP (fun c => InC st cols c r) width) r y ∧ q = max 1 y) ∧ Hid (Below w5.heap.size w5 wr)) (fun ov _ _ => R - (intOf ov).toNat)
    case atStart => exact ⟨0, 1, Nat.zero_le _, rfl, rfl, by omega, hide ⟨0, ⟨fun i hi => absurd hi (Nat.not_lt_zero _), .inl rfl⟩, by omega⟩, hide (Below.refl _ _)⟩
    case round =>
      obtain ⟨r, q, hr, rfl, rfl, hq9, HLG, HW1⟩ := hrel
      have hT1 := (unhide HT5).below (unhide HW1)
      have t0 := (hT1.all 0 _ rfl).1
      have t1 := (hT1.all 1 _ rfl).1
      by_cases hrn : r < R
      · have hrn' : (r : Int) < (R : Int) := by omega
        clear hT1
        go_wp2_with fail
        go_loopw [12, 11] (fun cv kv wr => ∃ (c k : Nat), c ≤ width ∧ cv = .int .i64 (c : Int) ∧ kv = .int .i64 (k : Int) ∧ Hid (k = cnP (fun c => InC st cols c r) c) ∧ Hid (Below w5.heap.size w5 wr)) (fun cv _ _ => width - (intOf cv).toNat)
        case atStart => exact ⟨0, 0, Nat.zero_le _, rfl, rfl, hide rfl, HW1⟩
        case round =>
          obtain ⟨c, k, hc, rfl, rfl, HKK, HW2⟩ := hrel
          have hkc : k ≤ c := by have := unhide HKK; have := cnP_le (fun c => InC st cols c r) c; omega
          have hT2 := (unhide HT5).below (unhide HW2)
          have u0 := (hT2.all 0 _ rfl).1
          have u1 := (hT2.all 1 _ rfl).1
          clear t0 t1 hT2
          by_cases hcn : c < width
          · have hcn' : (c : Int) < (width : Int) := by omega
            have hO2 := (unhide HO).below (unhide HW2)
            have o0 := (hO2.all 0 _ rfl).1
            have o1 := (hO2.all 1 _ rfl).1
            have o2 := (hO2.all 2 _ rfl).1
            have hvi := vis_in (unhide HM) (r := r) (c := c) (by omega) (by omega)
            obtain ⟨tv, htv⟩ : ∃ tv, tb (Vis R width st cols cols.length (r * width + c)) = tv := ⟨_, rfl⟩
            have KA := hide (unhide HAT wr (unhide HW2) r c (by omega) (by omega))
            rw [htv] at KA hvi
            have HVI := hide hvi
            clear htv hvi hO2
            go_wp2_with fail
            refine (unhide KA).mono ?_
            rintro _ w7 ⟨rfl, b7⟩
            have HW7 := hide ((unhide HW2).trans (b7.mono (unhide HW2).size))
            clear KA b7 o0 o1 o2 u0 u1
            cases tv
            · have HCK := hide (cnP_no (P := fun c => InC st cols c r) (k := c) (fun h => absurd (Iff.mpr (unhide HVI) h) (by decide)))
              go_wp2_with fail
              exact ⟨⟨c + 1, k, by omega, by (first | rfl | go_num), rfl, hide ((unhide HKK).trans (unhide HCK).symm), HW7⟩, by simp [intOf]; omega⟩
            · have HCK := hide (cnP_yes (P := fun c => InC st cols c r) (k := c) (Iff.mp (unhide HVI) rfl))
              go_wp2_with fail
              exact ⟨⟨c + 1, k + 1, by omega, by (first | rfl | go_num), by (first | rfl | go_num), hide (by rw [unhide HCK, ← unhide HKK]), HW7⟩, by simp [intOf]; omega⟩
          · obtain rfl : c = width := by omega
            have hcn' : ¬ (c : Int) < (c : Int) := by omega
            have HNX := hide (show ∃ y, LgT (fun r => cnP (fun c_1 => InC st cols c_1 r) c) (r + 1) y ∧ max q k = max 1 y from by
              obtain ⟨y, hy, e⟩ := unhide HLG
              refine ⟨_, hy.next, ?_⟩
              show max q k = max 1 (max y (cnP (fun cb => InC st cols cb r) c))
              rw [← unhide HKK]
              omega)
            by_cases hgt : q < k
            · have hgt' : (q : Int) < (k : Int) := by omega
              rw [show max q k = k by omega] at HNX
              go_wp2_with fail
              exact ⟨⟨r + 1, k, by omega, by (first | rfl | go_num), rfl, by omega, HNX, HW2⟩, by simp [intOf]; omega⟩
            · have hgt' : ¬ (q : Int) < (k : Int) := by omega
              rw [show max q k = q by omega] at HNX
              go_wp2_with fail
              exact ⟨⟨r + 1, q, by omega, by (first | rfl | go_num), rfl, by omega, HNX, HW2⟩, by simp [intOf]; omega⟩
      · obtain rfl : r = R := by omega
        have hrn' : ¬ (r : Int) < (r : Int) := by omega
        clear hT1
        go_wp2_with fail
        go_loopw [13, 9] (fun ov nv wr => ∃ c : Nat, c ≤ width ∧ ov = .int .i64 (c : Int) ∧ nv = .int .i64 (q : Int) ∧ Hid (Below w5.heap.size w5 wr)) (fun ov _ _ => width - (intOf ov).toNat)
        case atStart => exact ⟨0, Nat.zero_le _, rfl, rfl, HW1⟩
        case round =>
          obtain ⟨c, hc, rfl, rfl, HW3⟩ := hrel
          have hT1 := (unhide HT5).below (unhide HW3)
          have t0 := (hT1.all 0 _ rfl).1
          have t1 := (hT1.all 1 _ rfl).1
          by_cases hcn : c < width
          · have hcn' : (c : Int) < (width : Int) := by omega
            have hnq : ¬ (q : Int) < 0 := by omega
            clear hT1
            go_wp2_with fail
            go_loopw [15, 14] (fun cv kv wr => cv = .int .i64 0 ∧ kv = .int .i64 0 ∧ Hid (Below w5.heap.size w5 wr)) (fun _ _ _ => 0)
            case atStart => exact ⟨rfl, rfl, HW3⟩
            case round =>
              obtain ⟨rfl, rfl, HW4⟩ := hrel
              go_wp2_with fail
              exact ⟨⟨c + 1, by omega, by (first | rfl | go_num), rfl, HW4⟩, by simp [intOf]; omega⟩
          · obtain rfl : c = width := by omega
            have hcn2 : ¬ (c : Int) < (c : Int) := by omega
            clear hT1
            go_wp2_with fail
            refine bodyPost_ret (by simp [results, Tryz.results9, go_sem]; try rfl) rfl ?_
            exact ⟨(unhide HB5).trans ((unhide HW3).mono (unhide HB5).size), q, rfl, fun h => absurd h (unhide HM0), fun _ => unhide HLG⟩
set_option maxRecDepth 100000 in
set_option maxHeartbeats 16000000 in
/-- sloperef12.Floor of rows. -/
theorem wFloor_rows (R width m : Nat) (Q : Nat → Bool) (a1 a2 : Option Addr) (n1 c1 n2 c2 : Nat) (st cols : List Int) (w : World) (h1 : SlI w a1 n1 c1 st) (h2 : SlI w a2 n2 c2 cols) (hT : ∀ W, SlI W a1 n1 c1 st → SlI W a2 n2 c2 cols → Calls Tryz.prog 17 #[.int .i64 3, patV (R : Int) (width : Int) a1 n1 c1 a2 n2 c2] W fun e w' => TgQ W w' e m (m * m) Q) (hb1 : n1 ≤ 17592186044000) (hb2 : n2 ≤ 17592186044000) (hm : MayP (R : Int) (width : Int) st cols) :
    Calls Tryz.prog 9 #[.int .i64 3, patV (R : Int) (width : Int) a1 n1 c1 a2 n2 c2] w fun e w' => FlP m (fun q => ∃ y, LgT (fun c => cnP (fun r => InC st cols c r) R) width y ∧ q = max 1 y) w w' e := by
  have hR8 : R ≤ 128 ∧ width ≤ 128 := by have := hm.head.fit; omega
  have HM := hide hm
  clear hm
  obtain ⟨wb, hwb⟩ : ∃ x, w.alloc (.cells #[.int .i64 (R : Int), .int .i64 (width : Int), .slice a1 n1 c1, .slice a2 n2 c2] 25) = x := ⟨_, rfl⟩
  have bb : Below w.heap.size w wb := by rw [← hwb]; exact (Below.refl _ _).alloc (Nat.le_refl _) _
  have hT0 := BoxP.made w #[.int .i64 (R : Int), .int .i64 (width : Int), .slice a1 n1 c1, .slice a2 n2 c2] 25
  rw [hwb] at hT0
  have p0 := (hT0.all 0 _ rfl).1
  have p1 := (hT0.all 1 _ rfl).1
  have p2 := (hT0.all 2 _ rfl).1
  have p3 := (hT0.all 3 _ rfl).1
  have KT := hide (hT wb (h1.below bb) (h2.below bb))
  unfold patV at KT
  have HB := hide bb
  have HT0 := hide hT0
  have HS := hide (And.intro h1 h2)
  obtain ⟨mm, hmm⟩ : ∃ mm, m * m = mm := ⟨_, rfl⟩
  rw [hmm] at KT
  unfold TgQ grV at KT
  clear hT0 bb h1 h2 hT hmm
  unfold patV
  go_enter Tryz.func9, Tryz.ntmps9
  go_wp2_with fail
  refine (unhide KT).mono ?_
  rintro _ w2 ⟨gb, rfl, hRo, b2⟩
  clear p0 p1 p2 p3 KT
  try dsimp only
  repeat ((fail_if_success (with_reducible (show Code.wp _ _ _ _ (World.alloc w2 (Obj.cells #[_, .slice (some ⟨gb, 0, none⟩) mm mm] _))))); (first | go_values | go_skip | go_guarded | go_step | go_upon | go_back))
  have hG := BoxP.made w2 #[.int .i64 (m : Int), .slice (some ⟨gb, 0, none⟩) mm mm] 65
  have bg : Below w2.heap.size w2 (w2.alloc (.cells #[.int .i64 (m : Int), .slice (some ⟨gb, 0, none⟩) mm mm] 65)) := (Below.refl _ _).alloc (Nat.le_refl _) _
  have hb3 := ((unhide HB).trans (b2.mono (unhide HB).size)).trans (bg.mono (Nat.le_trans (unhide HB).size b2.size))
  have hT3 := ((unhide HT0).below b2).below bg
  clear b2 bg hRo
  generalize w2.alloc (.cells #[.int .i64 (m : Int), .slice (some ⟨gb, 0, none⟩) mm mm] 65) = w3 at *
  have s0 := (hG.all 0 _ rfl).1
  have q0 := (hT3.all 0 _ rfl).1
  have q1 := (hT3.all 1 _ rfl).1
  have q2 := (hT3.all 2 _ rfl).1
  have q3 := (hT3.all 3 _ rfl).1
  have HB3 := hide hb3
  have HT3 := hide hT3
  clear hG hb3 hT3
  by_cases hm0 : m = 0
  · have hm0' : ((m : Int) == 0) = true := by simp [hm0]
    have HM0 := hide hm0
    clear hm0
    go_wp2_with fail
    refine bodyPost_ret (by simp [results, Tryz.results9, go_sem]; try rfl) rfl ?_
    exact ⟨unhide HB3, 0, rfl, fun _ => rfl, fun h => by have := unhide HM0; omega⟩
  · have hm0' : ((m : Int) == 0) = false := by simp; omega
    have HM0 := hide hm0
    have KO := hide (wopen_any R width a1 a2 n1 c1 n2 c2 st cols w3 ((unhide HS).1.below (unhide HB3)) ((unhide HS).2.below (unhide HB3)) (by omega) (by omega) (unhide HM))
    unfold patV gridV at KO
    obtain ⟨mo, hmo⟩ : ∃ mo, R * width = mo := ⟨_, rfl⟩
    have hmo2 : mo ≤ 16384 := by rw [← hmo]; exact Nat.mul_le_mul hR8.1 hR8.2
    rw [hmo] at KO
    have HMO := hide hmo
    clear hm0 hmo
    go_wp2_with fail
    refine (unhide KO).mono ?_
    rintro _ w4 ⟨ob, rfl, hRo, b4⟩
    clear KO
    try dsimp only
    repeat ((fail_if_success (with_reducible (show Code.wp _ _ _ _ (World.alloc w4 (Obj.cells #[_, _, .slice (some ⟨ob, 0, none⟩) mo mo] _))))); (first | go_values | go_skip | go_guarded | go_step | go_upon | go_back))
    have hO := BoxP.made w4 #[.int .i64 (R : Int), .int .i64 (width : Int), .slice (some ⟨ob, 0, none⟩) mo mo] 70
    have bo : Below w4.heap.size w4 (w4.alloc (.cells #[.int .i64 (R : Int), .int .i64 (width : Int), .slice (some ⟨ob, 0, none⟩) mo mo] 70)) := (Below.refl _ _).alloc (Nat.le_refl _) _
    have b34 := b4.trans (bo.mono b4.size)
    have HT5 := hide ((unhide HT3).below b34)
    have HRo := hide (hRo.below bo)
    have HB5 := hide ((unhide HB3).trans (b34.mono (unhide HB3).size))
    clear b4 bo b34 hRo q0 q1 q2 q3 s0
    generalize w4.alloc (.cells #[.int .i64 (R : Int), .int .i64 (width : Int), .slice (some ⟨ob, 0, none⟩) mo mo] 70) = w5 at *
    have HO := hide hO
    have HAT := hide (show ∀ W, Below w5.heap.size w5 W → ∀ r c, r < R → c < width → Calls Tryz.prog 21 #[.agg #[.int .i64 (R : Int), .int .i64 (width : Int), .slice (some ⟨ob, 0, none⟩) mo mo], .int .i64 (r : Int), .int .i64 (c : Int)] W fun e w' => e = .returned (.bool (tb (Vis R width st cols cols.length (r * width + c)))) ∧ Below W.heap.size W w' from fun W b r c hr hc =>
      wat_any R width ob mo r c _ W hR8.2 (by omega) (by omega) (by rw [← unhide HMO]; exact idx_lt hr hc) hmo2 ((unhide HRo).below b))
    clear hO
    go_wp2_with fail
    go_loopw [10, 9] (fun ov nv wr => ∃ c : Nat, c ≤ R ∧ ov = .int .i64 (c : Int) ∧ nv = .int .i64 1 ∧ Hid (Below w5.heap.size w5 wr)) (fun ov _ _ => R - (intOf ov).toNat)
    case atStart => exact ⟨0, Nat.zero_le _, rfl, rfl, hide (Below.refl _ _)⟩
    case round =>
      obtain ⟨c, hc, rfl, rfl, HW3⟩ := hrel
      have hT1 := (unhide HT5).below (unhide HW3)
      have t0 := (hT1.all 0 _ rfl).1
      have t1 := (hT1.all 1 _ rfl).1
      by_cases hcn : c < R
      · have hcn' : (c : Int) < (R : Int) := by omega
        have hnq : ¬ 1 < 0 := by omega
        clear hT1
        go_wp2_with fail
        go_loopw [12, 11] (fun cv kv wr => cv = .int .i64 0 ∧ kv = .int .i64 0 ∧ Hid (Below w5.heap.size w5 wr)) (fun _ _ _ => 0)
        case atStart => exact ⟨rfl, rfl, HW3⟩
        case round =>
          obtain ⟨rfl, rfl, HW4⟩ := hrel
          go_wp2_with fail
          exact ⟨⟨c + 1, by omega, by (first | rfl | go_num), rfl, HW4⟩, by simp [intOf]; omega⟩
      · have hcR : c = R := by omega
        have hcn2 : ¬ (c : Int) < (R : Int) := by omega
        clear hT1
        go_wp2_with fail
        clear t0 t1
        go_loopw [13, 9] (fun ov nv wr => ∃ (r q : Nat), r ≤ width ∧ ov = .int .i64 (r : Int) ∧ nv = .int .i64 (q : Int) ∧ q ≤ 129 ∧ Hid (∃ y, LgT (fun r => cnP (fun c => InC st cols r c) R) r y ∧ q = max 1 y) ∧ Hid (Below w5.heap.size w5 wr)) (fun ov _ _ => width - (intOf ov).toNat)
        case atStart => exact ⟨0, 1, Nat.zero_le _, rfl, rfl, by omega, hide ⟨0, ⟨fun i hi => absurd hi (Nat.not_lt_zero _), .inl rfl⟩, by omega⟩, HW3⟩
        case round =>
          obtain ⟨r, q, hr, rfl, rfl, hq9, HLG, HW1⟩ := hrel
          have hT1 := (unhide HT5).below (unhide HW1)
          have t0 := (hT1.all 0 _ rfl).1
          have t1 := (hT1.all 1 _ rfl).1
          by_cases hrn : r < width
          · have hrn' : (r : Int) < (width : Int) := by omega
            clear hT1
            go_wp2_with fail
            go_loopw [15, 14] (fun cv kv wr => ∃ (c k : Nat), c ≤ R ∧ cv = .int .i64 (c : Int) ∧ kv = .int .i64 (k : Int) ∧ Hid (k = cnP (fun c => InC st cols r c) c) ∧ Hid (Below w5.heap.size w5 wr)) (fun cv _ _ => R - (intOf cv).toNat)
            case atStart => exact ⟨0, 0, Nat.zero_le _, rfl, rfl, hide rfl, HW1⟩
            case round =>
              obtain ⟨c, k, hc, rfl, rfl, HKK, HW2⟩ := hrel
              have hkc : k ≤ c := by have := unhide HKK; have := cnP_le (fun c => InC st cols r c) c; omega
              have hT2 := (unhide HT5).below (unhide HW2)
              have u0 := (hT2.all 0 _ rfl).1
              have u1 := (hT2.all 1 _ rfl).1
              clear t0 t1 hT2
              by_cases hcn : c < R
              · have hcn' : (c : Int) < (R : Int) := by omega
                have hO2 := (unhide HO).below (unhide HW2)
                have o0 := (hO2.all 0 _ rfl).1
                have o1 := (hO2.all 1 _ rfl).1
                have o2 := (hO2.all 2 _ rfl).1
                have hvi := vis_in (unhide HM) (r := c) (c := r) (by omega) (by omega)
                obtain ⟨tv, htv⟩ : ∃ tv, tb (Vis R width st cols cols.length (c * width + r)) = tv := ⟨_, rfl⟩
                have KA := hide (unhide HAT wr (unhide HW2) c r (by omega) (by omega))
                rw [htv] at KA hvi
                have HVI := hide hvi
                clear htv hvi hO2
                go_wp2_with fail
                refine (unhide KA).mono ?_
                rintro _ w7 ⟨rfl, b7⟩
                have HW7 := hide ((unhide HW2).trans (b7.mono (unhide HW2).size))
                clear KA b7 o0 o1 o2 u0 u1
                cases tv
                · have HCK := hide (cnP_no (P := fun c => InC st cols r c) (k := c) (fun h => absurd (Iff.mpr (unhide HVI) h) (by decide)))
                  go_wp2_with fail
                  exact ⟨⟨c + 1, k, by omega, by (first | rfl | go_num), rfl, hide ((unhide HKK).trans (unhide HCK).symm), HW7⟩, by simp [intOf]; omega⟩
                · have HCK := hide (cnP_yes (P := fun c => InC st cols r c) (k := c) (Iff.mp (unhide HVI) rfl))
                  go_wp2_with fail
                  exact ⟨⟨c + 1, k + 1, by omega, by (first | rfl | go_num), by (first | rfl | go_num), hide (by rw [unhide HCK, ← unhide HKK]), HW7⟩, by simp [intOf]; omega⟩
              · obtain rfl : c = R := by omega
                have hcn' : ¬ (c : Int) < (c : Int) := by omega
                have HNX := hide (show ∃ y, LgT (fun r => cnP (fun c_1 => InC st cols r c_1) c) (r + 1) y ∧ max q k = max 1 y from by
                  obtain ⟨y, hy, e⟩ := unhide HLG
                  refine ⟨_, hy.next, ?_⟩
                  show max q k = max 1 (max y (cnP (fun cb => InC st cols r cb) c))
                  rw [← unhide HKK]
                  omega)
                by_cases hgt : q < k
                · have hgt' : (q : Int) < (k : Int) := by omega
                  rw [show max q k = k by omega] at HNX
                  go_wp2_with fail
                  exact ⟨⟨r + 1, k, by omega, by (first | rfl | go_num), rfl, by omega, HNX, HW2⟩, by simp [intOf]; omega⟩
                · have hgt' : ¬ (q : Int) < (k : Int) := by omega
                  rw [show max q k = q by omega] at HNX
                  go_wp2_with fail
                  exact ⟨⟨r + 1, q, by omega, by (first | rfl | go_num), rfl, by omega, HNX, HW2⟩, by simp [intOf]; omega⟩
          · obtain rfl : r = width := by omega
            have hrn' : ¬ (r : Int) < (r : Int) := by omega
            clear hT1
            go_wp2_with fail
            refine bodyPost_ret (by simp [results, Tryz.results9, go_sem]; try rfl) rfl ?_
            exact ⟨(unhide HB5).trans ((unhide HW1).mono (unhide HB5).size), q, rfl, fun h => absurd h (unhide HM0), fun _ => unhide HLG⟩
end Go.Proofs.YtmlodfgpedoloaaGreat
