/- Cx7 -/
import Derived.Test.YtgjokididdffhaaGreatCv8
import Derived.Test.YtgjokididdffhaaGreatSp3
namespace Go.Proofs.YtgjokididdffhaaGreat
open Go.RowKit Go.Deep
set_option linter.unusedVariables false
set_option maxRecDepth 100000 in
set_option maxHeartbeats 16000000 in
theorem wforestL_any (N b m : Nat) (Q : Nat → Bool) (ac : Option Addr) (cc : Nat) (xs : List Int) (cs : Nat → Int) (hcs : (fun i => xs.getD i 0) = cs) (c d : Int) (w : World) (hN : N ≤ 128) (hm : N * N = m) (hQ : RoV w b m (fun i => .bool (Q i))) (hc : SlI w ac N cc xs) (ok : Bool) (hok : TruQ ok (FoP (adQ Q N) (fun u => u < N ∧ twB cs c d u = true))) :
    Calls Tryz.prog 91 #[grV N b m, .slice ac N cc, .int .i64 c, .int .i64 d] w fun e w' => e = .returned (.bool ok) ∧ Below w.heap.size w w' := by
  obtain ⟨wb, hwb⟩ : ∃ x, w.alloc (.cells #[.int .i64 (N : Int), .slice (some ⟨b, 0, none⟩) m m] 45) = x := ⟨_, rfl⟩
  have bb : Below w.heap.size w wb := by rw [← hwb]; exact (Below.refl _ _).alloc (Nat.le_refl _) _
  have hT := BoxP.made w #[.int .i64 (N : Int), .slice (some ⟨b, 0, none⟩) m m] 45
  rw [hwb] at hT
  have p0 := (hT.all 0 _ rfl).1
  have hmk := make_boolsP N (by omega) wb
  have hRo := RoV.made wb N 4 (.bool false)
  obtain ⟨wm, hwm⟩ : ∃ x, wb.alloc (.cells (madeCells #[.bool false] N) 4) = x := ⟨_, rfl⟩
  have bm : Below wb.heap.size wb wm := by rw [← hwm]; exact (Below.refl _ _).alloc (Nat.le_refl _) _
  rw [hwm] at hmk hRo
  obtain ⟨g, hg⟩ : ∃ g, wb.heap.size = g := ⟨_, rfl⟩
  rw [hg] at hmk hRo
  have hgw : w.heap.size < g := by rw [← hg, ← hwb]; simp
  have hm2 : m ≤ 16384 := by rw [← hm]; exact Nat.mul_le_mul hN hN
  have hwmB := bb.trans (bm.mono bb.size)
  have HNx := hide (show ∀ W, Chg (fun j => j = g) wm W → BoxP W w.heap.size [.int .i64 (N : Int), .slice (some ⟨b, 0, none⟩) m m] ∧ (0 < m → RoV W b m (fun i => .bool (Q i))) ∧ SlI W ac N cc xs ∧ Below w.heap.size w W from fun W k =>
    ⟨((hT.below bm).chg k (show ¬ w.heap.size = g by omega)), fun h0 => (hQ.below hwmB).chg k (show ¬ b = g from fun e => by have := World.block_lt_of_cell? _ _ (hQ 0 h0).1; have h9 : b < w.heap.size := this; omega), (hc.below hwmB).chg k (fun z hz hne e => by have := hc.block_lt hne z hz; have e9 : z.block = g := e; omega), hwmB.trans (k.below hwmB.size (fun j hj e => by have e' : j = g := e; omega))⟩)
  have HRo := hide hRo
  have HOK := hide hok
  have HCS := hide hcs
  have HMM := hide hm
  clear hT bb bm hQ hc hok hRo hwm hg hwmB hm
  unfold grV
  go_enter Tryz.func91, Tryz.ntmps91
  go_wp2_with fail
  clear hmk p0
  go_loopw [11, 10] (fun vv nv wr => ∃ v : Nat, v ≤ N ∧ vv = .int .i64 (v : Int) ∧ nv = .int .i64 (nuB (twB cs c d) v : Int) ∧ Hid (RoV wr g N (fun u => .bool (decide (u < v) && twB cs c d u))) ∧ Hid (Chg (fun j => j = g) wm wr)) (fun vv _ _ => N - (intOf vv).toNat)
  case atStart => exact ⟨0, Nat.zero_le _, rfl, rfl, hide ((unhide HRo).congr (fun u hu => by simp)), hide (Chg.refl _ _)⟩
  case round =>
    obtain ⟨v, hv, rfl, rfl, HR, HC⟩ := hrel
    have hbx := unhide HNx wr (unhide HC)
    have p0 := (hbx.1.all 0 _ rfl).1
    by_cases hlt : v < N
    · have hlt' : (v : Int) < (N : Int) := by omega
      obtain ⟨bc, oc, ea, hcx⟩ := hbx.2.2.1.at (by omega)
      subst ea
      have s0 : wr.cell? ⟨bc, oc + v, none⟩ = some (.int .i64 (cs v)) := by rw [← unhide HCS]; exact hcx v hlt
      have q0 := (unhide HR v hlt).1
      have q1 := (unhide HR v hlt).2
      obtain ⟨z, hz⟩ : ∃ z, nuB (twB cs c d) v = z := ⟨_, rfl⟩
      have hzl : z ≤ v := by rw [← hz]; exact nuB_le _ _
      have hw1 : IntKind.i64.wrap ((z : Int) + 1) = (z : Int) + 1 := by rw [IntKind.wrap_i64]; omega
      have hput : ∀ t, twB cs c d v = t → RoV (wr.setCell ⟨g, v, none⟩ (.bool t)) g N (fun u => .bool (decide (u < v + 1) && twB cs c d u)) := fun t ht => ((unhide HR).put v _ hlt).congr (fun u hu => by
        by_cases e : u = v
        · rw [if_pos e, e, ht]; simp
        · rw [if_neg e]
          have : (u < v) ↔ (u < v + 1) := by omega
          simp [this])
      have hst : nuB (twB cs c d) (v + 1) = z + (if twB cs c d v = true then 1 else 0) := by simp only [nuB]; rw [hz]
      have HC2 := hide (fun t => (unhide HC).trans (Chg.of_set (S := fun j => j = g) wr g v (.bool t) rfl))
      obtain ⟨y, hy⟩ : ∃ y, cs v = y := ⟨_, rfl⟩
      simp only [hy] at s0
      have htw : twB cs c d v = ((y == c) || (y == d)) := by unfold twB; rw [hy]
      have HP := hide hput
      have HST := hide hst
      have HTW := hide htw
      rw [hz]
      clear hbx hput hst htw hy hz hcx
      by_cases e1 : y = c
      · have d1 : (y == c) = true := by simp [e1]
        have ht : twB cs c d v = true := by rw [unhide HTW, d1]; rfl
        have HP1 := hide (unhide HP true ht)
        have HZ := hide (show nuB (twB cs c d) (v + 1) = z + 1 by rw [unhide HST, if_pos ht])
        have HC3 := hide (unhide HC2 true)
        clear ht e1
        go_wp2_with fail
        exact ⟨⟨v + 1, by omega, by (first | rfl | go_num), by rw [unhide HZ]; simp, HP1, HC3⟩, by simp [intOf]; omega⟩
      · have d1 : (y == c) = false := by simp [e1]
        by_cases e2 : y = d
        · have d2 : (y == d) = true := by simp [e2]
          have ht : twB cs c d v = true := by rw [unhide HTW, d2]; simp
          have HP1 := hide (unhide HP true ht)
          have HZ := hide (show nuB (twB cs c d) (v + 1) = z + 1 by rw [unhide HST, if_pos ht])
          have HC3 := hide (unhide HC2 true)
          clear ht e1 e2
          go_wp2_with fail
          exact ⟨⟨v + 1, by omega, by (first | rfl | go_num), by rw [unhide HZ]; simp, HP1, HC3⟩, by simp [intOf]; omega⟩
        · have d2 : (y == d) = false := by simp [e2]
          have ht : twB cs c d v = false := by rw [unhide HTW, d1, d2]; rfl
          have HP1 := hide (unhide HP false ht)
          have HZ := hide (show nuB (twB cs c d) (v + 1) = z by rw [unhide HST, ht]; simp)
          have HC3 := hide (unhide HC2 false)
          clear ht e1 e2
          go_wp2_with fail
          exact ⟨⟨v + 1, by omega, by (first | rfl | go_num), by rw [unhide HZ], HP1, HC3⟩, by simp [intOf]; omega⟩
    · obtain rfl : v = N := by omega
      have hlt' : ¬ (v : Int) < (v : Int) := by omega
      have HR0 := hide (show RoV wr g v (fun u => .bool (twB cs c d u)) from (unhide HR).congr (fun u hu => by simp [hu]))
      obtain ⟨T0, hT0⟩ : ∃ T0, twB cs c d = T0 := ⟨_, rfl⟩
      rw [hT0] at HR0 HOK ⊢
      clear hbx hT0 HR
      go_wp2_with fail
      clear p0
      go_loopw [12, 10] (fun av nv wr => ∃ (ag : Bool) (lf : Nat → Bool), av = .bool ag ∧ nv = .int .i64 (nuB lf v : Int) ∧ Hid (RoV wr g v (fun u => .bool (lf u))) ∧ Hid (PaQ Q v T0 lf 0 false lf) ∧ Hid (ag = false → PaQ Q v T0 lf v false lf) ∧ Hid (Chg (fun j => j = g) wm wr)) (fun av nv _ => 2 * (intOf nv).toNat + (match av with | .bool true => 1 | _ => 0))
      case atStart => exact ⟨true, T0, rfl, rfl, HR0, hide ⟨fun u _ h => h, fun T hT _ u hu => (hT u hu).2, fun _ => ⟨fun u _ => rfl, fun u hu => absurd hu (Nat.not_lt_zero u)⟩, fun e => (by cases e)⟩, hide (fun e => (by cases e)), HC⟩
      case round =>
        obtain ⟨ag0, lf0, rfl, rfl, HR1, HP0, HN0, HC1⟩ := hrel
        obtain ⟨n0, hn0⟩ : ∃ n0, nuB lf0 v = n0 := ⟨_, rfl⟩
        rw [hn0]
        have HN9 := hide hn0
        clear hn0
        cases ag0
        · have hiff := (unhide HN0 (by first | rfl | trivial)).done
          rw [unhide HN9] at hiff
          have hd : ((n0 : Int) == 0) = ok := by
            have h2 : ok = true ↔ n0 = 0 := (Iff.trans (unhide HOK) hiff.symm)
            cases ok
            · simp; intro e; have := h2.2 (by omega); cases this
            · have := h2.1 rfl; simp [this]
          have HB9 := hide (unhide HNx wr (unhide HC1)).2.2.2
          clear hiff
          go_wp2_with fail
          try go_ret
          exact ⟨by simp_all, unhide HB9⟩
        · go_wp2_with fail
          go_loopw [13, 12, 10] (fun xv av nv wq => ∃ (x : Nat) (ag : Bool) (lf : Nat → Bool), x ≤ v ∧ xv = .int .i64 (x : Int) ∧ av = .bool ag ∧ nv = .int .i64 (nuB lf v : Int) ∧ Hid (RoV wq g v (fun u => .bool (lf u))) ∧ Hid (PaQ Q v T0 lf0 x ag lf) ∧ Hid (Chg (fun j => j = g) wm wq)) (fun xv _ _ _ => v - (intOf xv).toNat)
          case atStart => exact ⟨0, false, lf0, Nat.zero_le _, rfl, rfl, by rw [unhide HN9], HR1, HP0, HC1⟩
          case round =>
            obtain ⟨x, ag, lf, hx, rfl, rfl, rfl, HR2, HP2, HC2⟩ := hrel
            obtain ⟨w5, hw5⟩ : ∃ y, y = wr := ⟨_, rfl⟩
            subst hw5
            have hbx := unhide HNx w5 (unhide HC2)
            have p0 := (hbx.1.all 0 _ rfl).1
            obtain ⟨z, hz⟩ : ∃ z, nuB lf v = z := ⟨_, rfl⟩
            rw [hz]
            have HZ := hide hz
            clear hz
            by_cases hlt2 : x < v
            · have hlt2' : (x : Int) < (v : Int) := by omega
              obtain ⟨t, ht⟩ : ∃ t, lf x = t := ⟨_, rfl⟩
              have m0 := (unhide HR2 x hlt2).1
              have m1 := (unhide HR2 x hlt2).2
              simp only [ht] at m0
              have HTx := hide ht
              clear ht hbx
              cases t
              · have HPk := hide ((unhide HP2).keep (fun e => by rw [unhide HTx] at e; cases e))
                go_wp2_with fail
                go_loopw [15, 14] (fun uv kv wr => uv = .int .i64 0 ∧ kv = .int .i64 0 ∧ Hid (wr = w5)) (fun _ _ _ => 0)
                case atStart => exact ⟨rfl, rfl, hide rfl⟩
                case round =>
                  obtain ⟨rfl, rfl, HW⟩ := hrel
                  have hwr := unhide HW
                  subst hwr
                  go_wp2_with fail
                  exact ⟨⟨x + 1, ag, lf, by omega, by (first | rfl | go_num), rfl, by rw [unhide HZ], HR2, HPk, HC2⟩, by simp [intOf]; omega⟩
              · go_wp2_with fail
                clear p0 m0 m1
                go_loopw [15, 14] (fun uv kv wr => ∃ i : Nat, i ≤ v ∧ uv = .int .i64 (i : Int) ∧ kv = .int .i64 (nuB (fun y => lf y && Q (y * v + x)) i : Int) ∧ Hid (Below w5.heap.size w5 wr)) (fun uv _ _ => v - (intOf uv).toNat)
                case atStart => exact ⟨0, Nat.zero_le _, rfl, rfl, hide (Below.refl _ _)⟩
                case round =>
                  obtain ⟨i, hi, rfl, rfl, HW⟩ := hrel
                  have HC3 := hide ((unhide HC2).trans (Chg.of_below (unhide HW)))
                  have hbx := unhide HNx wr (unhide HC3)
                  have p0 := (hbx.1.all 0 _ rfl).1
                  have p1 := (hbx.1.all 1 _ rfl).1
                  have HR3 := hide ((unhide HR2).below (unhide HW))
                  have m0 := (unhide HR3 x hlt2).1
                  have m1 := (unhide HR3 x hlt2).2
                  simp only [unhide HTx] at m0
                  obtain ⟨k, hk⟩ : ∃ k, nuB (fun y => lf y && Q (y * v + x)) i = k := ⟨_, rfl⟩
                  have hkl : k ≤ i := by rw [← hk]; exact nuB_le _ _
                  have hw1 : IntKind.i64.wrap ((k : Int) + 1) = (k : Int) + 1 := by rw [IntKind.wrap_i64]; omega
                  have hst : nuB (fun y => lf y && Q (y * v + x)) (i + 1) = k + (if (lf i && Q (i * v + x)) = true then 1 else 0) := by simp only [nuB]; rw [hk]
                  rw [hk]
                  have HK := hide hk
                  have HST := hide hst
                  clear hk hst
                  by_cases hin : i < v
                  · have hin' : (i : Int) < (v : Int) := by omega
                    have s0 := (unhide HR3 i hin).1
                    obtain ⟨t, ht⟩ : ∃ t, lf i = t := ⟨_, rfl⟩
                    simp only [ht] at s0
                    have HTi := hide ht
                    have hm0 : i * v + x < m := by
                      have h3 : (i + 1) * v ≤ v * v := Nat.mul_le_mul_right _ hin
                      rw [unhide HMM, Nat.add_mul, Nat.one_mul] at h3
                      omega
                    have KM := hide (wmeet_any v b m i x Q wr hN (by omega) (by omega) hm0 hm2 (hbx.2.1 (by omega)))
                    unfold grV at KM
                    obtain ⟨q, hq⟩ : ∃ q, Q (i * v + x) = q := ⟨_, rfl⟩
                    rw [hq] at KM
                    have HQi := hide hq
                    clear ht hq hbx hm0
                    cases t
                    · have HZ2 := hide (show nuB (fun y => lf y && Q (y * v + x)) (i + 1) = k by rw [unhide HST, unhide HTi]; simp)
                      go_wp2_with fail
                      exact ⟨⟨i + 1, by omega, by (first | rfl | go_num), by rw [unhide HZ2], HW⟩, by simp [intOf]; omega⟩
                    · cases q
                      · have HZ2 := hide (show nuB (fun y => lf y && Q (y * v + x)) (i + 1) = k by rw [unhide HST, unhide HTi, unhide HQi]; simp)
                        go_wp2_with fail
                        refine (unhide KM).mono ?_
                        rintro _ w6 ⟨rfl, b6⟩
                        have HW6 := hide ((unhide HW).trans (b6.mono (unhide HW).size))
                        clear KM b6 p0 p1 m0 m1 s0
                        go_wp2_with fail
                        exact ⟨⟨i + 1, by omega, by (first | rfl | go_num), by rw [unhide HZ2], HW6⟩, by simp [intOf]; omega⟩
                      · have HZ2 := hide (show nuB (fun y => lf y && Q (y * v + x)) (i + 1) = k + 1 by rw [unhide HST, unhide HTi, unhide HQi]; simp)
                        go_wp2_with fail
                        refine (unhide KM).mono ?_
                        rintro _ w6 ⟨rfl, b6⟩
                        have HW6 := hide ((unhide HW).trans (b6.mono (unhide HW).size))
                        clear KM b6 p0 p1 m0 m1 s0
                        go_wp2_with fail
                        exact ⟨⟨i + 1, by omega, by (first | rfl | go_num), by rw [unhide HZ2]; simp, HW6⟩, by simp [intOf]; omega⟩
                  · obtain rfl : i = v := by omega
                    have hin' : ¬ (i : Int) < (i : Int) := by omega
                    clear hbx
                    by_cases hd : k < 2
                    · have hd' : (k : Int) < 2 := by omega
                      have HPd := hide ((unhide HP2).drop hlt2 (unhide HTx) (by rw [unhide HK]; exact hd))
                      have hz1 := nuB_drop (unhide HTx) i hlt2
                      rw [unhide HZ] at hz1
                      have hzl : z ≤ i := by have := nuB_le lf i; rw [unhide HZ] at this; exact this
                      have hw2 : IntKind.i64.wrap ((z : Int) - 1) = (z : Int) - 1 := by rw [IntKind.wrap_i64]; omega
                      have HZ1 := hide hz1
                      have HR5 := hide (show RoV (wr.setCell ⟨g, x, none⟩ (.bool false)) g i (fun u => .bool (if u = x then false else lf u)) from ((unhide HR3).put x _ hlt2).congr (fun u hu => by by_cases e : u = x <;> simp [e]))
                      have HC5 := hide ((unhide HC3).trans (Chg.of_set (S := fun j => j = g) wr g x (.bool false) rfl))
                      clear hd hz1
                      go_wp2_with fail
                      exact ⟨⟨x + 1, true, _, by omega, by (first | rfl | go_num), rfl, by have := unhide HZ1; congr 1; omega, HR5, HPd, HC5⟩, by simp [intOf]; omega⟩
                    · have hd' : ¬ (k : Int) < 2 := by omega
                      have HPk := hide ((unhide HP2).keep (fun _ => by rw [unhide HK]; omega))
                      clear hd
                      go_wp2_with fail
                      exact ⟨⟨x + 1, ag, lf, by omega, by (first | rfl | go_num), rfl, by rw [unhide HZ], HR3, HPk, HC3⟩, by simp [intOf]; omega⟩
            · obtain rfl : x = v := by omega
              have hlt2' : ¬ (x : Int) < (x : Int) := by omega
              have HPn := hide (show PaQ Q x T0 lf 0 false lf from ⟨(unhide HP2).sub, (unhide HP2).mx, fun _ => ⟨fun u _ => rfl, fun u hu => absurd hu (Nat.not_lt_zero u)⟩, fun e => (by cases e)⟩)
              have HPf := hide (show ag = false → PaQ Q x T0 lf x false lf from fun e => ⟨(unhide HP2).sub, (unhide HP2).mx, fun _ => ⟨fun u _ => rfl, ((unhide HP2).no e).2⟩, fun e => (by cases e)⟩)
              have HLE := hide (And.intro (unhide HP2).le (unhide HP2).yes)
              clear hbx
              go_wp2_with fail
              refine ⟨⟨ag, lf, rfl, by rw [unhide HZ], HR2, HPn, HPf, HC2⟩, ?_⟩
              obtain ⟨l1, l2⟩ := unhide HLE
              rw [unhide HZ, unhide HN9] at l1 l2
              cases ag
              · simp [intOf]; omega
              · have := l2 (by first | rfl | trivial)
                simp [intOf]; omega
end Go.Proofs.YtgjokididdffhaaGreat
