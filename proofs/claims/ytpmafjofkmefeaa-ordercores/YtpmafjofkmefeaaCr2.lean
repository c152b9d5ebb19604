/-
  ORDERS: sloperef11.full, core: contracts.
-/
import Derived.Test.YtpmafjofkmefeaaCr1
import Derived.Test.YtpmafjofkmefeaaCq5
namespace Go.Proofs.Ytpmafjofkmefeaa
open Go.RowKit Go.Deep
set_option linter.unusedVariables false

set_option maxRecDepth 100000 in
set_option maxHeartbeats 8000000 in
/-- sloperef11.full. -/
theorem wofull_any (R : Nat) (w : World) (hR : R ≤ 128) :
    Calls Try.prog 55 #[.int .i64 (R : Int)] w fun e w' => ∃ g, w.heap.size ≤ g ∧ e = .returned (.slice (some ⟨g, 0, none⟩) R R) ∧ RoV w' g R (fun _ => .bool true) ∧ g < w'.heap.size ∧ Below w.heap.size w w' := by
  have hmk := make_boolsP R (by omega) w
  have hRo := RoV.made w R 4 (.bool false)
  obtain ⟨wm, hwm⟩ : ∃ x, w.alloc (.cells (madeCells #[.bool false] R) 4) = x := ⟨_, rfl⟩
  have bm : Below w.heap.size w wm := by rw [← hwm]; exact (Below.refl _ _).alloc (Nat.le_refl _) _
  have hgl : w.heap.size < wm.heap.size := by rw [← hwm]; simp
  rw [hwm] at hmk hRo
  obtain ⟨g, hg⟩ : ∃ g, w.heap.size = g := ⟨_, rfl⟩
  rw [hg] at hmk hRo
  have HG := hide (And.intro hg (show g < wm.heap.size by omega))
  have HB := hide bm
  have HRo := hide hRo
  clear bm hRo hwm hgl hg
  go_enter Try.func55, Try.ntmps55
  go_wp2_with fail
  go_loopw [4] (fun kv wr => ∃ k : Nat, k ≤ R ∧ kv = .int .i64 (k : Int) ∧ Hid (RoV wr g R (fun u => .bool (decide (u < k)))) ∧ Hid (Chg (fun j => j = g) wm wr)) (fun kv _ => R - (intOf kv).toNat)
  case atStart => exact ⟨0, Nat.zero_le _, rfl, hide ((unhide HRo).congr (fun u hu => by simp)), hide (Chg.refl _ _)⟩
  case round =>
    obtain ⟨k, hk, rfl, HR, HC⟩ := hrel
    clear hmk
    by_cases hlt : k < R
    · have hlt' : (k : Int) < (R : Int) := by omega
      have c0 := (unhide HR k hlt).1
      have c1 := (unhide HR k hlt).2
      have HR2 := hide (show RoV (wr.setCell ⟨g, k, none⟩ (.bool true)) g R (fun u => .bool (decide (u < k + 1))) from ((unhide HR).put k _ hlt).congr (fun u hu => by
        by_cases e : u = k
        · simp [e]
        · rw [if_neg e]
          have : (u < k) ↔ (u < k + 1) := by omega
          simp [this]))
      have HC2 := hide ((unhide HC).trans (Chg.of_set (S := fun j => j = g) wr g k (.bool true) rfl))
      go_wp2_with fail
      exact ⟨⟨k + 1, by omega, by (first | rfl | go_num), HR2, HC2⟩, by simp [intOf]; omega⟩
    · obtain rfl : k = R := by omega
      have hlt' : ¬ (k : Int) < (k : Int) := by omega
      go_wp2_with fail
      try go_ret
      exact ⟨g, by have := (unhide HG).1; omega, rfl, (unhide HR).congr (fun u hu => by simp [hu]), Nat.lt_of_lt_of_le (unhide HG).2 (unhide HC).size, (unhide HB).trans ((unhide HC).below (unhide HB).size (fun j hj e => by have e' : j = g := e; have := (unhide HG).1; omega))⟩
/-- A set in which each has k neighbours. -/
def StB (R : Nat) (st cols : List Int) (k : Nat) (T : Nat → Bool) : Prop := ∀ v, v < R → T v = true → k ≤ amN T (rowL st cols v) (rowL st cols v).length
/-- A set that holds all of these. -/
def MxB (R : Nat) (st cols : List Int) (k : Nat) (lf : Nat → Bool) : Prop := ∀ T, StB R st cols k T → ∀ v, v < R → T v = true → lf v = true
theorem amN_mono {T lf : Nat → Bool} {R : Nat} {st cols : List Int} (hm : MayP (R : Int) (R : Int) st cols) {v : Nat} (hv : v < R) (h : ∀ u, u < R → T u = true → lf u = true) : ∀ i, i ≤ (rowL st cols v).length → amN T (rowL st cols v) i ≤ amN lf (rowL st cols v) i
  | 0, _ => Nat.le_refl _
  | i + 1, hi => by
    obtain ⟨y, e1, hy⟩ := row_atW hm hv (i := i) (by omega)
    have := amN_mono hm hv h i (by omega)
    simp only [amN]
    rw [e1, show ((y : Int)).toNat = y by omega]
    by_cases c : T y = true
    · rw [if_pos c, if_pos (h y hy c)]; omega
    · rw [if_neg c]; omega
theorem MxB.drop {R : Nat} {st cols : List Int} {k : Nat} {lf : Nat → Bool} (h : MxB R st cols k lf) (hm : MayP (R : Int) (R : Int) st cols) {v : Nat} (hv : v < R) (hlt : amN lf (rowL st cols v) (rowL st cols v).length < k) : MxB R st cols k (fun u => if u = v then false else lf u) := by
  intro T hT u hu hTu
  by_cases e : u = v
  · subst e
    have h1 := hT u hu hTu
    have h2 := amN_mono hm hu (fun y hy hy2 => h T hT y hy hy2) _ (Nat.le_refl _)
    omega
  · simp only [e, if_false]
    exact h T hT u hu hTu
/-- How many are in a set. -/
def cnB (lf : Nat → Bool) (R : Nat) : Nat := lfN (fun u => !lf u) (List.range R)
theorem lfN_congr {g h : Nat → Bool} {l : List Nat} (e : ∀ u ∈ l, g u = h u) : lfN g l = lfN h l := by
  unfold lfN
  exact List.countP_congr (fun u hu => by rw [e u hu])
/-- What a pass has done, ahead of v. -/
structure PasP (R : Nat) (st cols : List Int) (k : Nat) (lf0 : Nat → Bool) (v : Nat) (ag : Bool) (lf : Nat → Bool) : Prop where
  mx : MxB R st cols k lf
  no : ag = false → (∀ u, u < R → lf u = lf0 u) ∧ ∀ u, u < v → lf u = true → k ≤ amN lf (rowL st cols u) (rowL st cols u).length
  yes : ag = true → cnB lf R < cnB lf0 R
theorem PasP.le {R : Nat} {st cols : List Int} {k : Nat} {lf0 : Nat → Bool} {v : Nat} {ag : Bool} {lf : Nat → Bool} (h : PasP R st cols k lf0 v ag lf) : cnB lf R ≤ cnB lf0 R := by
  cases ag
  · refine Nat.le_of_eq ?_
    unfold cnB
    exact lfN_congr (fun u hu => by rw [(h.no rfl).1 u (by simpa using hu)])
  · exact Nat.le_of_lt (h.yes rfl)
theorem cnB_drop {lf : Nat → Bool} {R v : Nat} (hv : v < R) (h : lf v = true) : cnB (fun u => if u = v then false else lf u) R + 1 = cnB lf R := by
  unfold cnB
  rw [lfN_upd (fun u => !lf u) v (by simp [h]) _ List.nodup_range, if_pos (by simpa using hv)]
  congr 1
  exact lfN_congr (fun u _ => by by_cases e : u = v <;> simp [e])
/-- The same, out of memory. -/
def cnW (W : World) (g R : Nat) : Nat := lfN (fun u => !(match W.cell? ⟨g, u, none⟩ with | some (.bool b) => b | _ => false)) (List.range R)
theorem cnW_is {W : World} {g R : Nat} {lf : Nat → Bool} (h : RoV W g R (fun u => .bool (lf u))) : cnW W g R = cnB lf R := by
  unfold cnW cnB
  refine lfN_congr (fun u hu => ?_)
  rw [(h u (by simpa using hu)).1]
def boN (v : Value) : Nat := match v with | .bool true => 1 | _ => 0
/-- What core answers. -/
def CrP (R : Nat) (st cols : List Int) (k : Nat) (w w' : World) (e : Ending) : Prop := ∃ g lf, w.heap.size ≤ g ∧ e = .returned (.slice (some ⟨g, 0, none⟩) R R) ∧ RoV w' g R (fun u => .bool (lf u)) ∧ StB R st cols k lf ∧ MxB R st cols k lf ∧ Below w.heap.size w w'
set_option maxRecDepth 100000 in
set_option maxHeartbeats 8000000 in
/-- sloperef11.core. -/
theorem wocore_any (R k : Nat) (a1 a2 : Option Addr) (n1 c1 n2 c2 : Nat) (st cols : List Int) (w : World) (h1 : SlI w a1 n1 c1 st) (h2 : SlI w a2 n2 c2 cols) (hb1 : n1 ≤ 17592186044000) (hb2 : n2 ≤ 17592186044000) (hm : MayP (R : Int) (R : Int) st cols) (hk : k ≤ 128) :
    Calls Try.prog 32 #[patV (R : Int) (R : Int) a1 n1 c1 a2 n2 c2, .int .i64 (k : Int)] w fun e w' => CrP R st cols k w w' e := by
  have hR : R ≤ 128 := by have := hm.head.fit; omega
  obtain ⟨wb, hwb⟩ : ∃ x, w.alloc (.cells #[.int .i64 (R : Int), .int .i64 (R : Int), .slice a1 n1 c1, .slice a2 n2 c2] 24) = x := ⟨_, rfl⟩
  have bb : Below w.heap.size w wb := by rw [← hwb]; exact (Below.refl _ _).alloc (Nat.le_refl _) _
  have hT := BoxP.made w #[.int .i64 (R : Int), .int .i64 (R : Int), .slice a1 n1 c1, .slice a2 n2 c2] 24
  rw [hwb] at hT
  have p0 := (hT.all 0 _ rfl).1
  have KF := hide (wofull_any R wb hR)
  have HB := hide bb
  have HT := hide hT
  have HS := hide (And.intro h1 h2)
  have HM := hide hm
  clear hT bb h1 h2 hm
  unfold patV
  go_enter Try.func32, Try.ntmps32
  go_wp2_with fail
  refine (unhide KF).mono ?_
  rintro _ w2 ⟨g, hg, rfl, hr, hl, b2⟩
  have HG := hide (And.intro (show w.heap.size < g by have := (unhide HT).lt; omega) hl)
  have HR := hide hr
  have hB2 := (unhide HB).trans (b2.mono (unhide HB).size)
  have HT2 := hide ((unhide HT).below b2)
  have HBW := hide (fun (W : World) (c : Chg (fun j => j = g) w2 W) => (show Below w.heap.size w W from hB2.trans (c.below hB2.size (fun j hj e => by have e' : j = g := e; have := (unhide HG).1; omega))))
  clear KF hg hr hl b2 hB2 p0
  go_wp2_with fail
  go_loopw [6] (fun av wr => ∃ (ag : Bool) (lf : Nat → Bool), av = .bool ag ∧ Hid (RoV wr g R (fun u => .bool (lf u))) ∧ Hid (MxB R st cols k lf) ∧ Hid (ag = false → StB R st cols k lf) ∧ Hid (Chg (fun j => j = g) w2 wr)) (fun av wr => 2 * cnW wr g R + boN av)
  case atStart => exact ⟨true, fun _ => true, rfl, HR, hide (fun T _ v _ _ => rfl), hide (fun e => (by cases e)), hide (Chg.refl _ _)⟩
  case round =>
    obtain ⟨ag0, lf0, rfl, HR0, HX0, HN0, HC0⟩ := hrel
    have hcw := cnW_is (unhide HR0)
    have HCW := hide hcw
    clear hcw
    cases ag0
    · go_wp2_with fail
      try go_ret
      exact ⟨g, lf0, by have := (unhide HG).1; omega, rfl, unhide HR0, unhide HN0 (by first | rfl | trivial), unhide HX0, unhide HBW wr (unhide HC0)⟩
    · go_wp2_with fail
      go_loopw [7, 6] (fun vv av wq => ∃ (v : Nat) (ag : Bool) (lf : Nat → Bool), v ≤ R ∧ vv = .int .i64 (v : Int) ∧ av = .bool ag ∧ Hid (RoV wq g R (fun u => .bool (lf u))) ∧ Hid (PasP R st cols k lf0 v ag lf) ∧ Hid (Chg (fun j => j = g) w2 wq)) (fun vv _ _ => R - (intOf vv).toNat)
      case atStart => exact ⟨0, false, lf0, Nat.zero_le _, rfl, rfl, HR0, hide ⟨unhide HX0, fun _ => ⟨fun u _ => rfl, fun u hu => absurd hu (Nat.not_lt_zero u)⟩, fun e => (by cases e)⟩, HC0⟩
      case round =>
        obtain ⟨v, ag, lf, hv, rfl, rfl, HR1, HP1, HC1⟩ := hrel
        have hTr := (unhide HT2).chg (unhide HC1) (show ¬ w.heap.size = g by have := (unhide HG).1; omega)
        have q0 := (hTr.all 0 _ rfl).1
        by_cases hlt : v < R
        · have hlt' : (v : Int) < (R : Int) := by omega
          have q1 := (hTr.all 1 _ rfl).1
          have q2 := (hTr.all 2 _ rfl).1
          have q3 := (hTr.all 3 _ rfl).1
          have m0 := (unhide HR1 v hlt).1
          have m1' := (unhide HR1 v hlt).2
          obtain ⟨t, ht⟩ : ∃ t, lf v = t := ⟨_, rfl⟩
          simp only [ht] at m0
          have HT' := hide ht
          clear hTr ht
          cases t
          · have HP2 := hide (show PasP R st cols k lf0 (v + 1) ag lf from ⟨(unhide HP1).mx, fun e => ⟨((unhide HP1).no e).1, fun u hu hl => by
              by_cases e2 : u = v
              · subst e2; rw [unhide HT'] at hl; cases hl
              · exact ((unhide HP1).no e).2 u (by omega) hl⟩, (unhide HP1).yes⟩)
            go_wp2_with fail
            exact ⟨⟨v + 1, ag, lf, by omega, by (first | rfl | go_num), rfl, HR1, HP2, HC1⟩, by simp [intOf]; omega⟩
          · have hBr := unhide HBW wr (unhide HC1)
            have KA := hide (woamong_any R a1 a2 n1 c1 n2 c2 g lf st cols v wr ((unhide HS).1.below hBr) ((unhide HS).2.below hBr) hb1 hb2 (unhide HM) hlt (unhide HR1))
            unfold patV at KA
            obtain ⟨z, hz⟩ : ∃ z, amN lf (rowL st cols v) (rowL st cols v).length = z := ⟨_, rfl⟩
            rw [hz] at KA
            have HZ := hide hz
            clear hBr hz
            go_wp2_with fail
            refine (unhide KA).mono ?_
            rintro _ w4 ⟨rfl, b4⟩
            have HR4 := hide ((unhide HR1).below b4)
            have HC4 := hide ((unhide HC1).trans (Chg.of_below b4))
            clear KA b4 q0 q1 q2 q3 m0 m1'
            by_cases hd : z < k
            · have hd' : (z : Int) < (k : Int) := by omega
              have m0 := (unhide HR4 v hlt).1
              have m1' := (unhide HR4 v hlt).2
              have HR5 := hide (show RoV (w4.setCell ⟨g, v, none⟩ (.bool false)) g R (fun u => .bool (if u = v then false else lf u)) from ((unhide HR4).put v _ hlt).congr (fun u hu => by by_cases e : u = v <;> simp [e]))
              have HC5 := hide ((unhide HC4).trans (Chg.of_set (S := fun j => j = g) w4 g v (.bool false) rfl))
              have HP2 := hide (show PasP R st cols k lf0 (v + 1) true (fun u => if u = v then false else lf u) from ⟨(unhide HP1).mx.drop (unhide HM) hlt (by rw [unhide HZ]; exact hd), fun e => (by cases e), fun _ => by
                have h1 := cnB_drop hlt (unhide HT')
                have h2 := (unhide HP1).le
                omega⟩)
              clear hd
              go_wp2_with fail
              exact ⟨⟨v + 1, true, _, by omega, by (first | rfl | go_num), rfl, HR5, HP2, HC5⟩, by simp [intOf]; omega⟩
            · have hd' : ¬ (z : Int) < (k : Int) := by omega
              have HP2 := hide (show PasP R st cols k lf0 (v + 1) ag lf from ⟨(unhide HP1).mx, fun e => ⟨((unhide HP1).no e).1, fun u hu hl => by
                by_cases e2 : u = v
                · subst e2; rw [unhide HZ]; omega
                · exact ((unhide HP1).no e).2 u (by omega) hl⟩, (unhide HP1).yes⟩)
              clear hd
              go_wp2_with fail
              exact ⟨⟨v + 1, ag, lf, by omega, by (first | rfl | go_num), rfl, HR4, HP2, HC4⟩, by simp [intOf]; omega⟩
        · obtain rfl : v = R := by omega
          have hlt' : ¬ (v : Int) < (v : Int) := by omega
          have hc2 := cnW_is (unhide HR1)
          have hle := (unhide HP1).le
          have hyes := (unhide HP1).yes
          have HM2 := hide (And.intro hc2 (And.intro hle hyes))
          have HN2 := hide (show ag = false → StB v st cols k lf from fun e u hu hl => ((unhide HP1).no e).2 u hu hl)
          have HX2 := hide (unhide HP1).mx
          clear hTr hc2 hle hyes
          go_wp2_with fail
          refine ⟨⟨ag, lf, rfl, HR1, HX2, HN2, HC1⟩, ?_⟩
          obtain ⟨m1, m2, m3⟩ := unhide HM2
          have m4 := unhide HCW
          simp only [boN]
          rw [m1, m4]
          cases ag
          · show 2 * cnB lf v + 0 < 2 * cnB lf0 v + 1
            omega
          · have := m3 (by first | rfl | trivial)
            show 2 * cnB lf v + 1 < 2 * cnB lf0 v + 1
            omega
end Go.Proofs.Ytpmafjofkmefeaa
