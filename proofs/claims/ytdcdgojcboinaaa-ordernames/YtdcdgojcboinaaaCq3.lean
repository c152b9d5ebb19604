/-
  ORDERS: order.backs: contract.
-/
import Derived.Test.YtdcdgojcboinaaaCq1
namespace Go.Proofs.Ytdcdgojcboinaaa
open Go.RowKit Go.Deep
set_option linter.unusedVariables false

/-- How many of the first i things of a list come ahead. -/
def baN (pl : Nat → Int) (l : List Int) (y : Int) : Nat → Nat
  | 0 => 0
  | i + 1 => baN pl l y i + (if pl (l.getD i 0).toNat < y then 1 else 0)
theorem baN_le (pl : Nat → Int) (l : List Int) (y : Int) : ∀ i, baN pl l y i ≤ i
  | 0 => Nat.le_refl _
  | i + 1 => by
    have := baN_le pl l y i
    simp only [baN]
    split <;> omega
theorem row_at {st cols : List Int} {R : Nat} (hm : MayP (R : Int) (R : Int) st cols) {v i : Nat} (hv : v < R) (hi : i < (rowL st cols v).length) : ∃ u : Nat, (rowL st cols v).getD i 0 = (u : Int) ∧ u < R := by
  obtain ⟨X, Y, hR⟩ := hm.rowAt (k := v) (by omega)
  have e : rowL st cols v = (cols.drop X).take (Y - X) := by unfold rowL; rw [hR.hX, hR.hY]; simp
  have hg : (rowL st cols v).getD i 0 = cols.getD (X + i) 0 := by
    rw [e]
    rw [e] at hi
    have : i < Y - X := by rw [List.length_take] at hi; omega
    simp [List.getD, List.getElem?_take_of_lt this, List.getElem?_drop]
  have hr := hR.row.rng (X + i) (by omega) (by rw [e, List.length_take] at hi; have := hR.le; omega)
  exact ⟨(cols.getD (X + i) 0).toNat, by rw [hg]; omega, by omega⟩
/-- The backs, behind k vertices, and of vertex k behind i neighbours. -/
def baV (pl : Nat → Int) (st cols : List Int) (k i v : Nat) : Int := if v < k then (baN pl (rowL st cols v) (pl v) (rowL st cols v).length : Int) else if v = k then (baN pl (rowL st cols v) (pl v) i : Int) else 0
set_option maxRecDepth 100000 in
set_option maxHeartbeats 8000000 in
/-- order.backs. -/
theorem obacks_any (R : Nat) (a1 a2 : Option Addr) (n1 c1 n2 c2 gp : Nat) (pl : Nat → Int) (st cols : List Int) (w : World) (h1 : SlI w a1 n1 c1 st) (h2 : SlI w a2 n2 c2 cols) (hb1 : n1 ≤ 17592186044000) (hb2 : n2 ≤ 17592186044000) (hm : MayP (R : Int) (R : Int) st cols) (hp : RoV w gp R (fun u => .int .i64 (pl u))) :
    Calls Try.prog 22 #[patV (R : Int) (R : Int) a1 n1 c1 a2 n2 c2, .slice (some ⟨gp, 0, none⟩) R R] w fun e w' => ∃ g, w.heap.size ≤ g ∧ e = .returned (.slice (some ⟨g, 0, none⟩) R R) ∧ RoV w' g R (fun v => .int .i64 (baN pl (rowL st cols v) (pl v) (rowL st cols v).length : Int)) ∧ g < w'.heap.size ∧ Below w.heap.size w w' := by
  have hR : R ≤ 128 := by have := hm.head.fit; omega
  obtain ⟨wb, hwb⟩ : ∃ x, w.alloc (.cells #[.int .i64 (R : Int), .int .i64 (R : Int), .slice a1 n1 c1, .slice a2 n2 c2] 24) = x := ⟨_, rfl⟩
  have bb : Below w.heap.size w wb := by rw [← hwb]; exact (Below.refl _ _).alloc (Nat.le_refl _) _
  have hT := BoxP.made w #[.int .i64 (R : Int), .int .i64 (R : Int), .slice a1 n1 c1, .slice a2 n2 c2] 24
  rw [hwb] at hT
  have p0 := (hT.all 0 _ rfl).1
  have hmk := make_intsR R (by omega) wb
  have hRo := RoV.made wb R 3 (.int .i64 0)
  obtain ⟨wm, hwm⟩ : ∃ x, wb.alloc (.cells (madeCells #[.int .i64 0] R) 3) = x := ⟨_, rfl⟩
  have bm : Below wb.heap.size wb wm := by rw [← hwm]; exact (Below.refl _ _).alloc (Nat.le_refl _) _
  have hgl : wb.heap.size < wm.heap.size := by rw [← hwm]; simp
  rw [hwm] at hmk hRo
  have bwm := bb.trans (bm.mono bb.size)
  obtain ⟨g, hg⟩ : ∃ g, wb.heap.size = g := ⟨_, rfl⟩
  have HG := hide (And.intro (show w.heap.size < g by have := hT.lt; omega) (show g < wm.heap.size by omega))
  rw [hg] at hmk hRo
  have HRo := hide hRo
  have HB := hide bwm
  have HT := hide (hT.below bm)
  have HS := hide (And.intro h1 (And.intro h2 hp))
  have HM := hide hm
  have HBW := hide (fun (W : World) (c : Chg (fun j => j = g) wm W) => (show Below w.heap.size w W from bwm.trans (c.below bwm.size (fun j hj e => by have e' : j = g := e; have := (unhide HG).1; omega))))
  clear hT bb bm hRo hwm hgl h1 h2 hm hp bwm
  unfold patV
  go_enter Try.func22, Try.ntmps22
  go_wp2_with fail
  go_loopw [14, 6] (fun kv _ wr => ∃ k : Nat, k ≤ R ∧ kv = .int .i64 (k : Int) ∧ Hid (RoV wr g R (fun v => .int .i64 (baV pl st cols k 0 v))) ∧ Hid (Chg (fun j => j = g) wm wr)) (fun kv _ _ => R - (intOf kv).toNat)
  case atStart => exact ⟨0, Nat.zero_le _, rfl, hide ((unhide HRo).congr (fun v hv => by unfold baV; rw [if_neg (by omega)]; split <;> rfl)), hide (Chg.refl _ _)⟩
  case round =>
    obtain ⟨k, hk, rfl, HR, HC⟩ := hrel
    by_cases hlt : k < R
    · have hlt' : (k : Int) < (R : Int) := by omega
      have hTr := (unhide HT).chg (unhide HC) (show ¬ w.heap.size = g by have := (unhide HG).1; omega)
      have q0 := (hTr.all 0 _ rfl).1
      have q1 := (hTr.all 1 _ rfl).1
      have q2 := (hTr.all 2 _ rfl).1
      have q3 := (hTr.all 3 _ rfl).1
      have hBr := unhide HBW wr (unhide HC)
      have KN := hide (oneigh_list R (R : Int) a1 a2 n1 c1 n2 c2 st cols k wr ((unhide HS).1.below hBr) ((unhide HS).2.1.below hBr) hb1 hb2 (unhide HM) hlt)
      unfold patV at KN
      clear hmk hTr p0 hBr
      go_wp2_with fail
      refine (unhide KN).mono ?_
      rintro _ w4 ⟨aN, cN, rfl, hsN, hlN, hbN, b4⟩
      obtain ⟨m, hm⟩ : ∃ m, (rowL st cols k).length = m := ⟨_, rfl⟩
      rw [hm] at hsN hlN ⊢
      have HMM := hide hm
      have HR4 := hide ((unhide HR).below b4)
      have HC4 := hide ((unhide HC).trans (Chg.of_below b4))
      have HSN := hide (fun (W : World) (c : Chg (fun j => j = g) wm W) => (show SlI W aN m cN (rowL st cols k) from by
        have hB4 := unhide HBW w4 (unhide HC4)
        have hBW := unhide HBW W c
        refine ⟨hsN.len, hsN.le, hsN.cap, ?_⟩
        rcases hsN.cells with e | ⟨b, off, e, hc⟩
        · exact .inl e
        · by_cases hx : rowL st cols k = []
          · exact .inl hx
          · obtain ⟨z, hz, hzb⟩ := hbN _ e hx
            have hl : b < w.heap.size := by
              have := (unhide HS).2.1.block_lt (fun e2 => hx (by unfold rowL; rw [e2]; simp)) z hz
              rw [hzb] at this
              exact this
            exact .inr ⟨b, off, e, fun i hi => by rw [hBW.cell (p := ⟨b, off + i, none⟩) hl, ← hB4.cell (p := ⟨b, off + i, none⟩) hl]; exact hc i hi⟩))
      clear KN hsN hbN b4 hm HR HC q0 q1 q2 q3
      go_wp2_with fail
      go_loopw [21, 8] (fun iv _ wr => ∃ i : Nat, i ≤ m ∧ iv = .int .i64 (i : Int) ∧ Hid (RoV wr g R (fun v => .int .i64 (baV pl st cols k i v))) ∧ Hid (Chg (fun j => j = g) wm wr)) (fun iv _ _ => m - (intOf iv).toNat)
      case atStart => exact ⟨0, Nat.zero_le _, rfl, HR4, HC4⟩
      case round =>
        obtain ⟨i, hi, rfl, HR, HC⟩ := hrel
        by_cases hin : i < m
        · have hin' : (i : Int) < (m : Int) := by omega
          obtain ⟨u, hu1, hu2⟩ := row_at (unhide HM) hlt (i := i) (by rw [unhide HMM]; exact hin)
          obtain ⟨bN, oN, rfl, hcN⟩ := (unhide HSN wr (unhide HC)).at (by omega)
          have sc := hcN i hin
          rw [hu1] at sc
          have hp := (unhide HS).2.2.below (unhide HBW wr (unhide HC))
          have su := (hp u hu2).1
          have sk := (hp k hlt).1
          have hu2' : (u : Int) < (R : Int) := by omega
          obtain ⟨xu, hxu⟩ : ∃ x, pl u = x := ⟨_, rfl⟩
          obtain ⟨xk, hxk⟩ : ∃ x, pl k = x := ⟨_, rfl⟩
          simp only [hxu] at su
          simp only [hxk] at sk
          have hst : baN pl (rowL st cols k) (pl k) (i + 1) = baN pl (rowL st cols k) (pl k) i + (if xu < xk then 1 else 0) := by
            simp only [baN]
            rw [hu1, show ((u : Int)).toNat = u by omega, hxu, hxk]
          have HST := hide hst
          have HXK := hide hxk
          clear hcN hu1 hp hxu hxk hst
          by_cases hd : xu < xk
          · have cg := (unhide HR k hlt).1
            have fg := (unhide HR k hlt).2
            obtain ⟨z, hz⟩ : ∃ z : Nat, baN pl (rowL st cols k) (pl k) i = z := ⟨_, rfl⟩
            have hzl : z ≤ m := by have := baN_le pl (rowL st cols k) (pl k) i; omega
            simp only [baV, if_neg (Nat.lt_irrefl k), if_true, hz] at cg
            have HZ := hide hz
            have d1 : decide (xu < xk) = true := decide_eq_true hd
            have hw1 : IntKind.i64.wrap ((z : Int) + 1) = ((z + 1 : Nat) : Int) := by rw [IntKind.wrap_i64]; omega
            clear hd hz
            go_wp2_with fail
            go_quiet (fail)
            have HR2 := hide ((unhide HR).below (bel_drewN (Below.refl _ _) nq))
            have HC2 := hide ((unhide HC).trans (Chg.of_drewN wr nq))
            clear sc su sk
            generalize wr.drewN nq = wq at *
            have cg := (unhide HR2 k hlt).1
            have fg := (unhide HR2 k hlt).2
            simp only [baV, if_neg (Nat.lt_irrefl k), if_true, unhide HZ] at cg
            have HR3 := hide (show RoV (wq.setCell ⟨g, k, none⟩ (.int .i64 ((z : Int) + 1))) g R (fun v => .int .i64 (baV pl st cols k (i + 1) v)) from ((unhide HR2).put k _ hlt).congr (fun v hv => by
              by_cases e : v = k
              · subst e
                rw [if_pos rfl]
                simp only [baV, if_neg (Nat.lt_irrefl v), if_true]
                have h9 := unhide HST
                rw [unhide HZ, if_pos (of_decide_eq_true d1)] at h9
                rw [h9]
                congr 1
              · simp only [baV, e, if_false]))
            have HC3 := hide ((unhide HC2).trans (Chg.of_set (S := fun j => j = g) wq g k (.int .i64 ((z : Int) + 1)) rfl))
            go_wp2_with fail
            exact ⟨⟨i + 1, by omega, by (first | rfl | go_num), HR3, HC3⟩, by simp [intOf]; omega⟩
          · have d1 : decide (xu < xk) = false := decide_eq_false hd
            have HR2 := hide ((unhide HR).congr (g := fun v => .int .i64 (baV pl st cols k (i + 1) v)) (fun v hv => by
              by_cases e : v = k
              · subst e
                simp only [baV, if_neg (Nat.lt_irrefl v), if_true]
                have h9 := unhide HST
                rw [if_neg hd] at h9
                rw [h9]
                rfl
              · simp only [baV, e, if_false]))
            clear hd
            go_wp2_with fail
            go_quiet (fail)
            go_wp2_with fail
            exact ⟨⟨i + 1, by omega, by (first | rfl | go_num), hide ((unhide HR2).below (bel_drewN (Below.refl _ _) nq)), hide ((unhide HC).trans (Chg.of_drewN wr nq))⟩, by simp [intOf]; omega⟩
        · obtain rfl : i = m := by omega
          have hin' : ¬ (i : Int) < (i : Int) := by omega
          have HR2 := hide ((unhide HR).congr (g := fun v => .int .i64 (baV pl st cols (k + 1) 0 v)) (fun v hv => by
            simp only [baV]
            by_cases e : v < k
            · rw [if_pos e, if_pos (by omega)]
            · rw [if_neg e]
              by_cases e2 : v = k
              · subst e2
                rw [if_pos rfl, if_pos (by omega), unhide HMM]
              · rw [if_neg e2, if_neg (by omega)]
                by_cases e3 : v = k + 1
                · rw [if_pos e3]; rfl
                · rw [if_neg e3]))
          go_wp2_with fail
          exact ⟨⟨k + 1, by omega, by (first | rfl | go_num), HR2, HC⟩, by simp [intOf]; omega⟩
    · obtain rfl : k = R := by omega
      have hlt' : ¬ (k : Int) < (k : Int) := by omega
      clear hmk
      go_wp2_with fail
      try go_ret
      exact ⟨g, by have := (unhide HG).1; omega, rfl, (unhide HR).congr (fun v hv => by simp only [baV]; rw [if_pos hv]), Nat.lt_of_lt_of_le (unhide HG).2 (unhide HC).size, unhide HBW wr (unhide HC)⟩
end Go.Proofs.Ytdcdgojcboinaaa
