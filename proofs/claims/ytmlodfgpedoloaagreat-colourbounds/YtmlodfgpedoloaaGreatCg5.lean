/-
  GRAPHS: colour.pairs.meet: contract.
-/
import Derived.Test.YtmlodfgpedoloaaGreatCg2
namespace Go.Proofs.YtmlodfgpedoloaaGreat
open Go.RowKit Go.Deep
set_option linter.unusedVariables false

/-- The pairs of a list's things, the first i whole, of the next one the first j. -/
def MeP (xs : List Int) (i j : Nat) (x : Nat) : Prop := ∃ p q : Nat, (p < i ∧ q < xs.length ∨ p = i ∧ q < j) ∧ xs.getD p 0 * 128 + xs.getD q 0 = (x : Int)
theorem MeP.step {xs : List Int} {i j : Nat} {c : Nat} (hj : j < xs.length) (hc : xs.getD i 0 * 128 + xs.getD j 0 = (c : Int)) (x : Nat) : MeP xs i (j + 1) x ↔ (MeP xs i j x ∨ x = c) := by
  constructor
  · rintro ⟨p, q, h, e⟩
    rcases h with h | ⟨h1, h2⟩
    · exact .inl ⟨p, q, .inl h, e⟩
    · by_cases e2 : q = j
      · subst h1 e2
        right
        omega
      · exact .inl ⟨p, q, .inr ⟨h1, by omega⟩, e⟩
  · rintro (⟨p, q, h, e⟩ | e)
    · rcases h with h | ⟨h1, h2⟩
      · exact ⟨p, q, .inl h, e⟩
      · exact ⟨p, q, .inr ⟨h1, by omega⟩, e⟩
    · exact ⟨i, j, .inr ⟨rfl, by omega⟩, by rw [e]; exact hc⟩
theorem MeP.next {xs : List Int} {i x : Nat} : MeP xs (i + 1) 0 x ↔ MeP xs i xs.length x := by
  constructor
  · rintro ⟨p, q, h, e⟩
    rcases h with ⟨h1, h2⟩ | ⟨h1, h2⟩
    · by_cases e2 : p = i
      · exact ⟨p, q, .inr ⟨e2, h2⟩, e⟩
      · exact ⟨p, q, .inl ⟨by omega, h2⟩, e⟩
    · omega
  · rintro ⟨p, q, h, e⟩
    rcases h with ⟨h1, h2⟩ | ⟨h1, h2⟩
    · exact ⟨p, q, .inl ⟨by omega, h2⟩, e⟩
    · exact ⟨p, q, .inl ⟨by omega, h2⟩, e⟩
/-- The truths of pairs, as they lie. -/
structure PrS (w W : World) (b : Nat) (P : Nat → Prop) : Prop where
  row : RoV W b 16384 (fun x => .bool (tb (P x)))
  chg : Chg (fun j => j = b) w W
theorem PrS.put {w W : World} {b : Nat} {P R : Nat → Prop} (h : PrS w W b P) (x : Nat) (hx : x < 16384) (e : ∀ y, R y ↔ (P y ∨ y = x)) : PrS w (W.setCell ⟨b, x, none⟩ (.bool true)) b R := by
  refine ⟨(h.row.put x (.bool true) hx).congr (fun i hi => ?_), h.chg.trans (Chg.of_set _ _ _ _ rfl)⟩
  by_cases c : i = x
  · simp only [c, if_true]
    rw [tb_yes ((e x).2 (.inr rfl))]
  · simp only [c, if_false]
    rw [tb_congr (show P i ↔ R i from ⟨fun p => (e i).2 (.inl p), fun q => ((e i).1 q).resolve_right c⟩)]
theorem PrS.congr {w W : World} {b : Nat} {P R : Nat → Prop} (h : PrS w W b P) (e : ∀ x, P x ↔ R x) : PrS w W b R := ⟨h.row.congr (fun i hi => by rw [tb_congr (e i)]), h.chg⟩
theorem PrS.drew {w W : World} {b : Nat} {P : Nat → Prop} (h : PrS w W b P) : PrS w W.drew b P := ⟨h.row.chg (S := fun _ => False) (Chg.of_drew _) (fun x => x), h.chg.trans (Chg.of_drew _)⟩
set_option maxRecDepth 100000 in
set_option maxHeartbeats 16000000 in
/-- colour.pairs.meet. -/
theorem pmeet_any (b : Nat) (a : Option Addr) (n c : Nat) (xs : List Int) (P : Nat → Prop) (w : World) (h : SlI w a n c xs) (hn : n ≤ 17592186044416) (hx : ∀ i, i < n → 0 ≤ xs.getD i 0 ∧ xs.getD i 0 < 128) (hna : ∀ z, a = some z → xs ≠ [] → z.block ≠ b) (hS : RoV w b 16384 (fun x => .bool (tb (P x)))) :
    Calls Tryz.prog 104 #[.pointer (some ⟨b, 0, none⟩), .slice a n c] w fun e w' => (∃ v, e = .returned v) ∧ PrS w w' b (fun x => P x ∨ MeP xs n 0 x) := by
  have HL := hide h.len
  have HSl := hide (show ∀ W, Chg (fun j => j = b) w W → SlI W a n c xs from fun W k => h.chg k (fun z hz hne e => hna z hz hne e))
  have HX := hide hx
  have HS0 := hide hS
  clear h hx hna hS
  go_enter Tryz.func104, Tryz.ntmps104
  go_wp2_with fail
  go_loopw [10, 5] (fun kv _ wr => ∃ k : Nat, k ≤ n ∧ kv = .int .i64 (k : Int) ∧ Hid (PrS w wr b (fun x => P x ∨ MeP xs k 0 x))) (fun kv _ _ => n - (intOf kv).toNat)
  case atStart =>
    refine ⟨0, Nat.zero_le _, rfl, hide ⟨(unhide HS0).congr (fun i hi => ?_), Chg.refl _ _⟩⟩
    rw [tb_congr (show P i ↔ (P i ∨ MeP xs 0 0 i) from ⟨.inl, fun z => z.elim id (fun ⟨p, q, h, _⟩ => by omega)⟩)]
  case round =>
    obtain ⟨k, hk, rfl, HK⟩ := hrel
    by_cases hlt : k < n
    · have hlt' : (k : Int) < (n : Int) := by omega
      obtain ⟨bb, off, rfl, hc⟩ := (unhide HSl wr (unhide HK).chg).at (by omega)
      have sk := hc k hlt
      have hx1 := unhide HX k hlt
      obtain ⟨U, hU⟩ : ∃ U : Nat, xs.getD k 0 = (U : Int) := ⟨(xs.getD k 0).toNat, by omega⟩
      rw [hU] at sk hx1
      have HU := hide hU
      have hU8 : (U : Int) < 128 := hx1.2
      clear hc hU hx1
      go_wp2_with fail
      go_loopw [16, 7] (fun iv _ wq => ∃ v : Nat, v ≤ n ∧ iv = .int .i64 (v : Int) ∧ Hid (PrS w wq b (fun x => P x ∨ MeP xs k v x))) (fun iv _ _ => n - (intOf iv).toNat)
      case atStart => exact ⟨0, Nat.zero_le _, rfl, HK⟩
      case round =>
        clear sk
        obtain ⟨v, hv, rfl, HV⟩ := hrel
        by_cases hin : v < n
        · have hin' : (v : Int) < (n : Int) := by omega
          obtain ⟨bb', off', e1, hc⟩ := (unhide HSl wr (unhide HV).chg).at (by omega)
          cases e1
          have sv := hc v hin
          have hx2 := unhide HX v hin
          obtain ⟨V, hVV⟩ : ∃ V : Nat, xs.getD v 0 = (V : Int) := ⟨(xs.getD v 0).toNat, by omega⟩
          rw [hVV] at sv hx2
          have hV8 : (V : Int) < 128 := hx2.2
          have hcell := (unhide HV).row (U * 128 + V) (by omega)
          have hc1 := hcell.1
          have hc2 := hcell.2
          have HN := hide (((unhide HV).put (R := fun x => P x ∨ MeP xs k (v + 1) x) (U * 128 + V) (by omega) (fun y => by
            have h9 := MeP.step (xs := xs) (i := k) (j := v) (c := U * 128 + V) (by rw [unhide HL]; exact hin) (by rw [unhide HU, hVV]; omega) y
            constructor
            · rintro (z | z)
              · exact .inl (.inl z)
              · rcases h9.1 z with z | z
                · exact .inl (.inr z)
                · exact .inr z
            · rintro ((z | z) | z)
              · exact .inl z
              · exact .inr (h9.2 (.inl z))
              · exact .inr (h9.2 (.inr z)))))
          clear hc hcell hVV hx2
          go_wp2_with fail
          try go_region
          all_goals (try go_wp2_with fail)
          all_goals exact ⟨⟨v + 1, by omega, by (first | rfl | go_num), hide (by first | exact unhide HN | exact (unhide HN).drew)⟩, by simp [intOf]; omega⟩
        · obtain rfl : v = n := by omega
          have hin' : ¬ (v : Int) < (v : Int) := by omega
          go_wp2_with fail
          refine ⟨⟨k + 1, by omega, by (first | rfl | go_num), hide ((unhide HV).congr (fun x => ?_))⟩, by simp [intOf]; omega⟩
          rw [MeP.next, unhide HL]
    · obtain rfl : k = n := by omega
      have hlt' : ¬ (k : Int) < (k : Int) := by omega
      go_wp2_with fail
      go_end0
      exact ⟨⟨_, rfl⟩, unhide HK⟩
end Go.Proofs.YtmlodfgpedoloaaGreat

namespace Go.Proofs.YtmlodfgpedoloaaGreat
open Go.RowKit Go.Deep
set_option linter.unusedVariables false

/-- A part of a list, as a value. -/
def subV (a : Option Addr) (c X Y : Nat) : Value := .slice (if c = X then a else Option.map (fun x => x.add X) a) (Y - X) (c - X)
set_option maxRecDepth 100000 in
set_option maxHeartbeats 16000000 in
/-- colour.row. -/
theorem crow_any (R : Nat) (width : Int) (a1 a2 : Option Addr) (n1 c1 n2 c2 : Nat) (st cols : List Int) (r X Y : Nat) (w : World) (h1 : SlI w a1 n1 c1 st) (h2 : SlI w a2 n2 c2 cols) (hb1 : n1 ≤ 17592186044416) (hb2 : n2 ≤ 17592186044416) (hm : MayP (R : Int) width st cols) (hr : r < R) (hR : RowAt st cols width r X Y) :
    Calls Tryz.prog 72 #[patV (R : Int) width a1 n1 c1 a2 n2 c2, .int .i64 (r : Int)] w fun e w' => e = .returned (subV a2 c2 X Y) ∧ Below w.heap.size w w' := by
  obtain ⟨wb, hwb⟩ : ∃ x, w.alloc (.cells #[.int .i64 (R : Int), .int .i64 width, .slice a1 n1 c1, .slice a2 n2 c2] 25) = x := ⟨_, rfl⟩
  have bb : Below w.heap.size w wb := by rw [← hwb]; exact (Below.refl _ _).alloc (Nat.le_refl _) _
  have hT := BoxP.made w #[.int .i64 (R : Int), .int .i64 width, .slice a1 n1 c1, .slice a2 n2 c2] 25
  rw [hwb] at hT
  have p0 := (hT.all 0 _ rfl).1
  have p1 := (hT.all 1 _ rfl).1
  have p2 := (hT.all 2 _ rfl).1
  have p3 := (hT.all 3 _ rfl).1
  have hln := h1.len
  have hlc := h2.len
  have hl2 := hm.head.len
  have hnc := h2.le
  have hfit := hm.head.fit
  obtain ⟨b1, o1, rfl, hc1⟩ := (h1.below bb).at (by omega)
  have sk := hc1 r (by omega)
  have sk1 := hc1 (r + 1) (by omega)
  rw [hR.hX] at sk
  rw [hR.hY] at sk1
  have hXY := hR.le
  have hYn := hR.lt
  have hn1 : n1 = R + 1 := by omega
  subst hn1
  have tr : (r : Int) < (R : Int) + 1 := by omega
  have tr1 : (r : Int) + 1 < (R : Int) + 1 := by omega
  have tXY : (X:Int) ≤ (Y:Int) := by omega
  have tYc : (Y:Int) ≤ (c2:Int) := by omega
  have hr8 : r < 128 := by omega
  have HB := hide bb
  clear hT bb hc1 hm hR h1 h2 hln hlc hl2 hfit
  unfold patV
  go_enter Tryz.func72, Tryz.ntmps72
  go_wp2_with fail
  try go_quiet (fail)
  all_goals (try go_wp2_with fail)
  all_goals (try go_ret)
  all_goals exact ⟨by simp_all [subV], by first | exact unhide HB | exact bel_drewN (unhide HB) _⟩
end Go.Proofs.YtmlodfgpedoloaaGreat

namespace Go.Proofs.YtmlodfgpedoloaaGreat
open Go.RowKit Go.Deep
set_option linter.unusedVariables false

theorem Tryz.info_listI : (Tryz.prog.info? 23).map (fun i => (i.zero, i.size, i.bytes)) = some (some (.slice none 0 0), 1, 24) := by kernel_rfl
theorem make_listsI (n : Nat) (hn : n ≤ 1000000000) (w : World) : (Instr.makeSlice 28 (.int .i64 (n : Int)) (.int .i64 (n : Int))).run Tryz.prog w = .ok (.slice (some ⟨w.heap.size, 0, none⟩) n n) (w.alloc (.cells (madeCells #[.slice none 0 0] n) 23)) :=
  run_make_row' (P := Tryz.prog) 28 23 (.slice none 0 0) 24 Tryz.underlying28 Tryz.info_listI rfl .i64 .i64 n (by omega) (by omega) w
/-- A row of a pattern, as a value. -/
def rowV (st : List Int) (a2 : Option Addr) (c2 : Nat) (i : Nat) : Value := subV a2 c2 (st.getD i 0).toNat (st.getD (i + 1) 0).toNat
set_option maxRecDepth 100000 in
set_option maxHeartbeats 16000000 in
/-- colour.rowsOf. -/
theorem crows_any (R : Nat) (width : Int) (a1 a2 : Option Addr) (n1 c1 n2 c2 : Nat) (st cols : List Int) (w : World) (h1 : SlI w a1 n1 c1 st) (h2 : SlI w a2 n2 c2 cols) (hb1 : n1 ≤ 17592186044416) (hb2 : n2 ≤ 17592186044416) (hm : MayP (R : Int) width st cols) :
    Calls Tryz.prog 85 #[patV (R : Int) width a1 n1 c1 a2 n2 c2] w fun e w' => ∃ b, w.heap.size ≤ b ∧ e = .returned (.slice (some ⟨b, 0, none⟩) R R) ∧ RoV w' b R (rowV st a2 c2) ∧ Below w.heap.size w w' := by
  obtain ⟨wb, hwb⟩ : ∃ x, w.alloc (.cells #[.int .i64 (R : Int), .int .i64 width, .slice a1 n1 c1, .slice a2 n2 c2] 25) = x := ⟨_, rfl⟩
  have bb : Below w.heap.size w wb := by rw [← hwb]; exact (Below.refl _ _).alloc (Nat.le_refl _) _
  have hT := BoxP.made w #[.int .i64 (R : Int), .int .i64 width, .slice a1 n1 c1, .slice a2 n2 c2] 25
  rw [hwb] at hT
  have p0 := (hT.all 0 _ rfl).1
  have hfit := hm.head.fit
  have hR8 : R ≤ 128 := by omega
  have hmk := make_listsI R (by omega) wb
  have hR := RoV.made wb R 23 (.slice none 0 0)
  obtain ⟨wm, hwm⟩ : ∃ x, wb.alloc (.cells (madeCells #[.slice none 0 0] R) 23) = x := ⟨_, rfl⟩
  have bm : Below wb.heap.size wb wm := by rw [← hwm]; exact (Below.refl _ _).alloc (Nat.le_refl _) _
  rw [hwm] at hR hmk
  have hbl : wb.heap.size < wm.heap.size := by rw [← hwm]; simp
  have hwl : w.heap.size < wb.heap.size := hT.lt
  have HT := hide (hT.below bm)
  have HR := hide hR
  have HB := hide (bb.trans (bm.mono bb.size))
  have HS := hide (And.intro h1 h2)
  have HM := hide hm
  have HL := hide (And.intro hbl hwl)
  clear hT bb bm hR hm h1 h2 hfit hbl hwl
  unfold patV
  go_enter Tryz.func85, Tryz.ntmps85
  go_wp2_with fail
  go_loopw [10, 4] (fun kv _ wr => ∃ k : Nat, k ≤ R ∧ kv = .int .i64 (k : Int) ∧ Hid (RoV wr wb.heap.size R (fun i => if i < k then rowV st a2 c2 i else .slice none 0 0)) ∧ Hid (BoxP wr w.heap.size [.int .i64 (R : Int), .int .i64 width, .slice a1 n1 c1, .slice a2 n2 c2]) ∧ Hid (Below w.heap.size w wr)) (fun kv _ _ => R - (intOf kv).toNat)
  case atStart =>
    exact ⟨0, Nat.zero_le _, rfl, HR, HT, HB⟩
  case round =>
    obtain ⟨k, hk, rfl, HK, HX, HW⟩ := hrel
    by_cases hlt : k < R
    · have hlt' : (k : Int) < (R : Int) := by omega
      obtain ⟨X, Y, hRow⟩ := (unhide HM).rowAt (k := k) hlt'
      have KR := hide (crow_any R width a1 a2 n1 c1 n2 c2 st cols k X Y wr ((unhide HS).1.below (unhide HW)) ((unhide HS).2.below (unhide HW)) hb1 hb2 (unhide HM) hlt hRow)
      unfold patV at KR
      have hV : rowV st a2 c2 k = subV a2 c2 X Y := by unfold rowV; rw [hRow.hX, hRow.hY]; simp
      unfold subV at KR hV
      obtain ⟨A, hA⟩ : ∃ A, (if c2 = X then a2 else Option.map (fun x => x.add X) a2) = A := ⟨_, rfl⟩
      rw [hA] at KR hV
      obtain ⟨m, hmm⟩ : ∃ m, Y - X = m := ⟨_, rfl⟩
      obtain ⟨d, hdd⟩ : ∃ d, c2 - X = d := ⟨_, rfl⟩
      rw [hmm, hdd] at KR hV
      have HV := hide hV
      clear hA hmm hdd
      have q0 := ((unhide HX).all 0 _ rfl).1
      have q1 := ((unhide HX).all 1 _ rfl).1
      have q2 := ((unhide HX).all 2 _ rfl).1
      have q3 := ((unhide HX).all 3 _ rfl).1
      clear hV hRow p0
      go_wp2_with fail
      refine (unhide KR).mono ?_
      rintro _ wk ⟨rfl, bk⟩
      have hKk := (unhide HK).below bk
      have hc1 := (hKk k hlt).1
      have hc2 := (hKk k hlt).2
      simp only [Nat.lt_irrefl, if_false] at hc1
      have HN := hide (show RoV (wk.setCell ⟨wb.heap.size, k, none⟩ (.slice A m d)) wb.heap.size R (fun i => if i < k + 1 then rowV st a2 c2 i else .slice none 0 0) from (hKk.put k (.slice A m d) hlt).congr (fun i hi => by
        by_cases e : i = k
        · subst e
          simp only [if_true, Nat.lt_succ_self]
          exact (unhide HV).symm
        · simp only [if_neg e]
          by_cases e2 : i < k
          · rw [if_pos e2, if_pos (by omega)]
          · rw [if_neg e2, if_neg (by omega)]))
      have HN2 := hide (((unhide HX).below bk).other (Y := wb.heap.size) k (.slice A m d) (by have := unhide HL; omega))
      have HN3 := hide (show Below w.heap.size w (wk.setCell ⟨wb.heap.size, k, none⟩ (.slice A m d)) from ((unhide HW).trans (bk.mono (unhide HW).size)).trans ((Chg.of_set (S := fun j => j = wb.heap.size) _ _ _ _ rfl).below (Nat.le_trans (unhide HW).size bk.size) (fun j hj e => by have := unhide HL; omega)))
      clear hKk bk KR q0 q1 q2 q3
      go_wp2_with fail
      exact ⟨⟨k + 1, by omega, by (first | rfl | go_num), HN, HN2, HN3⟩, by simp [intOf]; omega⟩
    · obtain rfl : k = R := by omega
      have hlt' : ¬ (k : Int) < (k : Int) := by omega
      go_wp2_with fail
      go_ret
      exact ⟨_, Nat.le_of_lt (unhide HL).2, rfl, (unhide HK).congr (fun i hi => by simp [hi]), unhide HW⟩
end Go.Proofs.YtmlodfgpedoloaaGreat
