/-
  GRAPHS: colour.row: contract.
-/
import Derived.Test.YtkbcmnjgkmkeaaaGreatCg3
namespace Go.Proofs.YtkbcmnjgkmkeaaaGreat
open Go.RowKit Go.Deep
set_option linter.unusedVariables false

/-- A part of a list, as a value. -/
def subV (a : Option Addr) (c X Y : Nat) : Value := .slice (if c = X then a else Option.map (fun x => x.add X) a) (Y - X) (c - X)
set_option maxRecDepth 100000 in
set_option maxHeartbeats 16000000 in
/-- colour.row. -/
theorem crow_any (R : Nat) (width : Int) (a1 a2 : Option Addr) (n1 c1 n2 c2 : Nat) (st cols : List Int) (r X Y : Nat) (w : World) (h1 : SlI w a1 n1 c1 st) (h2 : SlI w a2 n2 c2 cols) (hb1 : n1 ≤ 17592186044416) (hb2 : n2 ≤ 17592186044416) (hm : MayP (R : Int) width st cols) (hr : r < R) (hR : RowAt st cols width r X Y) :
    Calls Tryz.prog 66 #[patV (R : Int) width a1 n1 c1 a2 n2 c2, .int .i64 (r : Int)] w fun e w' => e = .returned (subV a2 c2 X Y) ∧ Below w.heap.size w w' := by
  obtain ⟨wb, hwb⟩ : ∃ x, w.alloc (.cells #[.int .i64 (R : Int), .int .i64 width, .slice a1 n1 c1, .slice a2 n2 c2] 61) = x := ⟨_, rfl⟩
  have bb : Below w.heap.size w wb := by rw [← hwb]; exact (Below.refl _ _).alloc (Nat.le_refl _) _
  have hT := BoxP.made w #[.int .i64 (R : Int), .int .i64 width, .slice a1 n1 c1, .slice a2 n2 c2] 61
  rw [hwb] at hT
  have p0 := (hT.all 0 _ rfl).1
  have p1 := (hT.all 1 _ rfl).1
  have p2 := (hT.all 2 _ rfl).1
  have p3 := (hT.all 3 _ rfl).1
  have hln := h1.len
  have hlc := h2.len
  have hl2 := hm.head.len
  have hnc := h2.le
  have hfit := hm.head.fit
  obtain ⟨b1, o1, rfl, hc1⟩ := (h1.below bb).at (by omega)
  have sk := hc1 r (by omega)
  have sk1 := hc1 (r + 1) (by omega)
  rw [hR.hX] at sk
  rw [hR.hY] at sk1
  have hXY := hR.le
  have hYn := hR.lt
  have hn1 : n1 = R + 1 := by omega
  subst hn1
  have tr : (r : Int) < (R : Int) + 1 := by omega
  have tr1 : (r : Int) + 1 < (R : Int) + 1 := by omega
  have tXY : (X:Int) ≤ (Y:Int) := by omega
  have tYc : (Y:Int) ≤ (c2:Int) := by omega
  have hr8 : r < 128 := by omega
  have HB := hide bb
  clear hT bb hc1 hm hR h1 h2 hln hlc hl2 hfit
  unfold patV
  go_enter Tryz.func66, Tryz.ntmps66
  go_wp2_with fail
  try go_quiet (fail)
  all_goals (try go_wp2_with fail)
  all_goals (try go_ret)
  all_goals exact ⟨by simp_all [subV], by first | exact unhide HB | exact bel_drewN (unhide HB) _⟩
end Go.Proofs.YtkbcmnjgkmkeaaaGreat

namespace Go.Proofs.YtkbcmnjgkmkeaaaGreat
open Go.RowKit Go.Deep
set_option linter.unusedVariables false

theorem Tryz.info_listI : (Tryz.prog.info? 22).map (fun i => (i.zero, i.size, i.bytes)) = some (some (.slice none 0 0), 1, 24) := by kernel_rfl
theorem make_listsI (n : Nat) (hn : n ≤ 1000000000) (w : World) : (Instr.makeSlice 25 (.int .i64 (n : Int)) (.int .i64 (n : Int))).run Tryz.prog w = .ok (.slice (some ⟨w.heap.size, 0, none⟩) n n) (w.alloc (.cells (madeCells #[.slice none 0 0] n) 22)) :=
  run_make_row' (P := Tryz.prog) 25 22 (.slice none 0 0) 24 Tryz.underlying25 Tryz.info_listI rfl .i64 .i64 n (by omega) (by omega) w
/-- A row of a pattern, as a value. -/
def rowV (st : List Int) (a2 : Option Addr) (c2 : Nat) (i : Nat) : Value := subV a2 c2 (st.getD i 0).toNat (st.getD (i + 1) 0).toNat
set_option maxRecDepth 100000 in
set_option maxHeartbeats 16000000 in
/-- colour.rowsOf. -/
theorem crows_any (R : Nat) (width : Int) (a1 a2 : Option Addr) (n1 c1 n2 c2 : Nat) (st cols : List Int) (w : World) (h1 : SlI w a1 n1 c1 st) (h2 : SlI w a2 n2 c2 cols) (hb1 : n1 ≤ 17592186044416) (hb2 : n2 ≤ 17592186044416) (hm : MayP (R : Int) width st cols) :
    Calls Tryz.prog 70 #[patV (R : Int) width a1 n1 c1 a2 n2 c2] w fun e w' => ∃ b, w.heap.size ≤ b ∧ e = .returned (.slice (some ⟨b, 0, none⟩) R R) ∧ RoV w' b R (rowV st a2 c2) ∧ Below w.heap.size w w' := by
  obtain ⟨wb, hwb⟩ : ∃ x, w.alloc (.cells #[.int .i64 (R : Int), .int .i64 width, .slice a1 n1 c1, .slice a2 n2 c2] 61) = x := ⟨_, rfl⟩
  have bb : Below w.heap.size w wb := by rw [← hwb]; exact (Below.refl _ _).alloc (Nat.le_refl _) _
  have hT := BoxP.made w #[.int .i64 (R : Int), .int .i64 width, .slice a1 n1 c1, .slice a2 n2 c2] 61
  rw [hwb] at hT
  have p0 := (hT.all 0 _ rfl).1
  have hfit := hm.head.fit
  have hR8 : R ≤ 128 := by omega
  have hmk := make_listsI R (by omega) wb
  have hR := RoV.made wb R 22 (.slice none 0 0)
  obtain ⟨wm, hwm⟩ : ∃ x, wb.alloc (.cells (madeCells #[.slice none 0 0] R) 22) = x := ⟨_, rfl⟩
  have bm : Below wb.heap.size wb wm := by rw [← hwm]; exact (Below.refl _ _).alloc (Nat.le_refl _) _
  rw [hwm] at hR hmk
  have hbl : wb.heap.size < wm.heap.size := by rw [← hwm]; simp
  have hwl : w.heap.size < wb.heap.size := hT.lt
  have HT := hide (hT.below bm)
  have HR := hide hR
  have HB := hide (bb.trans (bm.mono bb.size))
  have HS := hide (And.intro h1 h2)
  have HM := hide hm
  have HL := hide (And.intro hbl hwl)
  clear hT bb bm hR hm h1 h2 hfit hbl hwl
  unfold patV
  go_enter Tryz.func70, Tryz.ntmps70
  go_wp2_with fail
  go_loopw [10, 4] (fun kv _ wr => ∃ k : Nat, k ≤ R ∧ kv = .int .i64 (k : Int) ∧ Hid (RoV wr wb.heap.size R (fun i => if i < k then rowV st a2 c2 i else .slice none 0 0)) ∧ Hid (BoxP wr w.heap.size [.int .i64 (R : Int), .int .i64 width, .slice a1 n1 c1, .slice a2 n2 c2]) ∧ Hid (Below w.heap.size w wr)) (fun kv _ _ => R - (intOf kv).toNat)
  case atStart =>
    exact ⟨0, Nat.zero_le _, rfl, HR, HT, HB⟩
  case round =>
    obtain ⟨k, hk, rfl, HK, HX, HW⟩ := hrel
    by_cases hlt : k < R
    · have hlt' : (k : Int) < (R : Int) := by omega
      obtain ⟨X, Y, hRow⟩ := (unhide HM).rowAt (k := k) hlt'
      have KR := hide (crow_any R width a1 a2 n1 c1 n2 c2 st cols k X Y wr ((unhide HS).1.below (unhide HW)) ((unhide HS).2.below (unhide HW)) hb1 hb2 (unhide HM) hlt hRow)
      unfold patV at KR
      have hV : rowV st a2 c2 k = subV a2 c2 X Y := by unfold rowV; rw [hRow.hX, hRow.hY]; simp
      unfold subV at KR hV
      obtain ⟨A, hA⟩ : ∃ A, (if c2 = X then a2 else Option.map (fun x => x.add X) a2) = A := ⟨_, rfl⟩
      rw [hA] at KR hV
      obtain ⟨m, hmm⟩ : ∃ m, Y - X = m := ⟨_, rfl⟩
      obtain ⟨d, hdd⟩ : ∃ d, c2 - X = d := ⟨_, rfl⟩
      rw [hmm, hdd] at KR hV
      have HV := hide hV
      clear hA hmm hdd
      have q0 := ((unhide HX).all 0 _ rfl).1
      have q1 := ((unhide HX).all 1 _ rfl).1
      have q2 := ((unhide HX).all 2 _ rfl).1
      have q3 := ((unhide HX).all 3 _ rfl).1
      clear hV hRow p0
      go_wp2_with fail
      refine (unhide KR).mono ?_
      rintro _ wk ⟨rfl, bk⟩
      have hKk := (unhide HK).below bk
      have hc1 := (hKk k hlt).1
      have hc2 := (hKk k hlt).2
      simp only [Nat.lt_irrefl, if_false] at hc1
      have HN := hide (show RoV (wk.setCell ⟨wb.heap.size, k, none⟩ (.slice A m d)) wb.heap.size R (fun i => if i < k + 1 then rowV st a2 c2 i else .slice none 0 0) from (hKk.put k (.slice A m d) hlt).congr (fun i hi => by
        by_cases e : i = k
        · subst e
          simp only [if_true, Nat.lt_succ_self]
          exact (unhide HV).symm
        · simp only [if_neg e]
          by_cases e2 : i < k
          · rw [if_pos e2, if_pos (by omega)]
          · rw [if_neg e2, if_neg (by omega)]))
      have HN2 := hide (((unhide HX).below bk).other (Y := wb.heap.size) k (.slice A m d) (by have := unhide HL; omega))
      have HN3 := hide (show Below w.heap.size w (wk.setCell ⟨wb.heap.size, k, none⟩ (.slice A m d)) from ((unhide HW).trans (bk.mono (unhide HW).size)).trans ((Chg.of_set (S := fun j => j = wb.heap.size) _ _ _ _ rfl).below (Nat.le_trans (unhide HW).size bk.size) (fun j hj e => by have := unhide HL; omega)))
      clear hKk bk KR q0 q1 q2 q3
      go_wp2_with fail
      exact ⟨⟨k + 1, by omega, by (first | rfl | go_num), HN, HN2, HN3⟩, by simp [intOf]; omega⟩
    · obtain rfl : k = R := by omega
      have hlt' : ¬ (k : Int) < (k : Int) := by omega
      go_wp2_with fail
      go_ret
      exact ⟨_, Nat.le_of_lt (unhide HL).2, rfl, (unhide HK).congr (fun i hi => by simp [hi]), unhide HW⟩
end Go.Proofs.YtkbcmnjgkmkeaaaGreat
