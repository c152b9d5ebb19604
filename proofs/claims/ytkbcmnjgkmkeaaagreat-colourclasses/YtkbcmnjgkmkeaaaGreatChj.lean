/-
  COLOURS: classes, plain; colour.Classes: contracts.
-/
import Derived.Test.YtkbcmnjgkmkeaaaGreatChi
import Derived.Test.YtkbcmnjgkmkeaaaGreatCg9
namespace Go.Proofs.YtkbcmnjgkmkeaaaGreat
open Go.RowKit Go.Deep
set_option linter.unusedVariables false

/-- Thing v has colour j. -/
def ClsP (xs : List Int) (j v : Nat) : Prop := xs.getD v 0 = (j : Int)
theorem cls_step {xs : List Int} {k x : Nat} (hx : xs.getD k 0 = (x : Int)) (j : Nat) : grR (ClsP xs) j (k + 1) = if j = x then grR (ClsP xs) x k ++ [(k : Int)] else grR (ClsP xs) j k := by
  by_cases e : j = x
  · subst e
    have ht : tb (ClsP xs j k) = true := tb_yes hx
    simp [grR, ht]
  · have ht : tb (ClsP xs j k) = false := by
      have : ¬ ClsP xs j k := fun h => e (by unfold ClsP at h; omega)
      simp [tb, this]
    simp [grR, ht, e]
theorem numC_may {xs : List Int} {n : Nat} {z : Int} (h : NumC xs z) (hl : xs.length = n) (hc : MayC xs n) : 0 ≤ z ∧ z ≤ 65537 ∧ ∀ i, i < n → xs.getD i 0 < z := by
  unfold NumC at h
  rw [hl] at h
  have h0 := h.le 0 (by omega)
  simp at h0
  refine ⟨by omega, ?_, fun i hi => ?_⟩
  · obtain ⟨i, hi, he⟩ := h.at_
    cases i with
    | zero => simp at he; omega
    | succ i =>
      rw [List.getD_cons_succ] at he
      have := hc i (by omega)
      omega
  · have := h.le (i + 1) (by omega)
    rw [List.getD_cons_succ] at this
    omega
set_option maxRecDepth 100000 in
set_option maxHeartbeats 8000000 in
/-- colour.Classes, refused. -/
theorem cclasses_no (a : Option Addr) (n c : Nat) (xs : List Int) (w : World) (h : SlI w a n c xs) (hn : n ≤ 17592186044416) (hno : ¬ (n ≤ 128 ∧ MayC xs n)) :
    Calls Tryz.prog 4 #[.slice a n c] w fun e w' => e = .returned (.tuple #[.slice none 0 0, .int .i64 240]) ∧ Below w.heap.size w w' := by
  by_cases h8 : n ≤ 128
  · have h8' : ¬ (128 : Int) < (n : Int) := by omega
    have KM := hide (cmayAll_any a n c xs w h hn false ⟨fun e => absurd e (by decide), fun m => absurd ⟨h8, m⟩ hno⟩)
    clear h hno
    go_enter Tryz.func4, Tryz.ntmps4
    go_wp2_with fail
    refine (unhide KM).mono ?_
    rintro _ w2 ⟨rfl, b2⟩
    have HB := hide b2
    clear KM b2
    go_wp2_with fail
    refine bodyPost_ret (by simp [results, Tryz.results4, go_sem]; try rfl) rfl ?_
    exact ⟨rfl, unhide HB⟩
  · have h8' : (128 : Int) < (n : Int) := by omega
    clear h hno
    go_enter Tryz.func4, Tryz.ntmps4
    go_wp2_with fail
    refine bodyPost_ret (by simp [results, Tryz.results4, go_sem]; try rfl) rfl ?_
    exact ⟨rfl, Below.refl _ _⟩
/-- What Classes answers. -/
structure ClsA (w w' : World) (e : Ending) (xs : List Int) (n t L z : Nat) (f : Nat → Value) : Prop where
  ret : e = .returned (.tuple #[.slice (some ⟨L, 0, none⟩) z z, .int .i64 0])
  at_ : w.heap.size ≤ L ∧ L < t
  num : NumC xs (z : Int)
  ln : LnI w' t L z f (fun j => grR (ClsP xs) j n)
  bel : Below w.heap.size w w'
set_option maxRecDepth 100000 in
set_option maxHeartbeats 16000000 in
/-- colour.Classes. -/
theorem cclasses_yes (a : Option Addr) (n c : Nat) (xs : List Int) (w : World) (h : SlI w a n c xs) (hn : n ≤ 128) (hm : MayC xs n) (hnil : a = none → c = 0) :
    Calls Tryz.prog 4 #[.slice a n c] w fun e w' => ∃ t L z f, ClsA w w' e xs n t L z f := by
  have h8' : ¬ (128 : Int) < (n : Int) := by omega
  have KM := hide (cmayAll_any a n c xs w h (by omega) true ⟨fun _ => hm, fun _ => rfl⟩)
  have HS := hide h
  have HM := hide hm
  obtain ⟨i64, hi, hz, hs, hb⟩ := info_parts Tryz.info_i64
  have HI := hide (And.intro hi (And.intro hz (And.intro hs hb)))
  clear h hm hi hz hs hb
  go_enter Tryz.func4, Tryz.ntmps4
  go_wp2_with fail
  refine (unhide KM).mono ?_
  rintro _ w2 ⟨rfl, b2⟩
  have KN := hide (cnumber_any a n c xs w2 ((unhide HS).below b2) hn (fun i hi => (unhide HM i hi).2) hnil)
  have HB2 := hide b2
  clear KM b2
  go_wp2_with fail
  refine (unhide KN).mono ?_
  rintro _ wb ⟨zi, rfl, hN, bb⟩
  obtain ⟨hz0, hzk, hlz⟩ := numC_may hN (unhide HS).len (unhide HM)
  obtain ⟨z, rfl⟩ : ∃ z : Nat, zi = (z : Int) := ⟨zi.toNat, by omega⟩
  have hmk := make_listsI z (by omega) wb
  obtain ⟨wm, hwm⟩ : ∃ x, wb.alloc (.cells (madeCells #[.slice none 0 0] z) 22) = x := ⟨_, rfl⟩
  have bm : Below wb.heap.size wb wm := by rw [← hwm]; exact (Below.refl _ _).alloc (Nat.le_refl _) _
  have hrow : wm.rowIs wb.heap.size 22 z (fun _ => .slice none 0 0) := ⟨_, by rw [← hwm]; exact alloc_block _ _, size_madeCells _ _, made_getI z⟩
  have hbl : wb.heap.size < wm.heap.size := by rw [← hwm]; simp
  rw [hwm] at hmk
  have bwb := (unhide HB2).trans (bb.mono (unhide HB2).size)
  have bwm := bwb.trans (bm.mono bwb.size)
  have hwl : w.heap.size ≤ wb.heap.size := bwb.size
  obtain ⟨L, hL⟩ : ∃ L, wb.heap.size = L := ⟨_, rfl⟩
  obtain ⟨t, ht⟩ : ∃ t, wm.heap.size = t := ⟨_, rfl⟩
  rw [hL] at hmk hrow hbl hwl
  rw [ht] at hbl
  have HN := hide hN
  have HLZ := hide hlz
  have HRW := hide hrow
  have HB := hide bwm
  have HL := hide (And.intro hbl hwl)
  have HTL := hide ht
  have HBX := hide (show ∀ W', Chg (fun j => j = L ∨ t ≤ j) wm W' → SlI W' a n c xs from fun W' k =>
    ((unhide HS).below bwm).chg k (fun y hy hne e => by have := (unhide HS).block_lt hne y hy; omega))
  clear KN hN bb hz0 hzk hlz bm hrow hbl hwl bwb bwm
  rw [hL] at *
  clear hL ht hwm
  go_wp2_with fail
  go_loopw [20, 5] (fun iv _ wq => ∃ i : Nat, i ≤ n ∧ iv = .int .i64 (i : Int) ∧ Hid (∃ f, LnI wq t L z f (fun j => grR (ClsP xs) j i) ∧ Chg (fun j => j = L ∨ t ≤ j) wm wq)) (fun iv _ _ => n - (intOf iv).toNat)
  case atStart => exact ⟨0, Nat.zero_le _, rfl, hide ⟨fun _ => .slice none 0 0, ⟨unhide HRW, fun r hr => World.ownsRow_nil _ _ _ _, fun r s _ _ _ g hg => (by simp [Value.ownBlock] at hg)⟩, Chg.refl _ _⟩⟩
  case round =>
    obtain ⟨i, hi, rfl, HV⟩ := hrel
    obtain ⟨f, hL, hC⟩ := unhide HV
    by_cases hin : i < n
    · have hin' : (i : Int) < (n : Int) := by omega
      obtain ⟨b2, o2, e2, hc⟩ := (unhide HBX wr hC).at (by omega)
      subst e2
      have sc := hc i hin
      have hg := unhide HLZ i hin
      have hg0 := (unhide HM i hin).1
      obtain ⟨x, hx⟩ : ∃ x : Nat, xs.getD i 0 = (x : Int) := ⟨(xs.getD i 0).toNat, by omega⟩
      rw [hx] at sc hg
      have hxw : x < z := by omega
      have hxw' : (x : Int) < (z : Int) := by omega
      obtain ⟨v, hv⟩ : ∃ v, f x = v := ⟨_, rfl⟩
      have lk := hL.row.cell hxw
      have lf := hL.row.frozen x
      rw [hv] at lk
      have HXX := hide hx
      have HV2 := hide hv
      obtain ⟨ys, hys⟩ : ∃ ys, grR (ClsP xs) x i = ys := ⟨_, rfl⟩
      have hyl : ys.length ≤ 16384 := by
        have := grR_len (ClsP xs) x i
        rw [← hys]
        omega
      have how := hL.own x hxw
      rw [hv, hys] at how
      have HOW := hide how
      have HYS := hide hys
      have htw : t ≤ wr.heap.size := by have := hC.size; rw [unhide HTL] at this; exact this
      have hLt := (unhide HL).1
      have hLw : L < wr.heap.size := by omega
      have hvL : some L ≠ v.ownBlock := fun e => by have := (own_ge how L e.symm).1; omega
      have hmx : ys.length + 1 ≤ maxLen := by unfold maxLen; omega
      have hby : (ys.length + 1) * 8 ≤ 140737488355328 := by omega
      have hone : ∀ u ∈ [Value.int .i64 (i : Int)], u.oneCell' = true := by intro u hu; simp at hu; subst hu; rfl
      have HLL := hide hL
      have HC := hide hC
      clear hc hx hg hg0 hL hC HV hv hys how hmk
      go_wp2_with (at_builtin; refine wpList_append_lies _ rfl _ _ 22 rfl t 3 i64 (.int .i64 0) 1 8 Tryz.underlying22 (unhide HI).1 (unhide HI).2.1 (unhide HI).2.2.1 (unhide HI).2.2.2 rfl (by decide) v ys.length (valsI ys) rfl ((unhide HOW).alloc _) ⟨wr.heap.size, 0, none⟩ 1 1 [.int .i64 (i : Int)] rfl rfl (World.news_of_block (alloc_block _ _)) hone (by decide) hmx hby (by simp; omega) (wr.heap.size + 1) (by simp) ?_)
      intro g cap w6 hown6 hgrow6 hat6 hlt6
      have F6 := hide (And.intro hown6 (And.intro hgrow6 hat6))
      have lk6 : w6.cell? ⟨L, x, none⟩ = some v := (hgrow6.cell_far ⟨L, x, none⟩ (by simp; omega) hvL).trans ((World.cell?_alloc_lt _ _ _ hLw).trans lk)
      have lf6 : w6.frozen? ⟨L, x, none⟩ = false := (hgrow6.frozen_far ⟨L, x, none⟩ (by simp; omega) hvL).trans ((World.frozen?_alloc_old _ _ _ (Nat.ne_of_lt hLw)).trans lf)
      clear hown6 hgrow6 hat6 hlt6
      have HNX := hide (LnI.app (x := (i : Int)) (unhide HLL) hxw hLt htw (Obj.cells #[Value.int IntKind.i64 (i : Int)] 3) (by rw [unhide HYS]; exact (unhide F6).1) (by rw [unhide HV2]; exact (show (wr.alloc _).grownBy w6 _ from ⟨(unhide F6).2.1.os, (unhide F6).2.1.tape, (unhide F6).2.1.output, (unhide F6).2.1.size, (unhide F6).2.1.block⟩)) (by rw [unhide HV2]; exact (unhide F6).2.2))
      rw [unhide HYS] at HNX
      clear F6
      go_wp2_with fail
      refine ⟨⟨i + 1, by omega, by (first | rfl | go_num), hide ⟨_, (unhide HNX).1.congr (fun r hr => ?_), (unhide HC).trans (unhide HNX).2⟩⟩, by simp [intOf]; omega⟩
      rw [cls_step (unhide HXX) r, unhide HYS]
    · obtain rfl : i = n := by omega
      have hin' : ¬ (i : Int) < (i : Int) := by omega
      have HA := hide (show ClsA w wr (.returned (.tuple #[.slice (some ⟨L, 0, none⟩) z z, .int .i64 0])) xs i t L z f from ⟨rfl, ⟨(unhide HL).2, (unhide HL).1⟩, unhide HN, hL, (unhide HB).trans (hC.below (unhide HB).size (fun j hj e => by have := unhide HL; have := (unhide HB).size; have := unhide HTL; omega))⟩)
      clear hL hC HV hmk
      go_wp2_with fail
      refine bodyPost_ret (by simp [results, Tryz.results4, go_sem]; try rfl) rfl ?_
      exact ⟨t, L, z, f, unhide HA⟩
end Go.Proofs.YtkbcmnjgkmkeaaaGreat
