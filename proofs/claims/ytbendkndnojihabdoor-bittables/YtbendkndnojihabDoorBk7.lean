/-
  slopelaw3.alive: its contract.
-/
import Derived.Test.YtbendkndnojihabDoorBtc
import Derived.Test.YtbendkndnojihabDoorBt7
import Derived.Test.YtbendkndnojihabDoorBv1
import Derived.Test.YtbendkndnojihabDoorBza
import Derived.Deep.LoopGhost
import Derived.Deep.RegionHeld3
import Derived.Test.YtbendkndnojihabDoorBu2
import Derived.Test.YtbendkndnojihabDoorBtg
import Derived.Test.YtbendkndnojihabDoorBye
namespace Go.Proofs.YtbendkndnojihabDoor
open Go.RowKit Go.Deep
set_option linter.unusedVariables false

theorem mk_303 : mkR 5 [3, 0, 3] = (5, [9], 0) := by decide
theorem mk_5 : mkR 5 [5] = (0, [], 62) := by decide

set_option maxHeartbeats 4000000 in
/-- slopelaw3.alive. -/
theorem alive_any (w : World) : Calls Tryd.prog 8 #[] w fun e w' => e = .returned (.bool true) ∧ Below w.heap.size w w' := by
  obtain ⟨wa, hwa⟩ : ∃ x, w.alloc (.cells #[.int .i64 3, .int .i64 0, .int .i64 3] 3) = x := ⟨_, rfl⟩
  have hba : Below w.heap.size w wa := by rw [← hwa]; exact (Below.refl _ _).alloc (Nat.le_refl _) _
  have hs : SlI wa (some ⟨w.heap.size, 0, none⟩) 3 3 [3, 0, 3] := by
    refine ⟨rfl, Nat.le_refl _, by unfold maxLen; omega, .inr ⟨_, _, rfl, fun i hi => ?_⟩⟩
    have hi3 : i < 3 := hi
    match i, hi3 with
    | 0, _ => rw [← hwa]; simp [vI]
    | 1, _ => rw [← hwa]; simp [vI]
    | 2, _ => rw [← hwa]; simp [vI]
  have K1 := make_any 5 (some ⟨w.heap.size, 0, none⟩) 3 3 [3, 0, 3] wa hs
  rw [mk_303] at K1
  have HK1 := hide K1
  have HB := hide hba
  clear K1 hs hba
  go_enter Tryd.func8, Tryd.ntmps8
  go_wp2_with fail
  refine (unhide HK1).mono ?_
  rintro _ wb ⟨a1, n1, c1, rfl, hs1, hb1⟩
  have hbb := (unhide HB).trans (hb1.mono (unhide HB).size)
  have hl := hs1.len
  have hn1 : n1 = 1 := hl.symm
  subst hn1
  obtain ⟨b, off, rfl, hc⟩ := hs1.at (by decide)
  have g0 := hc 0 (by decide)
  simp [vU] at g0
  have hcap := hs1.cap
  have hle := hs1.le
  unfold maxLen at hcap
  have HG := hide (And.intro hbb g0)
  clear hb1 hs1 hc g0 hbb hl HK1 HB
  unfold setV
  obtain ⟨wc, hwc⟩ : ∃ x, wb.alloc (.cells #[.int .i64 5, .slice (some ⟨b, off, none⟩) 1 c1] 35) = x := ⟨_, rfl⟩
  obtain ⟨wd, hwd⟩ : ∃ x, wc.alloc (.cells #[.int .i64 5] 3) = x := ⟨_, rfl⟩
  have hbc : Below wb.heap.size wb wc := by rw [← hwc]; exact (Below.refl _ _).alloc (Nat.le_refl _) _
  have hbd : Below wc.heap.size wc wd := by rw [← hwd]; exact (Below.refl _ _).alloc (Nat.le_refl _) _
  have tS : Two wd wb.heap.size (.int .i64 5) (.slice (some ⟨b, off, none⟩) 1 c1) := Two.keep (w := wc) (by rw [← hwc]; exact Two.made _ _ _ _) hbd
  have hs : SlI wd (some ⟨wc.heap.size, 0, none⟩) 1 1 [5] := by
    refine ⟨rfl, Nat.le_refl _, by unfold maxLen; omega, .inr ⟨_, _, rfl, fun i hi => ?_⟩⟩
    have hi1 : i < 1 := hi
    match i, hi1 with
    | 0, _ => rw [← hwd]; simp [vI]
  have K2 := make_any 5 (some ⟨wc.heap.size, 0, none⟩) 1 1 [5] wd hs
  rw [mk_5] at K2
  have HK2 := hide K2
  have hbwd : Below wb.heap.size wb wd := hbc.trans (hbd.mono hbc.size)
  have HG2 := hide (And.intro tS (And.intro ((unhide HG).1.trans (hbwd.mono (unhide HG).1.size)) (below_cell hbwd (unhide HG).2)))
  clear K2 hs tS hbc hbd hbwd HG
  go_wp2_with fail
  refine (unhide HK2).mono ?_
  rintro _ we ⟨a2, n2, c2, rfl, hs2, hb2⟩
  have hbe := (unhide HG2).2.1.trans (hb2.mono (unhide HG2).2.1.size)
  have HG3 := hide (And.intro ((unhide HG2).1.keep hb2) (And.intro hbe (below_cell hb2 (unhide HG2).2.2)))
  clear hs2 hb2 hbe HK2 HG2 hwc hwd
  unfold setV
  obtain ⟨wf, hwf⟩ : ∃ x, we.alloc (.cells #[.int .i64 0, .slice a2 n2 c2] 35) = x := ⟨_, rfl⟩
  have hbf : Below we.heap.size we wf := by rw [← hwf]; exact (Below.refl _ _).alloc (Nat.le_refl _) _
  have tS := (unhide HG3).1.keep hbf
  have t0 := tS.c0
  have t1 := tS.c1
  have g0 := below_cell hbf (unhide HG3).2.2
  have HB := hide ((unhide HG3).2.1.trans (hbf.mono (unhide HG3).2.1.size))
  clear tS hbf HG3
  go_wp2_with fail
  refine (num_any 0 wf).mono ?_
  rintro _ w' ⟨rfl, hw⟩
  obtain rfl := hw.symm
  go_wp2_with fail
  refine (num_any 62 wf).mono ?_
  rintro _ w' ⟨rfl, hw⟩
  obtain rfl := hw.symm
  go_wp2_with fail
  go_ret
  exact ⟨rfl, unhide HB⟩
end Go.Proofs.YtbendkndnojihabDoor

namespace Go.Proofs.YtbendkndnojihabDoor
open Go.RowKit Go.Deep
set_option linter.unusedVariables false

/-- What the loop of picks holds. -/
structure PkSt (w wr : World) (T Z b m base N n cb : Nat) (sz : Nat) (aT : Option Addr) (cT : Nat) (L : List SetC) (R : Option (List Int)) (v : Value) (f : Nat → Nat) (g : Nat → Int) (P : Nat → Bool) (acc : List Int) (fu gk : Nat) : Prop where
  cnt : cntB P sz = gk
  lp : CvLp w wr T Z b m base N n cb sz aT cT f g
  rep : RepB N f P
  zero : ∀ x, sz ≤ x → P x = false
  most : ∀ i, i < n → ((covC sz (setP L) P i : Nat) : Int) ≤ g i ∧ g i ≤ 1000000
  own : wr.ownsRow base 3 1 v acc.length (acc.map vI)
  res : covR sz n (setP L) fu P acc = R
  fuel : cntB P sz ≤ fu
  room : acc.length + cntB P sz ≤ 4096
theorem has_beyond {xs : List Nat} {x : Nat} (h : xs.length ≤ x / 64) : hasB (gW xs) x = false := by
  unfold hasB gW
  simp [List.getD, List.getElem?_eq_none h]

end Go.Proofs.YtbendkndnojihabDoor

namespace Go.Proofs.YtbendkndnojihabDoor
open Go.RowKit Go.Deep
set_option linter.unusedVariables false

/-- What the loop of picks holds. -/
structure RcSt (w wr : World) (T b base n : Nat) (sz : Nat) (aT : Option Addr) (cT : Nat) (L : List SetC) (R : Option (List Int)) (v : Value) (P : Nat → Bool) (acc : List Int) (fu : Nat) : Prop where
  tab : Two wr T (.int .i64 sz) (.slice aT n cT)
  row : FnB wr b 0 sz P
  bel : Below w.heap.size w wr
  lt : base ≤ wr.heap.size
  own : wr.ownsRow base 3 1 v acc.length (acc.map vI)
  res : covR sz n (setP L) fu P acc = R
  fuel : cntB P sz ≤ fu
  room : acc.length + cntB P sz ≤ 4096
theorem RcSt.keep {w wr w' : World} {T b base n sz : Nat} {aT : Option Addr} {cT : Nat} {L : List SetC} {R : Option (List Int)} {v : Value} {P : Nat → Bool} {acc : List Int} {fu : Nat} (h : RcSt w wr T b base n sz aT cT L R v P acc fu) (k : Below wr.heap.size wr w') : RcSt w w' T b base n sz aT cT L R v P acc fu :=
  ⟨h.tab.keep k, h.row.below k, h.bel.trans (k.mono h.bel.size), Nat.le_trans h.lt k.size, own_chg (S := fun _ => False) h.own (Chg.of_below k) (fun _ _ h => h), h.res, h.fuel, h.room⟩

end Go.Proofs.YtbendkndnojihabDoor

namespace Go.Proofs.YtbendkndnojihabDoor
open Go.RowKit Go.Deep
set_option linter.unusedVariables false

theorem cover_cases (t : Int) (L : List SetC) (s : Int) (xs : List Nat) : (∃ er, coverR t L s xs = ([], er) ∧ ((MayT t L = false ∧ er = 61) ∨ (MayT t L = true ∧ MayS s xs = false ∧ er = 61) ∨ (MayT t L = true ∧ MayS s xs = true ∧ t ≠ s ∧ er = 60))) ∨
    (MayT t L = true ∧ MayS s xs = true ∧ t = s ∧ coverR t L s xs = covA (covR s.toNat L.length (setP L) 4096 (hasB (gW xs)) [])) := by
  cases m1 : MayT t L
  · exact .inl ⟨61, by unfold coverR; rw [m1]; simp, .inl ⟨rfl, rfl⟩⟩
  · cases m2 : MayS s xs
    · exact .inl ⟨61, by unfold coverR; rw [m1, m2]; simp, .inr (.inl ⟨rfl, rfl, rfl⟩)⟩
    · by_cases e : t = s
      · exact .inr ⟨rfl, rfl, e, by unfold coverR; rw [m1, m2]; simp [e]⟩
      · exact .inl ⟨60, by unfold coverR; rw [m1, m2]; simp [e], .inr (.inr ⟨rfl, rfl, e, rfl⟩)⟩
theorem getD_key (L : List SetC) (i : Nat) : ((L.map SetC.key).getD i (0, [])) = (L.getD i .nul).key := by
  by_cases h : i < L.length
  · simp [List.getD, h]
  · simp [List.getD, List.getElem?_eq_none (show L.length ≤ i by omega), SetC.key, SetC.nul]
theorem setP_key {L T : List SetC} (h : T.map SetC.key = L.map SetC.key) : setP T = setP L := by
  funext i
  have h1 := getD_key T i
  have h2 := getD_key L i
  rw [h, h2] at h1
  have h3 : (T.getD i .nul).xs = (L.getD i .nul).xs := by
    have := congrArg Prod.snd h1
    exact this.symm
  unfold setP
  rw [h3]
theorem cover_key {t : Int} {L T : List SetC} {s : Int} {xs : List Nat} (h : T.map SetC.key = L.map SetC.key) : coverR t T s xs = coverR t L s xs := by
  have hl : T.length = L.length := by simpa using congrArg List.length h
  unfold coverR
  rw [mayT_key h, setP_key h, hl]
end Go.Proofs.YtbendkndnojihabDoor
