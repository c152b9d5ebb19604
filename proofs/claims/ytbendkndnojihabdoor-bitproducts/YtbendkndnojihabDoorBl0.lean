/-
  bitset.blankTable: its contract.
-/
import Derived.Test.YtbendkndnojihabDoorBx2
import Derived.Test.YtbendkndnojihabDoorBt4
import Derived.Test.YtbendkndnojihabDoorBtk
namespace Go.Proofs.YtbendkndnojihabDoor
open Go.RowKit Go.Deep
set_option linter.unusedVariables false

/-- A table in new memory. -/
def NewT (w w' : World) (sz : Nat) (n : Nat) (F : Nat → Nat → Nat) (v : Value) : Prop :=
  ∃ T bs cs, v = setV sz (some ⟨T, 0, none⟩) n n ∧ TbM w.heap.size w' T n (nW sz) sz F n bs cs ∧ Below w.heap.size w w'
/-- In its loop. -/
structure BtI (w W : World) (R T Z n N sz : Nat) (F : Nat → Nat → Nat) (k : Nat) : Prop where
  tr : Two W R (.int .i64 0) (.slice none 0 0)
  tz : Two W Z (.int .i64 (sz : Int)) (.slice (some ⟨T, 0, none⟩) n n)
  tb : ∃ bs cs, TbM (R + 1) W T n N sz F k bs cs
  rge : w.heap.size ≤ R
  rlt : R + 1 ≤ W.heap.size
  bel : Below w.heap.size w W
theorem BtI.below {w W W' : World} {R T Z n N sz : Nat} {F : Nat → Nat → Nat} {k : Nat} (h : BtI w W R T Z n N sz F k) (hb : Below W.heap.size W W') : BtI w W' R T Z n N sz F k := by
  obtain ⟨bs, cs, ht⟩ := h.tb
  exact ⟨h.tr.keep hb, h.tz.keep hb, ⟨bs, cs, ht.below hb⟩, h.rge, Nat.le_trans h.rlt hb.size, h.bel.trans (hb.mono h.bel.size)⟩
theorem BtI.step {w W W1 : World} {R T Z n N sz : Nat} {F : Nat → Nat → Nat} {k : Nat} (h : BtI w W R T Z n N sz F k) (hR : T ≠ R) (hZ : T ≠ Z) (hk : k < n) {b c : Nat} (hb : Below W.heap.size W W1) (hb1 : W.heap.size ≤ b) (hb2 : b < W1.heap.size) (hf : FnW W1 b 0 N (F k)) (hc1 : N ≤ c) (hc2 : c ≤ maxLen) :
    BtI w ((W1.setCell ⟨T, k * 2, none⟩ (.int .i64 sz)).setCell ⟨T, k * 2 + 1, none⟩ (.slice (some ⟨b, 0, none⟩) N c)) R T Z n N sz F (k + 1) := by
  obtain ⟨bs, cs, ht⟩ := h.tb
  have h1 := h.below hb
  exact ⟨(h1.tr.other _ _ _ hR).other _ _ _ hR, (h1.tz.other _ _ _ hZ).other _ _ _ hZ, ⟨_, _, ht.step h.rlt hk hb hb1 hb2 hf hc1 hc2⟩, h.rge, by simpa using h1.rlt, (h1.bel.setCell (p := ⟨T, k * 2, none⟩) (by have := ht.tge; have := h.rge; simp; omega) _).setCell (p := ⟨T, k * 2 + 1, none⟩) (by have := ht.tge; have := h.rge; simp; omega) _⟩
theorem BtI.start {w wa wb wc : World} (n N sz : Nat) (F : Nat → Nat → Nat) (hwa : w.alloc (.cells #[.int .i64 0, .slice none 0 0] 24) = wa) (hwb : wa.alloc (.cells (madeCells #[.int .i64 0, .slice none 0 0] (n * 2)) 35) = wb)
    (hwc : wb.alloc (.cells #[.int .i64 (sz : Int), .slice (some ⟨wa.heap.size, 0, none⟩) n n] 24) = wc) : BtI w wc w.heap.size wa.heap.size wb.heap.size n N sz F 0 ∧ w.heap.size < wa.heap.size ∧ wa.heap.size < wb.heap.size ∧ wb.heap.size < wc.heap.size := by
  have ba : Below w.heap.size w wa := by rw [← hwa]; exact (Below.refl _ _).alloc (Nat.le_refl _) _
  have bb : Below wa.heap.size wa wb := by rw [← hwb]; exact (Below.refl _ _).alloc (Nat.le_refl _) _
  have bc : Below wb.heap.size wb wc := by rw [← hwc]; exact (Below.refl _ _).alloc (Nat.le_refl _) _
  have la : w.heap.size < wa.heap.size := by rw [← hwa]; simp
  refine ⟨⟨?_, ?_, ⟨fun _ => 0, fun _ => 0, TbM.below (W := wb) ?_ bc⟩, Nat.le_refl _, by have := bb.size; have := bc.size; omega, (ba.trans (bb.mono ba.size)).trans (bc.mono (Nat.le_trans ba.size bb.size))⟩, la, by rw [← hwb]; simp, by rw [← hwc]; simp⟩
  · refine Two.keep (Two.keep (w := wa) ?_ bb) bc
    rw [← hwa]; exact Two.made _ _ _ _
  · rw [← hwc]; exact Two.made _ _ _ _
  · rw [← hwb]; exact TbM.made wa n N sz F la
/-- Its end. -/
theorem TbM.mono {B B' : Nat} {W : World} {T n N : Nat} {sz : Int} {F : Nat → Nat → Nat} {k : Nat} {bs cs : Nat → Nat} (h : TbM B W T n N sz F k bs cs) (hB : B' ≤ B) : TbM B' W T n N sz F k bs cs :=
  ⟨Nat.le_trans hB h.tge, h.tlt, h.row, h.rest, h.froz, h.words, fun i hi => ⟨Nat.le_trans hB (h.ge i hi).1, (h.ge i hi).2⟩, h.apart, h.cap⟩
theorem BtI.done {w W : World} {R T Z n sz : Nat} {F : Nat → Nat → Nat} (h : BtI w W R T Z n (nW sz) sz F n) : NewT w ((W.setCell ⟨R, 0, none⟩ (.int .i64 sz)).setCell ⟨R, 1, none⟩ (.slice (some ⟨T, 0, none⟩) n n)) sz n F (setV sz (some ⟨T, 0, none⟩) n n) := by
  obtain ⟨bs, cs, ht⟩ := h.tb
  have := ht.tge
  have hr := h.rge
  exact ⟨T, bs, cs, rfl, (ht.chg (two_chg W R _ _) (by omega) (fun i hi => by have := (ht.ge i hi).1; omega)).mono (by omega), two_below h.bel R h.rge _ _⟩

set_option maxHeartbeats 4000000 in
/-- bitset.blankTable. -/
theorem blankTable_any (sz n : Nat) (w : World) (hsz : sz ≤ 4096) (hn : n ≤ 4096) : Calls Tryd.prog 43 #[.int .i64 (sz : Int), .int .i64 (n : Int)] w fun r w' => ∃ v, r = .returned v ∧ NewT w w' sz n (fun _ _ => 0) v := by
  have hm := make_sets n (by omega)
  obtain ⟨wa, hwa⟩ : ∃ x, w.alloc (.cells #[.int .i64 0, .slice none 0 0] 24) = x := ⟨_, rfl⟩
  obtain ⟨wb, hwb⟩ : ∃ x, wa.alloc (.cells (madeCells #[.int .i64 0, .slice none 0 0] (n * 2)) 35) = x := ⟨_, rfl⟩
  obtain ⟨wc, hwc⟩ : ∃ x, wb.alloc (.cells #[.int .i64 (sz : Int), .slice (some ⟨wa.heap.size, 0, none⟩) n n] 24) = x := ⟨_, rfl⟩
  obtain ⟨hS, l1, l2, l3⟩ := BtI.start n (nW sz) sz (fun _ _ => 0) hwa hwb hwc
  have HS := hide hS
  have z1 := hS.tz.c1
  clear hS
  go_enter Tryd.func43, Tryd.ntmps43
  go_wp2_with fail
  clear z1 hwa hwb hwc hm
  go_loopw [14, 6] (fun i _ wr => ∃ k : Nat, k ≤ n ∧ i = .int .i64 k ∧ BtI w wr w.heap.size wa.heap.size wb.heap.size n (nW sz) sz (fun _ _ => 0) k) (fun i _ _ => n - (intOf i).toNat)
  case atStart => exact ⟨0, Nat.zero_le _, rfl, unhide HS⟩
  case round =>
    obtain ⟨k, hk, rfl, hst⟩ := hrel
    by_cases hlt : k < n
    · have hlt' : (k : Int) < (n : Int) := by omega
      have z1 := hst.tz.c1
      have HI := hide hst
      clear hst
      go_wp2_with fail
      go_region_with (
        go_at_call 68
        refine (blank_any sz _ hsz).mono ?_
        rintro _ w1 ⟨v, rfl, b, c, rfl, hc1, hc2, hb1, hb2, hfn, hbel⟩
        unfold setV
        have hI1 := (unhide HI).below ((Below.refl _ _).drew.trans hbel)
        have y1 := hI1.tz.c1
        obtain ⟨bs, cs, ht⟩ := hI1.tb
        have t0 := (ht.rest k (Nat.le_refl _) hlt).1
        have t1 := (ht.rest k (Nat.le_refl _) hlt).2
        have g0 := ht.froz (k * 2) (by omega)
        have g1 := ht.froz (k * 2 + 1) (by omega)
        have HS2 := hide ((unhide HI).step (by omega) (by omega) hlt ((Below.refl _ _).drew.trans hbel) hb1 hb2 hfn hc1 hc2)
        clear ht hI1)
      all_goals
        go_wp2_with fail
        exact ⟨⟨k + 1, by omega, by go_num, unhide HS2⟩, by simp [intOf]; omega⟩
    · have hlt' : ¬ (k : Int) < (n : Int) := by omega
      have hkn : k = n := by omega
      subst hkn
      have z0 := hst.tz.c0
      have z1 := hst.tz.c1
      have r0 := hst.tr.c0
      have r1 := hst.tr.c1
      have f0 := hst.tr.f0
      have f1 := hst.tr.f1
      have T3 := hst.tr.set (.int .i64 sz) (.slice (some ⟨wa.heap.size, 0, none⟩) k k)
      have p0 := T3.c0
      have p1 := T3.c1
      have HD := hide hst.done
      clear hst T3
      go_wp2_with fail
      refine bodyPost_ret (by simp [results, Tryd.results43, go_sem, p0, p1]; try rfl) rfl ?_
      exact ⟨_, rfl, unhide HD⟩
end Go.Proofs.YtbendkndnojihabDoor

namespace Go.Proofs.YtbendkndnojihabDoor
open Go.RowKit Go.Deep
set_option linter.unusedVariables false

theorem two_sets {wb wc : World} {s1 : Int} {a1 : Option Addr} {n1 c1 : Nat} {x1 : List Nat} {s2 : Int} {a2 : Option Addr} {n2 c2 : Nat} {x2 : List Nat}
    (hwc : wb.alloc (.cells #[.int .i64 s1, .slice a1 n1 c1, .int .i64 s2, .slice a2 n2 c2] 35) = wc) (h1 : SlW wc a1 n1 c1 x1) (h2 : SlW wc a2 n2 c2 x2) (o1 : OkW x1) (o2 : OkW x2) :
    SlS wc (some ⟨wb.heap.size, 0, none⟩) 2 2 [⟨s1, a1, n1, c1, x1⟩, ⟨s2, a2, n2, c2, x2⟩] := by
  refine ⟨rfl, Nat.le_refl _, by unfold maxLen; omega, .inr ⟨_, _, rfl, ?_⟩, ?_⟩
  · intro i hi
    have hi2 : i < 2 := hi
    match i, hi2 with
    | 0, _ => rw [← hwc]; exact ⟨by simp, by simp⟩
    | 1, _ => rw [← hwc]; exact ⟨by simp, by simp⟩
  · intro e he
    rcases List.mem_cons.1 he with rfl | he
    · exact ⟨h1, o1⟩
    · rcases List.mem_cons.1 he with rfl | he
      · exact ⟨h2, o2⟩
      · cases he
theorem one_set {wb wc : World} {s1 : Int} {a1 : Option Addr} {n1 c1 : Nat} {x1 : List Nat}
    (hwc : wb.alloc (.cells #[.int .i64 s1, .slice a1 n1 c1] 35) = wc) (h1 : SlW wc a1 n1 c1 x1) (o1 : OkW x1) :
    SlS wc (some ⟨wb.heap.size, 0, none⟩) 1 1 [⟨s1, a1, n1, c1, x1⟩] := by
  refine ⟨rfl, Nat.le_refl _, by unfold maxLen; omega, .inr ⟨_, _, rfl, ?_⟩, ?_⟩
  · intro i hi
    have hi2 : i < 1 := hi
    match i, hi2 with
    | 0, _ => rw [← hwc]; exact ⟨by simp, by simp⟩
  · intro e he
    rcases List.mem_cons.1 he with rfl | he
    · exact ⟨h1, o1⟩
    · cases he
theorem alike_two {s1 : Int} {a1 : Option Addr} {n1 c1 : Nat} {x1 : List Nat} {s2 : Int} {a2 : Option Addr} {n2 c2 : Nat} {x2 : List Nat} (h : alikeE s1 [⟨s1, a1, n1, c1, x1⟩, ⟨s2, a2, n2, c2, x2⟩] = 0) : MayS s1 x1 = true ∧ MayS s2 x2 = true ∧ s1 = s2 := by
  obtain ⟨_, h2⟩ := alike_zero h
  have k1 := h2 ⟨s1, a1, n1, c1, x1⟩ (by simp)
  have k2 := h2 ⟨s2, a2, n2, c2, x2⟩ (by simp)
  exact ⟨k1.1, k2.1, k2.2.symm⟩
theorem two_alike {s1 : Int} {a1 : Option Addr} {n1 c1 : Nat} {x1 : List Nat} {s2 : Int} {a2 : Option Addr} {n2 c2 : Nat} {x2 : List Nat} (h1 : MayS s1 x1 = true) (h2 : MayS s2 x2 = true) (h : s1 = s2) : alikeE s1 [⟨s1, a1, n1, c1, x1⟩, ⟨s2, a2, n2, c2, x2⟩] = 0 := by
  subst h
  simp [alikeE, notMay, offS, h1, h2, MayS.fits h1]

def gW (xs : List Nat) (i : Nat) : Nat := xs.getD i 0
theorem gW_ok {x : List Nat} (h : OkW x) (i : Nat) : gW x i < 18446744073709551616 := by
  unfold gW
  by_cases hi : i < x.length
  · have : x.getD i 0 = x[i] := by simp [List.getD, hi]
    rw [this]; exact h _ (List.getElem_mem hi)
  · simp [List.getD, List.getElem?_eq_none (show x.length ≤ i by omega)]
/-- Two sets of one universe, joined, leave nothing. -/
def leavesR (F : Nat → Nat → Nat) (s1 : Int) (x1 : List Nat) (s2 : Int) (x2 : List Nat) : Bool :=
  MayS s1 x1 && MayS s2 x2 && decide (s1 = s2) && (List.range (nW s1.toNat)).all (fun i => F (gW x1 i) (gW x2 i) == 0)
theorem leaves_no {F : Nat → Nat → Nat} {s1 : Int} {x1 : List Nat} {s2 : Int} {x2 : List Nat} (h : MayS s1 x1 = true → MayS s2 x2 = true → s1 = s2 → False) : leavesR F s1 x1 s2 x2 = false := by
  cases hh : leavesR F s1 x1 s2 x2
  · rfl
  · simp only [leavesR, Bool.and_eq_true, decide_eq_true_eq] at hh
    exact (h hh.1.1.1 hh.1.1.2 hh.1.2).elim
/-- .. by bits. -/
theorem leaves_bits {F : Nat → Nat → Nat} {op : Bool → Bool → Bool} {s : Int} {x1 x2 : List Nat} (hF : ∀ x y, x < 18446744073709551616 → y < 18446744073709551616 → F x y < 18446744073709551616 ∧ ∀ j, (F x y).testBit j = op (x.testBit j) (y.testBit j))
    (h00 : op false false = false) (o1 : OkW x1) (o2 : OkW x2) (h1 : MayS s x1 = true) (h2 : MayS s x2 = true) : leavesR F s x1 s x2 = (List.range s.toNat).all (fun e => !op (hasB (gW x1) e) (hasB (gW x2) e)) := by
  rw [Bool.eq_iff_iff]
  simp only [leavesR, h1, h2, Bool.and_eq_true, decide_eq_true_eq, List.all_eq_true, List.mem_range, beq_iff_eq, Bool.not_eq_true']
  have hnw : ∀ e, e < s.toNat → e / 64 < nW s.toNat := fun e he => by unfold nW; omega
  constructor
  · intro h e he
    have k := h.2 (e / 64) (hnw e he)
    have := (hF _ _ (gW_ok o1 (e / 64)) (gW_ok o2 (e / 64))).2 (e % 64)
    rw [k] at this
    simpa [hasB] using this.symm
  · intro h
    refine ⟨⟨⟨trivial, trivial⟩, trivial⟩, fun i hi => ?_⟩
    have hb := hF _ _ (gW_ok o1 i) (gW_ok o2 i)
    apply Nat.eq_of_testBit_eq
    intro j
    rw [hb.2 j, Nat.zero_testBit]
    by_cases hj : j < 64
    · by_cases he : 64 * i + j < s.toNat
      · have k := h _ he
        unfold hasB at k
        rwa [show (64 * i + j) / 64 = i from by omega, show (64 * i + j) % 64 = j from by omega] at k
      · have z1 := MayS.zero h1 (64 * i + j) (by omega) (by rw [MayS.len h1]; omega)
        have z2 := MayS.zero h2 (64 * i + j) (by omega) (by rw [MayS.len h2]; omega)
        unfold hasB at z1 z2
        rw [show (64 * i + j) / 64 = i from by omega, show (64 * i + j) % 64 = j from by omega] at z1 z2
        show op ((x1.getD i 0).testBit j) ((x2.getD i 0).testBit j) = false
        rw [z1, z2]; exact h00
    · rw [tb_big (gW_ok o1 i) (by omega), tb_big (gW_ok o2 i) (by omega)]; exact h00
end Go.Proofs.YtbendkndnojihabDoor
