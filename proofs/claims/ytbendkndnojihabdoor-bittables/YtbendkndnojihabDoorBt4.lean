/-
  bitset.blankTable: its contract.
-/
import Derived.Test.YtbendkndnojihabDoorBx2
import Derived.Test.YtbendkndnojihabDoorBtc
namespace Go.Proofs.YtbendkndnojihabDoor
open Go.RowKit Go.Deep
set_option linter.unusedVariables false

/-- A table in new memory. -/
def NewT (w w' : World) (sz : Nat) (n : Nat) (F : Nat → Nat → Nat) (v : Value) : Prop :=
  ∃ T bs cs, v = setV sz (some ⟨T, 0, none⟩) n n ∧ TbM w.heap.size w' T n (nW sz) sz F n bs cs ∧ Below w.heap.size w w'
/-- In its loop. -/
structure BtI (w W : World) (R T Z n N sz : Nat) (F : Nat → Nat → Nat) (k : Nat) : Prop where
  tr : Two W R (.int .i64 0) (.slice none 0 0)
  tz : Two W Z (.int .i64 (sz : Int)) (.slice (some ⟨T, 0, none⟩) n n)
  tb : ∃ bs cs, TbM (R + 1) W T n N sz F k bs cs
  rge : w.heap.size ≤ R
  rlt : R + 1 ≤ W.heap.size
  bel : Below w.heap.size w W
theorem BtI.below {w W W' : World} {R T Z n N sz : Nat} {F : Nat → Nat → Nat} {k : Nat} (h : BtI w W R T Z n N sz F k) (hb : Below W.heap.size W W') : BtI w W' R T Z n N sz F k := by
  obtain ⟨bs, cs, ht⟩ := h.tb
  exact ⟨h.tr.keep hb, h.tz.keep hb, ⟨bs, cs, ht.below hb⟩, h.rge, Nat.le_trans h.rlt hb.size, h.bel.trans (hb.mono h.bel.size)⟩
theorem BtI.step {w W W1 : World} {R T Z n N sz : Nat} {F : Nat → Nat → Nat} {k : Nat} (h : BtI w W R T Z n N sz F k) (hR : T ≠ R) (hZ : T ≠ Z) (hk : k < n) {b c : Nat} (hb : Below W.heap.size W W1) (hb1 : W.heap.size ≤ b) (hb2 : b < W1.heap.size) (hf : FnW W1 b 0 N (F k)) (hc1 : N ≤ c) (hc2 : c ≤ maxLen) :
    BtI w ((W1.setCell ⟨T, k * 2, none⟩ (.int .i64 sz)).setCell ⟨T, k * 2 + 1, none⟩ (.slice (some ⟨b, 0, none⟩) N c)) R T Z n N sz F (k + 1) := by
  obtain ⟨bs, cs, ht⟩ := h.tb
  have h1 := h.below hb
  exact ⟨(h1.tr.other _ _ _ hR).other _ _ _ hR, (h1.tz.other _ _ _ hZ).other _ _ _ hZ, ⟨_, _, ht.step h.rlt hk hb hb1 hb2 hf hc1 hc2⟩, h.rge, by simpa using h1.rlt, (h1.bel.setCell (p := ⟨T, k * 2, none⟩) (by have := ht.tge; have := h.rge; simp; omega) _).setCell (p := ⟨T, k * 2 + 1, none⟩) (by have := ht.tge; have := h.rge; simp; omega) _⟩
theorem BtI.start {w wa wb wc : World} (n N sz : Nat) (F : Nat → Nat → Nat) (hwa : w.alloc (.cells #[.int .i64 0, .slice none 0 0] 24) = wa) (hwb : wa.alloc (.cells (madeCells #[.int .i64 0, .slice none 0 0] (n * 2)) 35) = wb)
    (hwc : wb.alloc (.cells #[.int .i64 (sz : Int), .slice (some ⟨wa.heap.size, 0, none⟩) n n] 24) = wc) : BtI w wc w.heap.size wa.heap.size wb.heap.size n N sz F 0 ∧ w.heap.size < wa.heap.size ∧ wa.heap.size < wb.heap.size ∧ wb.heap.size < wc.heap.size := by
  have ba : Below w.heap.size w wa := by rw [← hwa]; exact (Below.refl _ _).alloc (Nat.le_refl _) _
  have bb : Below wa.heap.size wa wb := by rw [← hwb]; exact (Below.refl _ _).alloc (Nat.le_refl _) _
  have bc : Below wb.heap.size wb wc := by rw [← hwc]; exact (Below.refl _ _).alloc (Nat.le_refl _) _
  have la : w.heap.size < wa.heap.size := by rw [← hwa]; simp
  refine ⟨⟨?_, ?_, ⟨fun _ => 0, fun _ => 0, TbM.below (W := wb) ?_ bc⟩, Nat.le_refl _, by have := bb.size; have := bc.size; omega, (ba.trans (bb.mono ba.size)).trans (bc.mono (Nat.le_trans ba.size bb.size))⟩, la, by rw [← hwb]; simp, by rw [← hwc]; simp⟩
  · refine Two.keep (Two.keep (w := wa) ?_ bb) bc
    rw [← hwa]; exact Two.made _ _ _ _
  · rw [← hwc]; exact Two.made _ _ _ _
  · rw [← hwb]; exact TbM.made wa n N sz F la
/-- Its end. -/
theorem TbM.mono {B B' : Nat} {W : World} {T n N : Nat} {sz : Int} {F : Nat → Nat → Nat} {k : Nat} {bs cs : Nat → Nat} (h : TbM B W T n N sz F k bs cs) (hB : B' ≤ B) : TbM B' W T n N sz F k bs cs :=
  ⟨Nat.le_trans hB h.tge, h.tlt, h.row, h.rest, h.froz, h.words, fun i hi => ⟨Nat.le_trans hB (h.ge i hi).1, (h.ge i hi).2⟩, h.apart, h.cap⟩
theorem BtI.done {w W : World} {R T Z n sz : Nat} {F : Nat → Nat → Nat} (h : BtI w W R T Z n (nW sz) sz F n) : NewT w ((W.setCell ⟨R, 0, none⟩ (.int .i64 sz)).setCell ⟨R, 1, none⟩ (.slice (some ⟨T, 0, none⟩) n n)) sz n F (setV sz (some ⟨T, 0, none⟩) n n) := by
  obtain ⟨bs, cs, ht⟩ := h.tb
  have := ht.tge
  have hr := h.rge
  exact ⟨T, bs, cs, rfl, (ht.chg (two_chg W R _ _) (by omega) (fun i hi => by have := (ht.ge i hi).1; omega)).mono (by omega), two_below h.bel R h.rge _ _⟩

set_option maxHeartbeats 4000000 in
/-- bitset.blankTable. -/
theorem blankTable_any (sz n : Nat) (w : World) (hsz : sz ≤ 4096) (hn : n ≤ 4096) : Calls Tryd.prog 43 #[.int .i64 (sz : Int), .int .i64 (n : Int)] w fun r w' => ∃ v, r = .returned v ∧ NewT w w' sz n (fun _ _ => 0) v := by
  have hm := make_sets n (by omega)
  obtain ⟨wa, hwa⟩ : ∃ x, w.alloc (.cells #[.int .i64 0, .slice none 0 0] 24) = x := ⟨_, rfl⟩
  obtain ⟨wb, hwb⟩ : ∃ x, wa.alloc (.cells (madeCells #[.int .i64 0, .slice none 0 0] (n * 2)) 35) = x := ⟨_, rfl⟩
  obtain ⟨wc, hwc⟩ : ∃ x, wb.alloc (.cells #[.int .i64 (sz : Int), .slice (some ⟨wa.heap.size, 0, none⟩) n n] 24) = x := ⟨_, rfl⟩
  obtain ⟨hS, l1, l2, l3⟩ := BtI.start n (nW sz) sz (fun _ _ => 0) hwa hwb hwc
  have HS := hide hS
  have z1 := hS.tz.c1
  clear hS
  go_enter Tryd.func43, Tryd.ntmps43
  go_wp2_with fail
  clear z1 hwa hwb hwc hm
  go_loopw [14, 6] (fun i _ wr => ∃ k : Nat, k ≤ n ∧ i = .int .i64 k ∧ BtI w wr w.heap.size wa.heap.size wb.heap.size n (nW sz) sz (fun _ _ => 0) k) (fun i _ _ => n - (intOf i).toNat)
  case atStart => exact ⟨0, Nat.zero_le _, rfl, unhide HS⟩
  case round =>
    obtain ⟨k, hk, rfl, hst⟩ := hrel
    by_cases hlt : k < n
    · have hlt' : (k : Int) < (n : Int) := by omega
      have z1 := hst.tz.c1
      have HI := hide hst
      clear hst
      go_wp2_with fail
      go_region_with (
        go_at_call 68
        refine (blank_any sz _ hsz).mono ?_
        rintro _ w1 ⟨v, rfl, b, c, rfl, hc1, hc2, hb1, hb2, hfn, hbel⟩
        unfold setV
        have hI1 := (unhide HI).below ((Below.refl _ _).drew.trans hbel)
        have y1 := hI1.tz.c1
        obtain ⟨bs, cs, ht⟩ := hI1.tb
        have t0 := (ht.rest k (Nat.le_refl _) hlt).1
        have t1 := (ht.rest k (Nat.le_refl _) hlt).2
        have g0 := ht.froz (k * 2) (by omega)
        have g1 := ht.froz (k * 2 + 1) (by omega)
        have HS2 := hide ((unhide HI).step (by omega) (by omega) hlt ((Below.refl _ _).drew.trans hbel) hb1 hb2 hfn hc1 hc2)
        clear ht hI1)
      all_goals
        go_wp2_with fail
        exact ⟨⟨k + 1, by omega, by go_num, unhide HS2⟩, by simp [intOf]; omega⟩
    · have hlt' : ¬ (k : Int) < (n : Int) := by omega
      have hkn : k = n := by omega
      subst hkn
      have z0 := hst.tz.c0
      have z1 := hst.tz.c1
      have r0 := hst.tr.c0
      have r1 := hst.tr.c1
      have f0 := hst.tr.f0
      have f1 := hst.tr.f1
      have T3 := hst.tr.set (.int .i64 sz) (.slice (some ⟨wa.heap.size, 0, none⟩) k k)
      have p0 := T3.c0
      have p1 := T3.c1
      have HD := hide hst.done
      clear hst T3
      go_wp2_with fail
      refine bodyPost_ret (by simp [results, Tryd.results43, go_sem, p0, p1]; try rfl) rfl ?_
      exact ⟨_, rfl, unhide HD⟩
end Go.Proofs.YtbendkndnojihabDoor

namespace Go.Proofs.YtbendkndnojihabDoor
open Go.RowKit Go.Deep
set_option linter.unusedVariables false

def rangeR (size low high : Int) : Int × List Nat × Int :=
  if fitsI size then (size, wordsL size.toNat (fun x => decide (low.toNat ≤ x) && decide ((x : Int) < high) && decide (x < size.toNat)), 0) else (0, [], 60)

/-- In the loop. -/
structure RgLp (w wr : World) (R Z b cb N : Nat) (sz : Nat) (P : Nat → Bool) : Prop where
  res : Two wr R (.int .i64 0) (.slice none 0 0)
  two : Two wr Z (.int .i64 sz) (.slice (some ⟨b, 0, none⟩) N cb)
  rep : ∃ f, FnW wr b 0 N f ∧ RepB N f P
  bel : Below w.heap.size w wr
theorem RgLp.step {w wr w' : World} {R Z b cb N sz : Nat} {P : Nat → Bool} {e : Nat} {f : Nat → Nat} (h : RgLp w wr R Z b cb N sz P) (heN : e / 64 < N) (hR : R ≠ b) (hZ : Z ≠ b) (hb : w.heap.size ≤ b)
    (hrep : RepB N f P)
    (hf : FnW w' b 0 N (fun i => if i = e / 64 then f (e / 64) ||| 2 ^ (e % 64) else f i)) (hc : Chg (fun j => j = b) wr w') : RgLp w w' R Z b cb N sz (fun x => x == e || P x) :=
  ⟨h.res.chg hc hR, h.two.chg hc hZ, ⟨_, hf, hrep.put e heN⟩, h.bel.trans (hc.below h.bel.size (fun j hj => by omega))⟩
theorem RgLp.congr {w wr : World} {R Z b cb N sz : Nat} {P Q : Nat → Bool} (h : RgLp w wr R Z b cb N sz P) (e : ∀ x, x < 64 * N → P x = Q x) : RgLp w wr R Z b cb N sz Q :=
  ⟨h.res, h.two, by obtain ⟨f, h1, h2⟩ := h.rep; exact ⟨f, h1, h2.congr (fun _ _ => rfl) e⟩, h.bel⟩

set_option maxHeartbeats 2000000 in
/-- bitset.Range. -/
theorem range_any (size low high : Int) (w : World) (hl : low ≤ 9223372036854775807) :
    Calls Tryd.prog 49 #[.int .i64 size, .int .i64 low, .int .i64 high] w fun e w' => ResS w w' (rangeR size low high) e := by
  cases hf : fitsI size
  · have e0 : rangeR size low high = (0, [], 60) := by simp [rangeR, hf]
    rw [e0]
    have K := fits_any size
    rw [hf] at K
    have HK := hide K
    clear K hf
    go_enter Tryd.func49, Tryd.ntmps49
    go_wp2_with fail
    refine (unhide HK _).mono ?_
    rintro _ w1 ⟨rfl, rfl⟩
    go_wp2_with fail
    refine bodyPost_ret (by simp [results, Tryd.results49, go_sem]; try rfl) rfl ?_
    exact resS_zero ((Below.refl _ _).alloc (Nat.le_refl _) _)
  · have K := fits_any size
    rw [hf] at K
    obtain ⟨sz, rfl, hsz⟩ := fitsI_nat hf
    have HK := hide K
    have HF := hide hf
    have hle64 : nW sz ≤ 64 := by unfold nW; omega
    have HN := hide (show ∀ e, e < sz → e / 64 < nW sz from fun e he => by unfold nW; omega)
    clear K hf
    go_enter Tryd.func49, Tryd.ntmps49
    go_wp2_with fail
    refine (unhide HK _).mono ?_
    rintro _ w1 ⟨rfl, rfl⟩
    clear HK
    go_wp2_with fail
    obtain ⟨wa, hwa⟩ : ∃ wa, w.alloc (.cells #[.int .i64 0, .slice none 0 0] 35) = wa := ⟨_, rfl⟩
    rw [hwa]
    have HR := hide (show Two wa w.heap.size (.int .i64 0) (.slice none 0 0) by rw [← hwa]; exact Two.made _ _ _ _)
    have HB := hide (show Below w.heap.size w wa by rw [← hwa]; exact (Below.refl _ _).alloc (Nat.le_refl _) _)
    clear hwa
    refine (blank_any sz wa hsz).mono ?_
    rintro _ wb ⟨v, rfl, b, cb, rfl, hc1, hc2, hb1, hb2, hfn, hbel⟩
    unfold setV
    have HW := hide (And.intro hc1 (And.intro hc2 (And.intro hb1 (And.intro hb2 (And.intro hfn hbel)))))
    have hcb : cb ≤ 9223372036854775807 := by unfold maxLen at hc2; omega
    clear hc1 hc2 hb1 hb2 hfn hbel
    go_wp2_with fail
    all_goals
      have hzR := (unhide HR).lt
      have hbR : w.heap.size ≠ b := by have := (unhide HW).2.2.1; omega
      have HT := hide (show RgLp w (wb.alloc (.cells #[.int .i64 sz, .slice (some ⟨b, 0, none⟩) (nW sz) cb] 35)) w.heap.size wb.heap.size b cb (nW sz) sz (fun x => decide (low.toNat ≤ x) && decide (x < low.toNat)) by
        obtain ⟨hc1, hc2, hb1, hb2, hfn, hbel⟩ := unhide HW
        have hal : Below wb.heap.size wb (wb.alloc (.cells #[.int .i64 sz, .slice (some ⟨b, 0, none⟩) (nW sz) cb] 35)) := (Below.refl _ _).alloc (Nat.le_refl _) _
        refine ⟨((unhide HR).keep hbel).keep hal, Two.made _ _ _ _, ⟨_, hfn.below hal, (RepB.zero (nW sz)).congr (fun _ _ => rfl) (fun x _ => ?_)⟩, ?_⟩
        · symm
          simp
        · exact ((unhide HB).trans (hbel.mono (unhide HB).size)).trans (hal.mono (by have := (unhide HB).size; have := hbel.size; omega)))
      have hbb : b < wb.heap.size := (unhide HW).2.2.2.1
      have hbw : w.heap.size ≤ b := by have := (unhide HW).2.2.1; omega
      generalize hZ : wb.heap.size = Z at *
      generalize wb.alloc (.cells #[.int .i64 sz, .slice (some ⟨b, 0, none⟩) (nW sz) cb] 35) = wc at *
      obtain ⟨N, hN⟩ : ∃ N, nW sz = N := ⟨_, rfl⟩
      rw [hN] at HN hle64 HT ⊢
      have HCB := hide (show nW sz = N ∧ nW sz ≤ cb ∧ cb ≤ maxLen from ⟨hN, (unhide HW).1, (unhide HW).2.1⟩)
      clear HW HR HB hZ hN
      go_loopw [9] (fun i wr => ∃ e : Nat, i = .int .i64 e ∧ low.toNat ≤ e ∧ (e = low.toNat ∨ (e ≤ sz ∧ (e : Int) ≤ high)) ∧ RgLp w wr w.heap.size Z b cb N sz (fun x => decide (low.toNat ≤ x) && decide (x < e))) (fun i _ => sz - (intOf i).toNat)
      case atStart =>
        refine ⟨low.toNat, ?_, Nat.le_refl _, .inl rfl, unhide HT⟩
        congr 1
        omega
      case round =>
        obtain ⟨e, rfl, he1, he2, hst⟩ := hrel
        have t0 := hst.two.c0
        have t1 := hst.two.c1
        have r0 := hst.res.c0
        have r1 := hst.res.c1
        have q0 := hst.res.f0
        have q1 := hst.res.f1
        have HS := hide hst
        clear hst
        by_cases hin : (e : Int) < high ∧ e < sz
        · obtain ⟨hi1, hi2⟩ := hin
          have hi2' : (e : Int) < (sz : Int) := by omega
          obtain ⟨f, hfn, hrep⟩ := (unhide HS).rep
          have heN := unhide HN e hi2
          have HP := hide (put_any sz b N cb f e wr hfn (fun i hi => (hrep i hi).1) heN hle64)
          unfold setV at HP
          have HE := hide (And.intro heN hrep)
          clear hfn hrep
          go_wp2_with fail
          all_goals
            refine (unhide HP).mono ?_
            rintro _ w2 ⟨rfl, hf2, hc2⟩
            have HS2 := hide (((unhide HS).step (unhide HE).1 hbR (by omega) hbw (unhide HE).2 hf2 hc2).congr (Q := fun x => decide (low.toNat ≤ x) && decide (x < e + 1)) (fun x _ => by
              rw [Bool.eq_iff_iff]
              simp
              omega))
            clear hf2 hc2 HP HE HS t0 t1 r0 r1 q0 q1
            go_wp2_with fail
            exact ⟨⟨e + 1, by go_num, by omega, .inr (by omega), unhide HS2⟩, by simp [intOf]; omega⟩
        · have HT3 := hide (two_below (unhide HS).bel w.heap.size (Nat.le_refl _) (.int .i64 sz) (.slice (some ⟨b, 0, none⟩) N cb))
          have T3 := (unhide HS).res.set (.int .i64 sz) (.slice (some ⟨b, 0, none⟩) N cb)
          have p0 := T3.c0
          have p1 := T3.c1
          clear T3
          have hin' : high ≤ (e : Int) ∨ (sz : Int) ≤ (e : Int) := by omega
          clear hin
          rcases hin' with hin | hin
          all_goals
            go_wp2_with fail
            all_goals
              refine bodyPost_ret (by simp [results, Tryd.results49, go_sem, p0, p1]; try rfl) rfl ?_
              obtain ⟨f, hfn, hrep⟩ := (unhide HS).rep
              have hE : rangeR sz low high = ((sz : Int), wordsL sz (fun x => decide (low.toNat ≤ x) && decide ((x : Int) < high) && decide (x < sz)), 0) := by simp [rangeR, unhide HF]
              rw [hE]
              obtain ⟨hcN, hcb1, hcb2⟩ := unhide HCB
              subst hcN
              refine resS_set (hfn.two _ _ _ hbR) (hrep.congr (fun _ _ => rfl) (fun x _ => ?_)) hcb1 hcb2 (unhide HT3)
              rw [Bool.eq_iff_iff]
              simp
              omega
end Go.Proofs.YtbendkndnojihabDoor
