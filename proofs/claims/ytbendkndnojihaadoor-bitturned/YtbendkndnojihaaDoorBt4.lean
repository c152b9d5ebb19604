/-
  bitset.blankTable: its contract.
-/
import Derived.Test.YtbendkndnojihaaDoorBx2
import Derived.Test.YtbendkndnojihaaDoorBt3
namespace Go.Proofs.YtbendkndnojihaaDoor
open Go.RowKit Go.Deep
set_option linter.unusedVariables false

/-- A table in new memory. -/
def NewT (w w' : World) (sz : Nat) (n : Nat) (F : Nat → Nat → Nat) (v : Value) : Prop :=
  ∃ T bs cs, v = setV sz (some ⟨T, 0, none⟩) n n ∧ TbM w.heap.size w' T n (nW sz) sz F n bs cs ∧ Below w.heap.size w w'
/-- In its loop. -/
structure BtI (w W : World) (R T Z n N sz : Nat) (F : Nat → Nat → Nat) (k : Nat) : Prop where
  tr : Two W R (.int .i64 0) (.slice none 0 0)
  tz : Two W Z (.int .i64 (sz : Int)) (.slice (some ⟨T, 0, none⟩) n n)
  tb : ∃ bs cs, TbM (R + 1) W T n N sz F k bs cs
  rge : w.heap.size ≤ R
  rlt : R + 1 ≤ W.heap.size
  bel : Below w.heap.size w W
theorem BtI.below {w W W' : World} {R T Z n N sz : Nat} {F : Nat → Nat → Nat} {k : Nat} (h : BtI w W R T Z n N sz F k) (hb : Below W.heap.size W W') : BtI w W' R T Z n N sz F k := by
  obtain ⟨bs, cs, ht⟩ := h.tb
  exact ⟨h.tr.keep hb, h.tz.keep hb, ⟨bs, cs, ht.below hb⟩, h.rge, Nat.le_trans h.rlt hb.size, h.bel.trans (hb.mono h.bel.size)⟩
theorem BtI.step {w W W1 : World} {R T Z n N sz : Nat} {F : Nat → Nat → Nat} {k : Nat} (h : BtI w W R T Z n N sz F k) (hR : T ≠ R) (hZ : T ≠ Z) (hk : k < n) {b c : Nat} (hb : Below W.heap.size W W1) (hb1 : W.heap.size ≤ b) (hb2 : b < W1.heap.size) (hf : FnW W1 b 0 N (F k)) (hc1 : N ≤ c) (hc2 : c ≤ maxLen) :
    BtI w ((W1.setCell ⟨T, k * 2, none⟩ (.int .i64 sz)).setCell ⟨T, k * 2 + 1, none⟩ (.slice (some ⟨b, 0, none⟩) N c)) R T Z n N sz F (k + 1) := by
  obtain ⟨bs, cs, ht⟩ := h.tb
  have h1 := h.below hb
  exact ⟨(h1.tr.other _ _ _ hR).other _ _ _ hR, (h1.tz.other _ _ _ hZ).other _ _ _ hZ, ⟨_, _, ht.step h.rlt hk hb hb1 hb2 hf hc1 hc2⟩, h.rge, by simpa using h1.rlt, (h1.bel.setCell (p := ⟨T, k * 2, none⟩) (by have := ht.tge; have := h.rge; simp; omega) _).setCell (p := ⟨T, k * 2 + 1, none⟩) (by have := ht.tge; have := h.rge; simp; omega) _⟩
theorem BtI.start {w wa wb wc : World} (n N sz : Nat) (F : Nat → Nat → Nat) (hwa : w.alloc (.cells #[.int .i64 0, .slice none 0 0] 56) = wa) (hwb : wa.alloc (.cells (madeCells #[.int .i64 0, .slice none 0 0] (n * 2)) 24) = wb)
    (hwc : wb.alloc (.cells #[.int .i64 (sz : Int), .slice (some ⟨wa.heap.size, 0, none⟩) n n] 56) = wc) : BtI w wc w.heap.size wa.heap.size wb.heap.size n N sz F 0 ∧ w.heap.size < wa.heap.size ∧ wa.heap.size < wb.heap.size ∧ wb.heap.size < wc.heap.size := by
  have ba : Below w.heap.size w wa := by rw [← hwa]; exact (Below.refl _ _).alloc (Nat.le_refl _) _
  have bb : Below wa.heap.size wa wb := by rw [← hwb]; exact (Below.refl _ _).alloc (Nat.le_refl _) _
  have bc : Below wb.heap.size wb wc := by rw [← hwc]; exact (Below.refl _ _).alloc (Nat.le_refl _) _
  have la : w.heap.size < wa.heap.size := by rw [← hwa]; simp
  refine ⟨⟨?_, ?_, ⟨fun _ => 0, fun _ => 0, TbM.below (W := wb) ?_ bc⟩, Nat.le_refl _, by have := bb.size; have := bc.size; omega, (ba.trans (bb.mono ba.size)).trans (bc.mono (Nat.le_trans ba.size bb.size))⟩, la, by rw [← hwb]; simp, by rw [← hwc]; simp⟩
  · refine Two.keep (Two.keep (w := wa) ?_ bb) bc
    rw [← hwa]; exact Two.made _ _ _ _
  · rw [← hwc]; exact Two.made _ _ _ _
  · rw [← hwb]; exact TbM.made wa n N sz F la
/-- Its end. -/
theorem TbM.mono {B B' : Nat} {W : World} {T n N : Nat} {sz : Int} {F : Nat → Nat → Nat} {k : Nat} {bs cs : Nat → Nat} (h : TbM B W T n N sz F k bs cs) (hB : B' ≤ B) : TbM B' W T n N sz F k bs cs :=
  ⟨Nat.le_trans hB h.tge, h.tlt, h.row, h.rest, h.froz, h.words, fun i hi => ⟨Nat.le_trans hB (h.ge i hi).1, (h.ge i hi).2⟩, h.apart, h.cap⟩
theorem BtI.done {w W : World} {R T Z n sz : Nat} {F : Nat → Nat → Nat} (h : BtI w W R T Z n (nW sz) sz F n) : NewT w ((W.setCell ⟨R, 0, none⟩ (.int .i64 sz)).setCell ⟨R, 1, none⟩ (.slice (some ⟨T, 0, none⟩) n n)) sz n F (setV sz (some ⟨T, 0, none⟩) n n) := by
  obtain ⟨bs, cs, ht⟩ := h.tb
  have := ht.tge
  have hr := h.rge
  exact ⟨T, bs, cs, rfl, (ht.chg (two_chg W R _ _) (by omega) (fun i hi => by have := (ht.ge i hi).1; omega)).mono (by omega), two_below h.bel R h.rge _ _⟩

set_option maxHeartbeats 4000000 in
/-- bitset.blankTable. -/
theorem blankTable_any (sz n : Nat) (w : World) (hsz : sz ≤ 4096) (hn : n ≤ 4096) : Calls Tryd.prog 61 #[.int .i64 (sz : Int), .int .i64 (n : Int)] w fun r w' => ∃ v, r = .returned v ∧ NewT w w' sz n (fun _ _ => 0) v := by
  have hm := make_sets n (by omega)
  obtain ⟨wa, hwa⟩ : ∃ x, w.alloc (.cells #[.int .i64 0, .slice none 0 0] 56) = x := ⟨_, rfl⟩
  obtain ⟨wb, hwb⟩ : ∃ x, wa.alloc (.cells (madeCells #[.int .i64 0, .slice none 0 0] (n * 2)) 24) = x := ⟨_, rfl⟩
  obtain ⟨wc, hwc⟩ : ∃ x, wb.alloc (.cells #[.int .i64 (sz : Int), .slice (some ⟨wa.heap.size, 0, none⟩) n n] 56) = x := ⟨_, rfl⟩
  obtain ⟨hS, l1, l2, l3⟩ := BtI.start n (nW sz) sz (fun _ _ => 0) hwa hwb hwc
  have HS := hide hS
  have z1 := hS.tz.c1
  clear hS
  go_enter Tryd.func61, Tryd.ntmps61
  go_wp2_with fail
  clear z1 hwa hwb hwc hm
  go_loopw [14, 6] (fun i _ wr => ∃ k : Nat, k ≤ n ∧ i = .int .i64 k ∧ BtI w wr w.heap.size wa.heap.size wb.heap.size n (nW sz) sz (fun _ _ => 0) k) (fun i _ _ => n - (intOf i).toNat)
  case atStart => exact ⟨0, Nat.zero_le _, rfl, unhide HS⟩
  case round =>
    obtain ⟨k, hk, rfl, hst⟩ := hrel
    by_cases hlt : k < n
    · have hlt' : (k : Int) < (n : Int) := by omega
      have z1 := hst.tz.c1
      have HI := hide hst
      clear hst
      go_wp2_with fail
      go_region_with (
        go_at_call 48
        refine (blank_any sz _ hsz).mono ?_
        rintro _ w1 ⟨v, rfl, b, c, rfl, hc1, hc2, hb1, hb2, hfn, hbel⟩
        unfold setV
        have hI1 := (unhide HI).below ((Below.refl _ _).drew.trans hbel)
        have y1 := hI1.tz.c1
        obtain ⟨bs, cs, ht⟩ := hI1.tb
        have t0 := (ht.rest k (Nat.le_refl _) hlt).1
        have t1 := (ht.rest k (Nat.le_refl _) hlt).2
        have g0 := ht.froz (k * 2) (by omega)
        have g1 := ht.froz (k * 2 + 1) (by omega)
        have HS2 := hide ((unhide HI).step (by omega) (by omega) hlt ((Below.refl _ _).drew.trans hbel) hb1 hb2 hfn hc1 hc2)
        clear ht hI1)
      all_goals
        go_wp2_with fail
        exact ⟨⟨k + 1, by omega, by go_num, unhide HS2⟩, by simp [intOf]; omega⟩
    · have hlt' : ¬ (k : Int) < (n : Int) := by omega
      have hkn : k = n := by omega
      subst hkn
      have z0 := hst.tz.c0
      have z1 := hst.tz.c1
      have r0 := hst.tr.c0
      have r1 := hst.tr.c1
      have f0 := hst.tr.f0
      have f1 := hst.tr.f1
      have T3 := hst.tr.set (.int .i64 sz) (.slice (some ⟨wa.heap.size, 0, none⟩) k k)
      have p0 := T3.c0
      have p1 := T3.c1
      have HD := hide hst.done
      clear hst T3
      go_wp2_with fail
      refine bodyPost_ret (by simp [results, Tryd.results61, go_sem, p0, p1]; try rfl) rfl ?_
      exact ⟨_, rfl, unhide HD⟩
end Go.Proofs.YtbendkndnojihaaDoor

namespace Go.Proofs.YtbendkndnojihaaDoor
open Go.RowKit Go.Deep
set_option linter.unusedVariables false

def rangeR (size low high : Int) : Int × List Nat × Int :=
  if fitsI size then (size, wordsL size.toNat (fun x => decide (low.toNat ≤ x) && decide ((x : Int) < high) && decide (x < size.toNat)), 0) else (0, [], 60)

/-- In the loop. -/
structure RgLp (w wr : World) (R Z b cb N : Nat) (sz : Nat) (P : Nat → Bool) : Prop where
  res : Two wr R (.int .i64 0) (.slice none 0 0)
  two : Two wr Z (.int .i64 sz) (.slice (some ⟨b, 0, none⟩) N cb)
  rep : ∃ f, FnW wr b 0 N f ∧ RepB N f P
  bel : Below w.heap.size w wr
theorem RgLp.step {w wr w' : World} {R Z b cb N sz : Nat} {P : Nat → Bool} {e : Nat} {f : Nat → Nat} (h : RgLp w wr R Z b cb N sz P) (heN : e / 64 < N) (hR : R ≠ b) (hZ : Z ≠ b) (hb : w.heap.size ≤ b)
    (hrep : RepB N f P)
    (hf : FnW w' b 0 N (fun i => if i = e / 64 then f (e / 64) ||| 2 ^ (e % 64) else f i)) (hc : Chg (fun j => j = b) wr w') : RgLp w w' R Z b cb N sz (fun x => x == e || P x) :=
  ⟨h.res.chg hc hR, h.two.chg hc hZ, ⟨_, hf, hrep.put e heN⟩, h.bel.trans (hc.below h.bel.size (fun j hj => by omega))⟩
theorem RgLp.congr {w wr : World} {R Z b cb N sz : Nat} {P Q : Nat → Bool} (h : RgLp w wr R Z b cb N sz P) (e : ∀ x, x < 64 * N → P x = Q x) : RgLp w wr R Z b cb N sz Q :=
  ⟨h.res, h.two, by obtain ⟨f, h1, h2⟩ := h.rep; exact ⟨f, h1, h2.congr (fun _ _ => rfl) e⟩, h.bel⟩

end Go.Proofs.YtbendkndnojihaaDoor
