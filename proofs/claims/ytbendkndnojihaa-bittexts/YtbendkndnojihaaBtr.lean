/-
  bitset.joined, by andNot: its contract.
-/
import Derived.Test.YtbendkndnojihaaBto
import Derived.Test.YtbendkndnojihaaBtm
namespace Go.Proofs.Ytbendkndnojihaa
open Go.RowKit Go.Deep
set_option linter.unusedVariables false

def op_andNot (x y : Bool) : Bool := x && !y

set_option maxHeartbeats 8000000 in
/-- bitset.joined, by andNot. -/
theorem joined_andNot (size : Int) (a : Option Addr) (n c : Nat) (L : List SetC) (w : World) (h : SlS w a n c L) :
    Calls Try.prog 65 #[.int .i64 size, .slice a n c, .int .u64 18446744073709551615, .func (.func 64) #[] #[]] w fun r w' => ResS w w' (joinedR op_andNot true size L) r := by
  have hle := h.le
  have hcap := h.cap
  unfold maxLen at hcap
  obtain ⟨wa, hwa⟩ : ∃ wa, w.alloc (.cells #[.int .i64 0, .slice none 0 0] 24) = wa := ⟨_, rfl⟩
  have tR : Two wa w.heap.size (.int .i64 0) (.slice none 0 0) := by rw [← hwa]; exact Two.made _ _ _ _
  have hB : Below w.heap.size w wa := by rw [← hwa]; exact (Below.refl _ _).alloc (Nat.le_refl _) _
  have K := alike_any size a n c L wa (h.below hB)
  have HR := hide (And.intro tR hB)
  have hlt1 := tR.lt
  by_cases hz : alikeE size L = 0
  · obtain ⟨hfit, hall⟩ := alike_zero hz
    obtain ⟨sz, rfl, hsz⟩ := fitsI_nat hfit
    have hE : joinedR op_andNot true sz L = ((sz : Int), wordsL sz (PJ op_andNot true sz L), 0) := by simp [joinedR, hz]
    rw [hE]
    rw [hz] at K
    have HK := hide K
    have HAll := hide hall
    have HSl := hide h
    have HLn := hide h.len
    have hle64 : nW sz ≤ 64 := by unfold nW; omega
    clear K hz hall hfit hE tR hB h
    go_enter Try.func65, Try.ntmps65
    go_wp2_with fail
    refine (unhide HK).mono ?_
    rintro _ w1 ⟨rfl, hb1⟩
    have HR1 := hide (And.intro ((unhide HR).1.keep hb1) ((unhide HR).2.trans (hb1.mono (by omega))))
    clear hb1 HK HR
    go_wp2_with fail
    refine (blank_any sz w1 hsz).mono ?_
    rintro _ wb ⟨v, rfl, b, cb, rfl, hc1, hc2, hb1, hb2, hfn, hbel⟩
    unfold setV
    have hRl := (unhide HR1).1.lt
    have hw1 := (unhide HR1).2.size
    have hal : Below wb.heap.size wb (wb.alloc (.cells #[.int .i64 sz, .slice (some ⟨b, 0, none⟩) (nW sz) cb] 24)) := (Below.refl _ _).alloc (Nat.le_refl _) _
    have HT := hide (show RgLp w (wb.alloc (.cells #[.int .i64 sz, .slice (some ⟨b, 0, none⟩) (nW sz) cb] 24)) w.heap.size wb.heap.size b cb (nW sz) sz (fun x => decide (x < 64 * 0) && true) from
      ⟨((unhide HR1).1.keep hbel).keep hal, Two.made _ _ _ _, ⟨_, hfn.below hal, (RepB.zero (nW sz)).congr (fun _ _ => rfl) (fun x _ => by simp)⟩, ((unhide HR1).2.trans (hbel.mono hw1)).trans (hal.mono (by have := hbel.size; omega))⟩)
    have hcb : cb ≤ 9223372036854775807 := by unfold maxLen at hc2; omega
    have HC := hide (And.intro hc1 hc2)
    clear hal hfn hbel hc1 hc2 HR1
    go_wp2_with fail
    have hbZ : wb.heap.size ≠ b := by omega
    have hbR : w.heap.size ≠ b := by omega
    have hbw : w.heap.size ≤ b := by omega
    have hRZ : w.heap.size < wb.heap.size := by omega
    clear hb1 hb2 hRl hw1
    generalize wb.alloc (.cells #[.int .i64 sz, .slice (some ⟨b, 0, none⟩) (nW sz) cb] 24) = wc at *
    generalize wb.heap.size = Z at *
    obtain ⟨N, hN⟩ : ∃ N, nW sz = N := ⟨_, rfl⟩
    have HNN := hide hN
    rw [hN] at HT hle64 HC ⊢
    clear hN
    go_loopw [27, 12] (fun i _ wr => ∃ k : Nat, k ≤ N ∧ i = .int .i64 k ∧ RgLp w wr w.heap.size Z b cb N sz (fun x => decide (x < 64 * k) && true)) (fun i _ _ => N - (intOf i).toNat)
    case atStart => exact ⟨0, Nat.zero_le _, rfl, unhide HT⟩
    case round =>
      obtain ⟨k, hk, rfl, hst⟩ := hrel
      have t0 := hst.two.c0
      have t1 := hst.two.c1
      have HS := hide hst
      by_cases hlt : k < N
      · have hlt' : (k : Int) < (N : Int) := by omega
        obtain ⟨f, hfn, hrep⟩ := hst.rep
        have g1 := (hfn k hlt).1
        have g2 := (hfn k hlt).2
        rw [Nat.zero_add] at g1 g2
        unfold vU at g1
        have HS2 := hide (show RgLp w (wr.setCell ⟨b, k, none⟩ (.int .u64 18446744073709551615)) w.heap.size Z b cb N sz (fun x => decide (x < 64 * (k + 1)) && true) by
          have hs := hfn.set k 18446744073709551615 hlt
          rw [Nat.zero_add] at hs
          exact hst.chg hbR hbZ hbw (fill_step (v := 18446744073709551615) rfl hrep) hs (Chg.of_set (S := fun j => j = b) _ _ _ _ rfl))
        generalize f k = old at g1
        clear hst hfn hrep
        go_wp2_with fail
        exact ⟨⟨k + 1, by omega, by go_num, unhide HS2⟩, by simp [intOf]; omega⟩
      · have hlt' : ¬ (k : Int) < (N : Int) := by omega
        have hkn : k = N := by omega
        subst hkn
        obtain ⟨f, hfn, hrep⟩ := hst.rep
        have K := trim_any sz b k cb f wr hsz hfn (fun i hi => (hrep i hi).1) hle64
        unfold setV at K
        have HK := hide K
        have HRp := hide hrep
        clear K hst hfn hrep
        go_wp2_with fail
        refine (unhide HK).mono ?_
        rintro _ w3 ⟨rfl, hf3, hc3⟩
        have HS3 := hide (show RgLp w w3 w.heap.size Z b cb k sz (PJ op_andNot true sz (L.take 0)) by
          have e := unhide HNN
          subst e
          refine ((unhide HS).chg hbR hbZ hbw (unhide HRp).trim hf3 hc3).congr (fun x hx => ?_)
          show ((decide (x < 64 * nW sz) && true) && decide (x < sz)) = (true && decide (x < sz))
          rw [show decide (x < 64 * nW sz) = true from by simpa using hx, Bool.true_and])
        clear hf3 hc3 HK HS HRp t0 t1
        go_wp2_with fail
        go_loopw [40, 14] (fun i _ wr => ∃ j : Nat, j ≤ n ∧ i = .int .i64 j ∧ RgLp w wr w.heap.size Z b cb k sz (PJ op_andNot true sz (L.take j))) (fun i _ _ => n - (intOf i).toNat)
        case atStart => exact ⟨0, Nat.zero_le _, rfl, unhide HS3⟩
        case round =>
          obtain ⟨j, hj, rfl, hst⟩ := hrel
          have HS := hide hst
          by_cases hlt : j < n
          · have hlt' : (j : Int) < (n : Int) := by omega
            have hjl : j < L.length := by rw [unhide HLn]; exact hlt
            have hS := (unhide HSl).below hst.bel
            obtain ⟨bl, off, rfl, hcells⟩ := hS.at (by omega)
            have g1 := (hcells j hlt).1
            have g2 := (hcells j hlt).2
            have hin0 := (unhide HSl).get j hlt
            have hin := hS.get j hlt
            have HStep := hide (fun x => PJ_step (op := op_andNot) (init := true) (sz := sz) hjl x)
            have hmay := unhide HAll (L.getD j .nul) (by
              have : L.getD j .nul = L[j] := by simp [List.getD, hjl]
              rw [this]; exact List.getElem_mem hjl)
            obtain ⟨e, he⟩ : ∃ e, L.getD j .nul = e := ⟨_, rfl⟩
            rw [he] at g1 g2 hin hin0 HStep hmay
            obtain ⟨es, ea, en, ec, exs⟩ := e
            obtain ⟨hmy, hes⟩ := hmay
            simp only at g1 g2 hes hmy
            subst hes
            have hlen : exs.length = k := by rw [MayS.len hmy]; simp [unhide HNN]
            have hen : en = k := hin.1.len.symm.trans hlen
            subst hen
            have hal : Below wr.heap.size wr (wr.alloc (.cells #[.int .i64 sz, .slice ea en ec] 24)) := (Below.refl _ _).alloc (Nat.le_refl _) _
            have hst2 := hst.keep hal
            have tS : Two (wr.alloc (.cells #[.int .i64 sz, .slice ea en ec] 24)) wr.heap.size (.int .i64 sz) (.slice ea en ec) := Two.made _ _ _ _
            obtain ⟨f, hfn, hrep⟩ := hst2.rep
            have K := join_andNot sz sz b en cb f ea en ec exs (wr.alloc (.cells #[.int .i64 sz, .slice ea en ec] 24)) hfn (fun i hi => (hrep i hi).1) ((hin.1.below hal)) hin.2 (Nat.le_refl _) hle64 ?hne (unhide HC).2 (unhide HC).1
            case hne =>
              intro h0 x hx
              obtain ⟨b9, o9, e9, k9⟩ := SlG.at hin0.1 h0
              have e9' : ea = some ⟨b9, o9, none⟩ := e9
              rw [e9'] at hx
              cases hx
              have := World.block_lt_of_cell? _ _ (k9 0 h0)
              show b9 ≠ b
              have h9 : b9 < w.heap.size := this
              omega
            have HRp := hide (And.intro hst2 hrep)
            have HO := hide (And.intro hlen hin.2)
            unfold setV at K
            have HK := hide K
            have z0 := hst2.two.c0
            have z1 := hst2.two.c1
            clear K hst hst2 hcells hin hin0 he hal tS hfn hrep hS hmy
            go_wp2_with fail
            refine (unhide HK).mono ?_
            rintro _ w5 ⟨rfl, hf5, hc5⟩
            have HS5 := hide (show RgLp w w5 w.heap.size Z b cb en sz (PJ op_andNot true sz (L.take (j + 1))) from
              ((unhide HRp).1.chg hbR hbZ hbw (jn_rep (op := op_andNot) (fun x y hx hy => jAndNot_bits x y hx hy) (unhide HRp).2 (unhide HO).1 (unhide HO).2) hf5 hc5).congr (fun x _ => (unhide HStep x).symm))
            clear hf5 hc5 HK HRp z0 z1
            go_wp2_with fail
            exact ⟨⟨j + 1, by omega, by go_num, unhide HS5⟩, by simp [intOf]; omega⟩
          · have hlt' : ¬ (j : Int) < (n : Int) := by omega
            have hjn : j = n := by omega
            subst hjn
            have z0 := hst.two.c0
            have z1 := hst.two.c1
            have r0 := hst.res.c0
            have r1 := hst.res.c1
            have f0 := hst.res.f0
            have f1 := hst.res.f1
            have T3 := hst.res.set (.int .i64 sz) (.slice (some ⟨b, 0, none⟩) k cb)
            have p0 := T3.c0
            have p1 := T3.c1
            clear hst T3
            go_wp2_with fail
            refine bodyPost_ret (by simp [results, Try.results65, go_sem, p0, p1]; try rfl) rfl ?_
            have hall : L.take j = L := by rw [List.take_of_length_le]; rw [unhide HLn]; exact Nat.le_refl _
            obtain ⟨f, hfn, hrep⟩ := (unhide HS).rep
            rw [hall] at hrep
            have e := unhide HNN
            subst e
            exact resS_set (hfn.two _ _ _ hbR) hrep (unhide HC).1 (unhide HC).2 (two_below (unhide HS).bel _ (Nat.le_refl _) _ _)
  · have hE : joinedR op_andNot true size L = (0, [], alikeE size L) := by simp [joinedR, hz]
    rw [hE]
    have hne : (alikeE size L == 0) = false := by simpa using hz
    generalize alikeE size L = er at *
    have HK := hide K
    clear K hz hE tR hB h
    go_enter Try.func65, Try.ntmps65
    go_wp2_with fail
    refine (unhide HK).mono ?_
    rintro _ w1 ⟨rfl, hb1⟩
    have tR := (unhide HR).1.keep hb1
    have r0 := tR.c0
    have r1 := tR.c1
    have f0 := tR.f0
    have f1 := tR.f1
    have T3 := tR.set (.int .i64 0) (.slice none 0 0)
    have p0 := T3.c0
    have p1 := T3.c1
    have HB := hide (two_below ((unhide HR).2.trans (hb1.mono (by omega))) w.heap.size (by omega) (.int .i64 0) (.slice none 0 0))
    clear tR T3 hb1 HK HR
    go_wp2_with fail
    refine bodyPost_ret (by simp [results, Try.results65, go_sem, p0, p1]; try rfl) rfl ?_
    exact resS_zero (unhide HB)
end Go.Proofs.Ytbendkndnojihaa
