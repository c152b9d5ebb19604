/- Va6 -/
import Derived.Test.YtiadccaaoenccaaDoorVa5
namespace Go.Proofs.YtiadccaaoenccaaDoor
open Go.RowKit Go.Deep
set_option linter.unusedVariables false
set_option linter.unusedSimpArgs false
theorem op_nat {o : On} {io : Int} {i tm : Nat} (hop : opF io i o = 0) (hi : i ≤ 2048) (hio : io = (tm : Int)) (htm : tm ≤ 64) : ∃ j A B : Nat, o.k = (j : Int) ∧ o.a = (A : Int) ∧ o.b = (B : Int) ∧ 1 ≤ j ∧ j ≤ 8 ∧ A ≤ 2048 ∧ B ≤ 2048 ∧ (j = 1 → A < tm) := by
  obtain ⟨h1, h2, h3, h4, h5, h6⟩ := op_ok hop
  obtain ⟨kk, a, b, n, p⟩ := o
  simp only at h1 h4 h5 h6
  have ea : 0 ≤ a ∧ a ≤ 2048 ∧ (kk = 1 → a < tm) := by
    by_cases k1 : kk = 1
    · have := h4 k1; omega
    · by_cases k2 : kk = 2
      · unfold unuO at h3
        simp [k2] at h3
        omega
      · have := h2 a (by
          unfold opsL twoK oneK
          by_cases e : 3 ≤ kk ∧ kk ≤ 6
          · rw [if_pos (by simp; omega)]; simp
          · rw [if_neg (by simp; omega), if_pos (by simp; omega)]; simp)
        omega
  have eb : 0 ≤ b ∧ b ≤ 2048 := by
    by_cases e : 3 ≤ kk ∧ kk ≤ 6
    · have := h2 b (by
        unfold opsL twoK
        rw [if_pos (by simp; omega)]
        simp)
      omega
    · unfold unuO twoK at h3
      simp at h3
      omega
  exact ⟨kk.toNat, a.toNat, b.toNat, by simp; omega, by simp; omega, by simp; omega, by omega, by omega, by omega, by omega, fun e => by have := ea.2.2 (by omega); omega⟩
theorem wrap_j64 (x : Int) : IntKind.i64.wrap x = (x + 9223372036854775808) % 18446744073709551616 - 9223372036854775808 := by
  simp [IntKind.wrap, IntKind.bits, IntKind.signed]
  split <;> omega
theorem GrO.chg2 {S : Nat → Prop} {w wr w1 : World} {v : Value} {qs : List On} (h : GrO S w wr v qs) (c : Chg S wr w1) (hw : ∀ k, v.ownBlock = some k → ¬ S k) : GrO S w w1 v qs :=
  ⟨ownsRow_chg h.own c hw, fun q hq => (h.each q hq).st c (fun k hk => (h.far q hq k hk).2), h.far, h.bel.trans c⟩
theorem GrO.set2 {S : Nat → Prop} {w wr : World} {v : Value} {qs : List On} (h : GrO S w wr v qs) {X : Nat} (hX : v.ownBlock ≠ some X) (hS : S X) (i : Nat) (u : Value) : GrO S w (wr.setCell ⟨X, i, none⟩ u) v qs := by
  have hk : Chg (fun j => j = X) wr (wr.setCell ⟨X, i, none⟩ u) := Chg.of_set wr X i u rfl
  exact ⟨ownsRow_chg h.own hk (fun k e e2 => hX (by rw [e, e2])), fun q hq => (h.each q hq).st hk (fun k hk2 e => (h.far q hq k hk2).2 (by rw [e]; exact hS)), h.far, h.bel.trans (hk.mono (fun k _ e => by rw [e]; exact hS))⟩
set_option maxRecDepth 100000 in
set_option maxHeartbeats 64000000 in
theorem scompose_any (io : Int) (oa : Option Addr) (on oc : Nat) (oso : List On) (ob : Option Addr) (om od : Nat) (yso : List Int) (ii : Int) (ia : Option Addr) (n ic : Nat) (osi : List On) (ib : Option Addr) (m id : Nat) (ysi : List Int) (w : World)
    (h1 : SlO w oa on oc oso) (h2 : SlI w ob om od yso) (h3 : SlO w ia n ic osi) (h4 : SlI w ib m id ysi) (hT : Tab64 w) (hn : n ≤ 1000000000) (hon : on ≤ 1000000000) (hm : m ≤ 17592186044000) (hom : om ≤ 17592186044000) :
    Calls Tryd.prog 8 #[tapV io oa on oc ob om od, tapV ii ia n ic ib m id] w (CoA w (cmF io oso yso ii osi ysi) (cmT io oso yso ii osi ysi)) := by
  have l1 := h1.len
  have l2 := h2.len
  have l3 := h3.len
  have l4 := h4.len
  obtain ⟨wo, hwo⟩ : ∃ x, w.alloc (.cells #[.int .i64 io, .slice oa on oc, .slice ob om od] 25) = x := ⟨_, rfl⟩
  have bo : BoxP wo w.heap.size [.int .i64 io, .slice oa on oc, .slice ob om od] := by rw [← hwo]; exact BoxP.made _ _ _
  have hbo : Below w.heap.size w wo := by rw [← hwo]; exact (Below.refl _ _).alloc (Nat.le_refl _) _
  obtain ⟨wi, hwi⟩ : ∃ x, wo.alloc (.cells #[.int .i64 ii, .slice ia n ic, .slice ib m id] 25) = x := ⟨_, rfl⟩
  have bi : BoxP wi wo.heap.size [.int .i64 ii, .slice ia n ic, .slice ib m id] := by rw [← hwi]; exact BoxP.made _ _ _
  have hbi : Below wo.heap.size wo wi := by rw [← hwi]; exact (Below.refl _ _).alloc (Nat.le_refl _) _
  obtain ⟨wR, hwR⟩ : ∃ x, wi.alloc (.cells #[.int .i64 0, .slice none 0 0, .slice none 0 0] 25) = x := ⟨_, rfl⟩
  have bR : BoxP wR wi.heap.size [.int .i64 0, .slice none 0 0, .slice none 0 0] := by rw [← hwR]; exact BoxP.made _ _ _
  have hbR : Below wi.heap.size wi wR := by rw [← hwR]; exact (Below.refl _ _).alloc (Nat.le_refl _) _
  have hB1 := hbo.trans (hbi.mono hbo.size)
  have hB2 := hB1.trans (hbR.mono hB1.size)
  have HB := hide hB2
  have HBR := hide bR
  have HBI := hide (bi.below hbR)
  have HBO := hide ((bo.below hbi).below hbR)
  have HLE := hide (And.intro hbo.size (And.intro hbi.size (And.intro bo.lt (And.intro bi.lt bR.lt))))
  have HOO := hide (And.intro (h1.below hB2) (h2.below hB2))
  have HII := hide (And.intro (h3.below hB2) (h4.below hB2))
  have HT := hide (hT.below hB2)
  have HL := hide (And.intro l1 (And.intro l2 (And.intro l3 l4)))
  have a0 := (((bo.below hbi).below hbR).all 0 _ rfl).1
  have b0 := ((bi.below hbR).all 0 _ rfl).1
  have a1 := (((bo.below hbi).below hbR).all 1 _ rfl).1
  have b1 := ((bi.below hbR).all 1 _ rfl).1
  have a2 := (((bo.below hbi).below hbR).all 2 _ rfl).1
  have b2 := ((bi.below hbR).all 2 _ rfl).1
  have HZO := hide (fun (W : World) (hb : Below wR.heap.size wR W) => wcheck_any io oa on oc oso ob om od yso W ((unhide HOO).1.below hb) ((unhide HOO).2.below hb) ((unhide HT).below hb))
  have HZI := hide (fun (W : World) (hb : Below wR.heap.size wR W) => wcheck_any ii ia n ic osi ib m id ysi W ((unhide HII).1.below hb) ((unhide HII).2.below hb) ((unhide HT).below hb))
  unfold tapV at HZO HZI
  unfold tapV
  clear bo hbo bi hbi bR hbR hB1 hB2 h1 h2 h3 h4 hT l1 l2 l3 l4
  go_enter Tryd.func8, Tryd.ntmps8
  go_wp2_with fail
  have A0 := a0
  have B0 := b0
  have A1 := a1
  have B1 := b1
  have A2 := a2
  have B2 := b2
  refine (unhide HZO _ (Below.refl _ _)).mono ?_
  rintro _ w1 ⟨rfl, b1⟩
  have Hw1 := hide (Below.trans (Below.refl _ _) (b1.mono ((Below.refl _ _) : Below wR.heap.size wR _).size))
  clear b1
  obtain ⟨⟨pl, er⟩, hP⟩ : ∃ x, chF io oso yso = x := ⟨_, rfl⟩
  rw [hP]
  by_cases hez : er = 0
  rotate_left
  · have hez' : (er != 0) = true := by simpa using hez
    have HP := hide hP
    clear hP
    have bRx : BoxP w1 wi.heap.size [.int .i64 0, .slice none 0 0, .slice none 0 0] := (unhide HBR).below (unhide Hw1)
    have r0 := (bRx.all 0 _ rfl).1
    have u0 := (bRx.all 0 _ rfl).2
    have r1 := (bRx.all 1 _ rfl).1
    have u1 := (bRx.all 1 _ rfl).2
    have r2 := (bRx.all 2 _ rfl).1
    have u2 := (bRx.all 2 _ rfl).2
    obtain ⟨bRy, hcy⟩ := tape_set3 bRx (.int .i64 0) (.slice none 0 0) (.slice none 0 0)
    have p0 := (bRy.all 0 _ rfl).1
    have p1 := (bRy.all 1 _ rfl).1
    have p2 := (bRy.all 2 _ rfl).1
    have HCY := hide hcy
    have HRS := hide (show cmF io oso yso ii osi ysi = (pl, er) from by unfold cmF; rw [unhide HP]; exact if_neg hez)
    clear bRx bRy hcy
    go_wp2_with fail
    refine bodyPost_ret (v := .tuple #[tapV 0 none 0 0 none 0 0, .int .i64 pl, .int .i64 er]) (by simp [tapV, results, Tryd.results8, go_sem, p0, p1, p2]; try rfl) rfl ?_
    refine CoA.no (R' := (pl, er)) (unhide HRS).symm (by unfold cmT; rw [unhide HRS]; exact if_neg (by first | decide | exact hez)) ?_
    exact ((unhide HB).trans ((unhide Hw1).mono (unhide HB).size)).trans ((unhide HCY).below (B := w.heap.size) (by have := (unhide Hw1).size; have := (unhide HB).size; omega) (fun k hk e => by have := unhide HLE; omega))
  have HE_w1 := hide (show (chF io oso yso).2 = 0 by rw [hP]; exact hez)
  clear hP
  subst hez
  have a0 := ((unhide Hw1).cell (World.block_lt_of_cell? _ _ A0)).trans A0
  have b0 := ((unhide Hw1).cell (World.block_lt_of_cell? _ _ B0)).trans B0
  have a1 := ((unhide Hw1).cell (World.block_lt_of_cell? _ _ A1)).trans A1
  have b1 := ((unhide Hw1).cell (World.block_lt_of_cell? _ _ B1)).trans B1
  have a2 := ((unhide Hw1).cell (World.block_lt_of_cell? _ _ A2)).trans A2
  have b2 := ((unhide Hw1).cell (World.block_lt_of_cell? _ _ B2)).trans B2
  go_wp2_with fail
  refine (unhide HZI _ (unhide Hw1)).mono ?_
  rintro _ w2 ⟨rfl, b1⟩
  have Hw2 := hide (Below.trans (unhide Hw1) (b1.mono ((unhide Hw1) : Below wR.heap.size wR _).size))
  clear b1
  obtain ⟨⟨pl, er⟩, hP⟩ : ∃ x, chF ii osi ysi = x := ⟨_, rfl⟩
  rw [hP]
  by_cases hez : er = 0
  rotate_left
  · have hez' : (er != 0) = true := by simpa using hez
    have HP := hide hP
    clear hP
    have bRx : BoxP w2 wi.heap.size [.int .i64 0, .slice none 0 0, .slice none 0 0] := (unhide HBR).below (unhide Hw2)
    have r0 := (bRx.all 0 _ rfl).1
    have u0 := (bRx.all 0 _ rfl).2
    have r1 := (bRx.all 1 _ rfl).1
    have u1 := (bRx.all 1 _ rfl).2
    have r2 := (bRx.all 2 _ rfl).1
    have u2 := (bRx.all 2 _ rfl).2
    obtain ⟨bRy, hcy⟩ := tape_set3 bRx (.int .i64 0) (.slice none 0 0) (.slice none 0 0)
    have p0 := (bRy.all 0 _ rfl).1
    have p1 := (bRy.all 1 _ rfl).1
    have p2 := (bRy.all 2 _ rfl).1
    have HCY := hide hcy
    have HRS := hide (show cmF io oso yso ii osi ysi = (pl, er) from by unfold cmF; rw [if_pos (unhide HE_w1), unhide HP]; exact if_neg hez)
    clear bRx bRy hcy
    go_wp2_with fail
    refine bodyPost_ret (v := .tuple #[tapV 0 none 0 0 none 0 0, .int .i64 pl, .int .i64 er]) (by simp [tapV, results, Tryd.results8, go_sem, p0, p1, p2]; try rfl) rfl ?_
    refine CoA.no (R' := (pl, er)) (unhide HRS).symm (by unfold cmT; rw [unhide HRS]; exact if_neg (by first | decide | exact hez)) ?_
    exact ((unhide HB).trans ((unhide Hw2).mono (unhide HB).size)).trans ((unhide HCY).below (B := w.heap.size) (by have := (unhide Hw2).size; have := (unhide HB).size; omega) (fun k hk e => by have := unhide HLE; omega))
  have HE_w2 := hide (show (chF ii osi ysi).2 = 0 by rw [hP]; exact hez)
  clear hP
  subst hez
  have a0 := ((unhide Hw2).cell (World.block_lt_of_cell? _ _ A0)).trans A0
  have b0 := ((unhide Hw2).cell (World.block_lt_of_cell? _ _ B0)).trans B0
  have a1 := ((unhide Hw2).cell (World.block_lt_of_cell? _ _ A1)).trans A1
  have b1 := ((unhide Hw2).cell (World.block_lt_of_cell? _ _ B1)).trans B1
  have a2 := ((unhide Hw2).cell (World.block_lt_of_cell? _ _ A2)).trans A2
  have b2 := ((unhide Hw2).cell (World.block_lt_of_cell? _ _ B2)).trans B2
  have hn1 : (n : Int) = (n : Int) := rfl
  by_cases hio : io = (m : Int)
  rotate_left
  · have hio2 : (io != (m : Int)) = true := by simpa using hio
    have bRx : BoxP w2 wi.heap.size [.int .i64 0, .slice none 0 0, .slice none 0 0] := (unhide HBR).below (unhide Hw2)
    have r0 := (bRx.all 0 _ rfl).1
    have u0 := (bRx.all 0 _ rfl).2
    have r1 := (bRx.all 1 _ rfl).1
    have u1 := (bRx.all 1 _ rfl).2
    have r2 := (bRx.all 2 _ rfl).1
    have u2 := (bRx.all 2 _ rfl).2
    obtain ⟨bRy, hcy⟩ := tape_set3 bRx (.int .i64 0) (.slice none 0 0) (.slice none 0 0)
    have p0 := (bRy.all 0 _ rfl).1
    have p1 := (bRy.all 1 _ rfl).1
    have p2 := (bRy.all 2 _ rfl).1
    have HCY := hide hcy
    have HRS := hide (show cmF io oso yso ii osi ysi = (0, 7) from by unfold cmF; rw [if_pos (unhide HE_w1), if_pos (unhide HE_w2), (unhide HL).2.2.2, if_neg hio])
    clear bRx bRy hcy
    go_wp2_with fail
    refine bodyPost_ret (v := .tuple #[tapV 0 none 0 0 none 0 0, .int .i64 0, .int .i64 7]) (by simp [tapV, results, Tryd.results8, go_sem, p0, p1, p2]; try rfl) rfl ?_
    refine CoA.no (R' := (0, 7)) (unhide HRS).symm (by unfold cmT; rw [unhide HRS]; exact if_neg (by first | decide | exact hez)) ?_
    exact ((unhide HB).trans ((unhide Hw2).mono (unhide HB).size)).trans ((unhide HCY).below (B := w.heap.size) (by have := (unhide Hw2).size; have := (unhide HB).size; omega) (fun k hk e => by have := unhide HLE; omega))
  by_cases hnn : on + n ≤ 2048
  rotate_left
  · have hnn2 : (2048 : Int) < (n : Int) + (on : Int) := by omega
    have hio2 : (io != (m : Int)) = false := by simpa using hio
    have bRx : BoxP w2 wi.heap.size [.int .i64 0, .slice none 0 0, .slice none 0 0] := (unhide HBR).below (unhide Hw2)
    have r0 := (bRx.all 0 _ rfl).1
    have u0 := (bRx.all 0 _ rfl).2
    have r1 := (bRx.all 1 _ rfl).1
    have u1 := (bRx.all 1 _ rfl).2
    have r2 := (bRx.all 2 _ rfl).1
    have u2 := (bRx.all 2 _ rfl).2
    obtain ⟨bRy, hcy⟩ := tape_set3 bRx (.int .i64 0) (.slice none 0 0) (.slice none 0 0)
    have p0 := (bRy.all 0 _ rfl).1
    have p1 := (bRy.all 1 _ rfl).1
    have p2 := (bRy.all 2 _ rfl).1
    have HCY := hide hcy
    have HRS := hide (show cmF io oso yso ii osi ysi = (0, 101) from by unfold cmF; rw [if_pos (unhide HE_w1), if_pos (unhide HE_w2), (unhide HL).2.2.2, if_pos hio, (unhide HL).1, (unhide HL).2.2.1, if_neg hnn])
    clear bRx bRy hcy
    go_wp2_with fail
    refine bodyPost_ret (v := .tuple #[tapV 0 none 0 0 none 0 0, .int .i64 0, .int .i64 101]) (by simp [tapV, results, Tryd.results8, go_sem, p0, p1, p2]; try rfl) rfl ?_
    refine CoA.no (R' := (0, 101)) (unhide HRS).symm (by unfold cmT; rw [unhide HRS]; exact if_neg (by first | decide | exact hez)) ?_
    exact ((unhide HB).trans ((unhide Hw2).mono (unhide HB).size)).trans ((unhide HCY).below (B := w.heap.size) (by have := (unhide Hw2).size; have := (unhide HB).size; omega) (fun k hk e => by have := unhide HLE; omega))
  have hnn2 : ¬ (2048 : Int) < (n : Int) + (on : Int) := by omega
  have hio2 : (io != (m : Int)) = false := by simpa using hio
  have HCM := hide (show cmF io oso yso ii osi ysi = (0, 0) by unfold cmF; rw [if_pos (unhide HE_w1), if_pos (unhide HE_w2), (unhide HL).2.2.2, if_pos hio, (unhide HL).1, (unhide HL).2.2.1, if_pos hnn])
  have HCT := hide (show cmT io oso yso ii osi ysi = (ii, cpO osi oso ysi, cpY n yso) by unfold cmT; rw [unhide HCM, (unhide HL).2.2.1]; exact if_pos rfl)
  have HIO := hide hio
  have HKO := hide (TpOk.of (unhide HE_w1))
  have HKI := hide (TpOk.of (unhide HE_w2))
  have hm2 : m ≤ 64 := by have := (unhide HKI).ly; have := (unhide HL).2.2.2; omega
  have hom2 : om ≤ 64 := by have := (unhide HKO).ly; have := (unhide HL).2.1; omega
  have HZC := hide (fun (W : World) (hb : Below wR.heap.size wR W) => copyTape_any ii ia n ic osi ib m id ysi W ((unhide HII).1.below hb) ((unhide HII).2.below hb) (by omega) (by omega) (fun o ho => ⟨by have h1 := ((unhide HII).1.each o ho).x.len; have h2 := (con_few (unhide HKI) ho).1; omega, by have h1 := ((unhide HII).1.each o ho).y.len; have h2 := (con_few (unhide HKI) ho).2; omega⟩))
  unfold tapV at HZC
  clear hio
  go_wp2_with fail
  refine (unhide HZC _ (unhide Hw2)).mono ?_
  rintro _ w5 ⟨A, b', d', qs0, rfl, hA, hC, hS, hN⟩
  have hG5 : GrO (fun j => j = w5.heap.size) w2 w5 (.slice (some ⟨A, 0, none⟩) qs0.length (n + 3)) qs0 := ⟨by have h := hC.fil.own (n := n) (base := w2.heap.size) (by rw [celO_len, hC.len]) (by omega) hA (by unfold maxLen; omega); rw [hC.len]; exact h, hC.each, fun q hq k hk => ⟨fun e => by
    have hf := hC.far q hq
    have hk2 : ¬ k ≤ A := by
      rcases hk with ⟨z, hz, hne, rfl⟩ | ⟨z, hz, hne, rfl⟩
      · exact hf.x z hz hne
      · exact hf.y z hz hne
    have e2 : A = k := by simpa [Value.ownBlock] using e
    omega, fun e => by have := (hC.each q hq).lt k hk; omega⟩, Chg.of_below hC.bel⟩
  have HQ5 := hide (show qs0.map conO = osi.map conO from by rw [hC.con, List.take_of_length_le (by have := (unhide HL).2.2.1; omega)])
  have HAl := hide hC.fil.lt
  have HLQ := hide hC.len
  have HW5 := hide ((unhide Hw2).trans (hC.bel.mono (unhide Hw2).size))
  rw [hC.len] at hG5
  have HG5 := hide hG5
  have HFr := hide (show ∀ q ∈ qs0, ∀ j, nqB q.p j → w2.heap.size ≤ j from fun q hq k hk => by
    have hf := hC.far q hq
    have hk2 : ¬ k ≤ A := by
      rcases hk with ⟨z, hz, hne, rfl⟩ | ⟨z, hz, hne, rfl⟩
      · exact hf.x z hz hne
      · exact hf.y z hz hne
    omega)
  clear hA hC hS hN hG5
  have a0 := ((unhide HW5).cell (World.block_lt_of_cell? _ _ A0)).trans A0
  have b0 := ((unhide HW5).cell (World.block_lt_of_cell? _ _ B0)).trans B0
  have a1 := ((unhide HW5).cell (World.block_lt_of_cell? _ _ A1)).trans A1
  have b1 := ((unhide HW5).cell (World.block_lt_of_cell? _ _ B1)).trans B1
  have a2 := ((unhide HW5).cell (World.block_lt_of_cell? _ _ A2)).trans A2
  have b2 := ((unhide HW5).cell (World.block_lt_of_cell? _ _ B2)).trans B2
  have hXA : A < w5.heap.size := unhide HAl
  have hbX : Below w5.heap.size w5 (w5.alloc (.cells #[.int .i64 ii, .slice (some ⟨A, 0, none⟩) n (n + 3), .slice none 0 0] 25)) := (Below.refl _ _).alloc (Nat.le_refl _) _
  have bX0 : BoxP (w5.alloc (.cells #[.int .i64 ii, .slice (some ⟨A, 0, none⟩) n (n + 3), .slice none 0 0] 25)) w5.heap.size [.int .i64 ii, .slice (some ⟨A, 0, none⟩) n (n + 3), .slice none 0 0] := BoxP.made _ _ _
  have HBX0 := hide bX0
  have HG6 := hide ((unhide HG5).below hbX)
  have HF5 := hide (show ∀ q ∈ qs0, ∀ j, nqB q.p j → w2.heap.size ≤ j from unhide HFr)
  clear hbX bX0
  go_wp2_with fail
  obtain ⟨X, hX⟩ : ∃ X, w5.heap.size = X := ⟨_, rfl⟩
  rw [hX] at HBX0 HG6 ⊢
  have HX := hide hX
  have HXA := hide (show A < X from by omega)
  have HXw := hide (show w2.heap.size ≤ X from by have := (unhide HG5).bel.size; omega)
  generalize w5.alloc (.cells #[.int .i64 ii, .slice (some ⟨A, 0, none⟩) n (n + 3), .slice none 0 0] 25) = wX at *
  obtain ⟨i88, hi, hz0, hsi, hb⟩ := info_parts Tryd.info_op
  have HI := hide (And.intro hi (And.intro hz0 (And.intro hsi hb)))
  clear hX hXA hi hz0 hsi hb a0 a1 a2 b0 b1 b2
  go_loopw [11] (fun kv wr => ∃ (k : Nat) (sv : Value) (qs : List On), k ≤ on ∧ kv = .int .i64 (k : Int) ∧ Hid (GrO (fun j => j = X) w2 wr sv qs) ∧ Hid (qs.map conO = (osi ++ (oso.take k).map (bhO n ysi)).map conO) ∧ Hid (BoxP wr X [.int .i64 ii, sv, .slice none 0 0]) ∧ Hid (sv.ownBlock ≠ some X) ∧ Hid (∀ q ∈ qs, ∀ j, nqB q.p j → w2.heap.size ≤ j)) (fun kv _ => on - (intOf kv).toNat)
  case atStart => exact ⟨0, _, qs0, Nat.zero_le _, rfl, HG6, hide (by rw [unhide HQ5]; simp), HBX0, hide (by intro e; have := unhide HXA; simp [Value.ownBlock] at e; omega), HF5⟩
  case round =>
    obtain ⟨k, sv, qs, hk, rfl, HG, HC, HBK, HNX, HF⟩ := hrel
    have hbr : Below wR.heap.size wR wr := (unhide Hw2).trans ((unhide HG).bel.below (unhide Hw2).size (fun j hj e => by have := unhide HXw; have := (unhide Hw2).size; omega))
    have a0 := (hbr.cell (World.block_lt_of_cell? _ _ A0)).trans A0
    have b0 := (hbr.cell (World.block_lt_of_cell? _ _ B0)).trans B0
    have a1 := (hbr.cell (World.block_lt_of_cell? _ _ A1)).trans A1
    have b1 := (hbr.cell (World.block_lt_of_cell? _ _ B1)).trans B1
    have a2 := (hbr.cell (World.block_lt_of_cell? _ _ A2)).trans A2
    have b2 := (hbr.cell (World.block_lt_of_cell? _ _ B2)).trans B2
    have hql : qs.length = n + k := by
      have := congrArg List.length (unhide HC)
      rw [List.length_map, List.length_map, List.length_append, List.length_map, List.length_take, (unhide HL).2.2.1, (unhide HL).1] at this
      omega
    have HQL := hide hql
    clear hql
    obtain ⟨sa, sc, rfl, hsl⟩ := (unhide HG).slo
    have bX := unhide HBK
    have hXr : X < wr.heap.size := bX.lt
    by_cases hlt : k < on
    · have hlt' : (k : Int) < (on : Int) := by omega
      obtain ⟨b1, off, o, rfl, ho, O, hok⟩ := ((unhide HOO).1.below hbr).at' hlt
      have hfew := con_few (unhide HKO) (List.mem_of_getElem? ho)
      obtain ⟨j, A', B', ek, ea, eb, j1, j8, hA', hB', hj1⟩ := op_nat ((unhide HKO).op k o ho) (by omega) (unhide HIO) hm2
      obtain ⟨ok, oa', ob', on', p⟩ := o
      simp only at ek ea eb hok hfew
      subst ek ea eb
      obtain ⟨c0, c1, c2, c3, c4, c5, c6⟩ := O
      simp only at c0 c1 c2 c3 c4 c5 c6
      obtain ⟨W3, hW3⟩ : ∃ x, wr.alloc (.cells #[.int .i64 (j : Int), .int .i64 (A' : Int), .int .i64 (B' : Int), .int .i64 on', .bool p.g, .slice p.a p.n p.c, .slice p.b p.m p.d] 54) = x := ⟨_, rfl⟩
      have br : BoxP W3 wr.heap.size [.int .i64 (j : Int), .int .i64 (A' : Int), .int .i64 (B' : Int), .int .i64 on', .bool p.g, .slice p.a p.n p.c, .slice p.b p.m p.d] := by rw [← hW3]; exact BoxP.made _ _ _
      have b3 : Below wr.heap.size wr W3 := by rw [← hW3]; exact (Below.refl _ _).alloc (Nat.le_refl _) _
      have KC := copyRat_any p.g p.a p.b p.n p.c p.m p.d p.x p.y W3 (hok.below b3).x (hok.below b3).y (by have := hok.x.len; omega) (by have := hok.y.len; omega)
      unfold ratV at KC
      have HK := hide KC
      have HO := hide ho
      have HB3 := hide b3
      have HBY := hide br
      have HOK := hide (And.intro hok.ox hok.oy)
      have q0 := (br.all 0 _ rfl).1
      have q1 := (br.all 1 _ rfl).1
      have q2 := (br.all 2 _ rfl).1
      have q3 := (br.all 3 _ rfl).1
      have q4 := (br.all 4 _ rfl).1
      have q5 := (br.all 5 _ rfl).1
      have q6 := (br.all 6 _ rfl).1
      clear KC ho hok br b3 hfew hsl
      go_wp2_with fail
      refine (unhide HK).mono ?_
      rintro _ w4 ⟨_, rfl, a3, m3, c3', a4, m4, c4', rfl, hs1, hs2, hn1, hn2, b4⟩
      unfold ratV
      have bY4 := (unhide HBY).below b4
      have q0 := (bY4.all 0 _ rfl).1
      have f0 := (bY4.all 0 _ rfl).2
      have q1 := (bY4.all 1 _ rfl).1
      have f1 := (bY4.all 1 _ rfl).2
      have q2 := (bY4.all 2 _ rfl).1
      have f2 := (bY4.all 2 _ rfl).2
      have q3 := (bY4.all 3 _ rfl).1
      have f3 := (bY4.all 3 _ rfl).2
      have q4 := (bY4.all 4 _ rfl).1
      have f4 := (bY4.all 4 _ rfl).2
      have q5 := (bY4.all 5 _ rfl).1
      have f5 := (bY4.all 5 _ rfl).2
      have q6 := (bY4.all 6 _ rfl).1
      have f6 := (bY4.all 6 _ rfl).2
      have bY6 : BoxP (((w4.setCell ⟨wr.heap.size, 4, none⟩ (.bool p.g)).setCell ⟨wr.heap.size, 5, none⟩ (.slice a3 m3 c3')).setCell ⟨wr.heap.size, 6, none⟩ (.slice a4 m4 c4')) wr.heap.size [.int .i64 (j : Int), .int .i64 (A' : Int), .int .i64 (B' : Int), .int .i64 on', .bool p.g, .slice a3 m3 c3', .slice a4 m4 c4'] := ((bY4.put 4 (.bool p.g)).put 5 (.slice a3 m3 c3')).put 6 (.slice a4 m4 c4')
      have hc6 : Chg (fun j => j = wr.heap.size) w4 (((w4.setCell ⟨wr.heap.size, 4, none⟩ (.bool p.g)).setCell ⟨wr.heap.size, 5, none⟩ (.slice a3 m3 c3')).setCell ⟨wr.heap.size, 6, none⟩ (.slice a4 m4 c4')) := ((Chg.of_set (S := fun j => j = wr.heap.size) _ wr.heap.size 4 _ rfl).trans (Chg.of_set _ wr.heap.size 5 _ rfl)).trans (Chg.of_set _ wr.heap.size 6 _ rfl)
      have HYlt := hide (show wr.heap.size < W3.heap.size from (unhide HBY).lt)
      have hq6 : NqL w4 ⟨p.g, a3, m3, c3', p.x, a4, m4, c4', p.y⟩ := ⟨hs1, hs2, (unhide HOK).1, (unhide HOK).2⟩
      have hf6 : ∀ i, nqB (⟨p.g, a3, m3, c3', p.x, a4, m4, c4', p.y⟩ : Nq) i → W3.heap.size ≤ i := by
        intro i hi
        rcases hi with ⟨z, hz, _, rfl⟩ | ⟨z, hz, _, rfl⟩
        · exact hn1 z hz
        · exact hn2 z hz
      have hq7 := hq6.st hc6 (fun i hi e => by have := hf6 i hi; have := unhide HYlt; omega)
      have hb6 := ((unhide HB3).trans (b4.mono (unhide HB3).size)).trans (hc6.below (B := wr.heap.size) (by have := b4.size; have := unhide HYlt; omega) (fun j hj e => by omega))
      have HBY6 := hide bY6
      have HNQ := hide (And.intro hq7 hf6)
      have HB6 := hide hb6
      clear hs1 hs2 hn1 hn2 b4 bY4 bY6 hc6 hq6 hf6 hq7 hb6 HK HBY HB3
      try dsimp only
      repeat ((fail_if_success (with_reducible (show Code.wp _ _ _ _ (World.setCell _ _ _)))); (first | go_values | go_skip | go_guarded | go_step | go_upon | go_back))
      generalize (((w4.setCell ⟨wr.heap.size, 4, none⟩ (.bool p.g)).setCell ⟨wr.heap.size, 5, none⟩ (.slice a3 m3 c3')).setCell ⟨wr.heap.size, 6, none⟩ (.slice a4 m4 c4')) = w6 at *
      have bX6 := (unhide HBK).below (unhide HB6)
      have hb60 := hbr.trans ((unhide HB6).mono hbr.size)
      have b0 := (hb60.cell (World.block_lt_of_cell? _ _ B0)).trans B0
      have b1 := (hb60.cell (World.block_lt_of_cell? _ _ B1)).trans B1
      have b2 := (hb60.cell (World.block_lt_of_cell? _ _ B2)).trans B2
      have e0 := (bX6.all 0 _ rfl).1
      have e1 := (bX6.all 1 _ rfl).1
      have e2 := (bX6.all 2 _ rfl).1
      have HYI := hide ((unhide HII).2.below hb60)
      have hwo : wo.heap.size ≠ wr.heap.size := by have := unhide HLE; have := hbr.size; omega
      have hXY : X ≠ wr.heap.size := by omega
      clear bX6 hb60 bX hbr
      obtain hj | hj | hj | hj | hj : j = 1 ∨ j = 2 ∨ j = 7 ∨ j = 8 ∨ (3 ≤ j ∧ j ≤ 6) := by omega
      · subst hj
        have HBYa : Hid (BoxP w6 wr.heap.size [.int .i64 1, .int .i64 (A' : Int), .int .i64 (B' : Int), .int .i64 on', .bool p.g, .slice a3 m3 c3', .slice a4 m4 c4']) := HBY6
        have hAm := hj1 rfl
        obtain ⟨b3, off3, rfl, hcel⟩ := (unhide HYI).at (by omega)
        have g3 := hcel A' hAm
        obtain ⟨V, hV⟩ : ∃ V, ysi.getD A' 0 = V := ⟨_, rfl⟩
        rw [hV] at g3
        have HV := hide hV
        clear hcel hV
        have y0 := ((unhide HBYa).all 0 _ rfl).1
        have z0 := ((unhide HBYa).all 0 _ rfl).2
        have y1 := ((unhide HBYa).all 1 _ rfl).1
        have z1 := ((unhide HBYa).all 1 _ rfl).2
        have y2 := ((unhide HBYa).all 2 _ rfl).1
        have z2 := ((unhide HBYa).all 2 _ rfl).2
        have y3 := ((unhide HBYa).all 3 _ rfl).1
        have z3 := ((unhide HBYa).all 3 _ rfl).2
        have y4 := ((unhide HBYa).all 4 _ rfl).1
        have z4 := ((unhide HBYa).all 4 _ rfl).2
        have y5 := ((unhide HBYa).all 5 _ rfl).1
        have z5 := ((unhide HBYa).all 5 _ rfl).2
        have y6 := ((unhide HBYa).all 6 _ rfl).1
        have z6 := ((unhide HBYa).all 6 _ rfl).2
        obtain ⟨bYn, hcn⟩ := seven_set (unhide HBYa) (.int .i64 8) (.int .i64 V) (.int .i64 0) (.int .i64 1) (.bool false) (.slice none 0 0) (.slice none 0 0)
        have HBY7 := hide bYn
        have HCn := hide hcn
        clear bYn hcn
        repeat ((fail_if_success (with_reducible (show Code.wp _ _ _ _ (World.setCell _ _ _)))); (first | go_values | go_skip | go_guarded | go_step | go_upon | go_back))
        generalize (((((((w6.setCell ⟨wr.heap.size, 0, none⟩ (.int .i64 8)).setCell ⟨wr.heap.size, 1, none⟩ (.int .i64 V)).setCell ⟨wr.heap.size, 2, none⟩ (.int .i64 0)).setCell ⟨wr.heap.size, 3, none⟩ (.int .i64 1)).setCell ⟨wr.heap.size, 4, none⟩ (.bool false)).setCell ⟨wr.heap.size, 5, none⟩ (.slice none 0 0)).setCell ⟨wr.heap.size, 6, none⟩ (.slice none 0 0)) = w7 at *
        have HB7 := hide ((unhide HB6).trans ((unhide HCn).below (B := wr.heap.size) (unhide HB6).size (fun j hj e => by omega)))
        have bY7 := unhide HBY7
        have y0 := (bY7.all 0 _ rfl).1
        have y1 := (bY7.all 1 _ rfl).1
        have y2 := (bY7.all 2 _ rfl).1
        have y3 := (bY7.all 3 _ rfl).1
        have y4 := (bY7.all 4 _ rfl).1
        have y5 := (bY7.all 5 _ rfl).1
        have y6 := (bY7.all 6 _ rfl).1
        have e0 := (((unhide HBK).below (unhide HB7)).all 0 _ rfl).1
        have e1 := (((unhide HBK).below (unhide HB7)).all 1 _ rfl).1
        have e2 := (((unhide HBK).below (unhide HB7)).all 2 _ rfl).1
        have hal : Below w7.heap.size w7 (w7.alloc (.cells #[.int .i64 8, .int .i64 V, .int .i64 0, .int .i64 1, .bool false, .slice none 0 0, .slice none 0 0] 54)) := (Below.refl _ _).alloc (Nat.le_refl _) _
        have how : (w7.alloc (.cells #[.int .i64 8, .int .i64 V, .int .i64 0, .int .i64 1, .bool false, .slice none 0 0, .slice none 0 0] 54)).ownsRow w2.heap.size 54 7 (.slice sa qs.length sc) qs.length (celO qs) := (((unhide HG).below (unhide HB7)).below hal).own
        have hone : ∀ u ∈ ([.int .i64 8, .int .i64 V, .int .i64 0, .int .i64 1, .bool false, .slice none 0 0, .slice none 0 0] : List Value), u.oneCell' = true := by intro u hu; simp at hu; rcases hu with rfl | rfl | rfl | rfl | rfl | rfl | rfl <;> rfl
        have hmx : qs.length + 1 ≤ maxLen := by have := unhide HQL; unfold maxLen; omega
        have hby : (qs.length + 1) * 88 ≤ 140737488355328 := by have := unhide HQL; omega
        have hlw : w2.heap.size ≤ w7.heap.size := ((unhide HG).below (unhide HB7)).bel.size
        have HAL := hide hal
        clear hal bY7
        go_wp2_with (at_builtin; refine wpList_append_lies _ rfl _ _ 22 rfl w2.heap.size 54 i88 (.agg #[.int .i64 0, .int .i64 0, .int .i64 0, .int .i64 0, .bool false, .slice none 0 0, .slice none 0 0]) 7 88 Tryd.underlying22 (unhide HI).1 (unhide HI).2.1 (unhide HI).2.2.1 (unhide HI).2.2.2 rfl (by decide) (.slice sa qs.length sc) qs.length (celO qs) rfl how ⟨w7.heap.size, 0, none⟩ 1 1 [.int .i64 8, .int .i64 V, .int .i64 0, .int .i64 1, .bool false, .slice none 0 0, .slice none 0 0] rfl rfl (World.news_of_block (alloc_block _ _)) hone (by decide) hmx hby (by simp <;> omega) (w7.heap.size + 1) (by simp) ?_)
        intro g5 cap5 w8 hown hgrow hat hlt8
        have hcg : Chg (fun j => (Value.slice sa qs.length sc).ownBlock = some j) (w7.alloc (.cells #[.int .i64 8, .int .i64 V, .int .i64 0, .int .i64 1, .bool false, .slice none 0 0, .slice none 0 0] 54)) w8 := ⟨hgrow.os, hgrow.tape, hgrow.output, hgrow.size, fun j hj hs => hgrow.block j hj (fun e => hs e.symm)⟩
        have bX8 := (((unhide HBK).below (unhide HB7)).below (unhide HAL)).chg hcg (unhide HNX)
        have e0 := (bX8.all 0 _ rfl).1
        have e1 := (bX8.all 1 _ rfl).1
        have e2 := (bX8.all 2 _ rfl).1
        have ef := (bX8.all 1 _ rfl).2
        have hXw : X < w7.heap.size := by have := (unhide HB7).size; omega
        have hgX : g5 ≠ X := by
          rcases hat with e | e
          · intro e2; rw [e2] at e; exact unhide HNX e
          · omega
        have HG8 := (unhide HG).app (q := ⟨8, V, 0, 1, blQ⟩) (unhide HB7) ⟨⟨rfl, Nat.le_refl _, Nat.zero_le _, .inl rfl⟩, ⟨rfl, Nat.le_refl _, Nat.zero_le _, .inl rfl⟩, Ok.nil, Ok.nil⟩ (fun i hi => ⟨by have h1 := (show W3.heap.size ≤ i from by rcases hi with ⟨z, _, h, _⟩ | ⟨z, _, h, _⟩ <;> exact absurd rfl h); have := unhide HYlt; omega, by have h1 := (show W3.heap.size ≤ i from by rcases hi with ⟨z, _, h, _⟩ | ⟨z, _, h, _⟩ <;> exact absurd rfl h); have := unhide HYlt; rintro rfl; omega⟩) hgrow hown hat (by simp)
        have hnx9 : (Value.slice (some ⟨g5, 0, none⟩) (qs.length + 1) cap5).ownBlock ≠ some X := by intro e; simp [Value.ownBlock] at e; exact hgX e
        have HG9 := hide (HG8.set2 (X := X) hnx9 rfl 1 (.slice (some ⟨g5, 0, none⟩) (qs.length + 1) cap5))
        have HBX9 := hide (bX8.put 1 (.slice (some ⟨g5, 0, none⟩) (qs.length + 1) cap5))
        have HNX9 := hide hnx9
        have HF9 := hide (show ∀ pq ∈ qs ++ [(⟨8, V, 0, 1, blQ⟩ : On)], ∀ i, nqB pq.p i → w2.heap.size ≤ i from fun pq hp i hi => by
          rcases List.mem_append.1 hp with hp | hp
          · exact unhide HF pq hp i hi
          · obtain rfl := List.mem_singleton.1 hp
            have h1 := (show W3.heap.size ≤ i from by rcases hi with ⟨z, _, h, _⟩ | ⟨z, _, h, _⟩ <;> exact absurd rfl h)
            have := unhide HYlt
            have := (unhide HG).bel.size
            omega)
        have HC9 := hide (show (qs ++ [(⟨8, V, 0, 1, blQ⟩ : On)]).map conO = (osi ++ (oso.take (k + 1)).map (bhO n ysi)).map conO from by
          rw [List.map_append, unhide HC, List.take_add_one, unhide HO]
          simp [conO, conQ, bhO, ← unhide HV])
        clear hown hgrow hat hlt8 hcg bX8 hXw hgX HG8 hnx9 how hone hmx hby
        go_wp2_with fail
        exact ⟨⟨k + 1, _, _, by omega, by (first | rfl | go_num), HG9, HC9, HBX9, HNX9, HF9⟩, by simp [intOf]; omega⟩
      · subst hj
        have HBY7 : Hid (BoxP w6 wr.heap.size [.int .i64 2, .int .i64 (A' : Int), .int .i64 (B' : Int), .int .i64 on', .bool p.g, .slice a3 m3 c3', .slice a4 m4 c4']) := HBY6
        have HB7 := HB6
        have y0 := ((unhide HBY7).all 0 _ rfl).1
        have z0 := ((unhide HBY7).all 0 _ rfl).2
        have y1 := ((unhide HBY7).all 1 _ rfl).1
        have z1 := ((unhide HBY7).all 1 _ rfl).2
        have y2 := ((unhide HBY7).all 2 _ rfl).1
        have z2 := ((unhide HBY7).all 2 _ rfl).2
        have y3 := ((unhide HBY7).all 3 _ rfl).1
        have z3 := ((unhide HBY7).all 3 _ rfl).2
        have y4 := ((unhide HBY7).all 4 _ rfl).1
        have z4 := ((unhide HBY7).all 4 _ rfl).2
        have y5 := ((unhide HBY7).all 5 _ rfl).1
        have z5 := ((unhide HBY7).all 5 _ rfl).2
        have y6 := ((unhide HBY7).all 6 _ rfl).1
        have z6 := ((unhide HBY7).all 6 _ rfl).2
        have bY7 := unhide HBY7
        have y0 := (bY7.all 0 _ rfl).1
        have y1 := (bY7.all 1 _ rfl).1
        have y2 := (bY7.all 2 _ rfl).1
        have y3 := (bY7.all 3 _ rfl).1
        have y4 := (bY7.all 4 _ rfl).1
        have y5 := (bY7.all 5 _ rfl).1
        have y6 := (bY7.all 6 _ rfl).1
        have e0 := (((unhide HBK).below (unhide HB7)).all 0 _ rfl).1
        have e1 := (((unhide HBK).below (unhide HB7)).all 1 _ rfl).1
        have e2 := (((unhide HBK).below (unhide HB7)).all 2 _ rfl).1
        have hal : Below w6.heap.size w6 (w6.alloc (.cells #[.int .i64 2, .int .i64 (A' : Int), .int .i64 (B' : Int), .int .i64 on', .bool p.g, .slice a3 m3 c3', .slice a4 m4 c4'] 54)) := (Below.refl _ _).alloc (Nat.le_refl _) _
        have how : (w6.alloc (.cells #[.int .i64 2, .int .i64 (A' : Int), .int .i64 (B' : Int), .int .i64 on', .bool p.g, .slice a3 m3 c3', .slice a4 m4 c4'] 54)).ownsRow w2.heap.size 54 7 (.slice sa qs.length sc) qs.length (celO qs) := (((unhide HG).below (unhide HB7)).below hal).own
        have hone : ∀ u ∈ ([.int .i64 2, .int .i64 (A' : Int), .int .i64 (B' : Int), .int .i64 on', .bool p.g, .slice a3 m3 c3', .slice a4 m4 c4'] : List Value), u.oneCell' = true := by intro u hu; simp at hu; rcases hu with rfl | rfl | rfl | rfl | rfl | rfl | rfl <;> rfl
        have hmx : qs.length + 1 ≤ maxLen := by have := unhide HQL; unfold maxLen; omega
        have hby : (qs.length + 1) * 88 ≤ 140737488355328 := by have := unhide HQL; omega
        have hlw : w2.heap.size ≤ w6.heap.size := ((unhide HG).below (unhide HB7)).bel.size
        have HAL := hide hal
        clear hal bY7
        go_wp2_with (at_builtin; refine wpList_append_lies _ rfl _ _ 22 rfl w2.heap.size 54 i88 (.agg #[.int .i64 0, .int .i64 0, .int .i64 0, .int .i64 0, .bool false, .slice none 0 0, .slice none 0 0]) 7 88 Tryd.underlying22 (unhide HI).1 (unhide HI).2.1 (unhide HI).2.2.1 (unhide HI).2.2.2 rfl (by decide) (.slice sa qs.length sc) qs.length (celO qs) rfl how ⟨w6.heap.size, 0, none⟩ 1 1 [.int .i64 2, .int .i64 (A' : Int), .int .i64 (B' : Int), .int .i64 on', .bool p.g, .slice a3 m3 c3', .slice a4 m4 c4'] rfl rfl (World.news_of_block (alloc_block _ _)) hone (by decide) hmx hby (by simp <;> omega) (w6.heap.size + 1) (by simp) ?_)
        intro g5 cap5 w8 hown hgrow hat hlt8
        have hcg : Chg (fun j => (Value.slice sa qs.length sc).ownBlock = some j) (w6.alloc (.cells #[.int .i64 2, .int .i64 (A' : Int), .int .i64 (B' : Int), .int .i64 on', .bool p.g, .slice a3 m3 c3', .slice a4 m4 c4'] 54)) w8 := ⟨hgrow.os, hgrow.tape, hgrow.output, hgrow.size, fun j hj hs => hgrow.block j hj (fun e => hs e.symm)⟩
        have bX8 := (((unhide HBK).below (unhide HB7)).below (unhide HAL)).chg hcg (unhide HNX)
        have e0 := (bX8.all 0 _ rfl).1
        have e1 := (bX8.all 1 _ rfl).1
        have e2 := (bX8.all 2 _ rfl).1
        have ef := (bX8.all 1 _ rfl).2
        have hXw : X < w6.heap.size := by have := (unhide HB7).size; omega
        have hgX : g5 ≠ X := by
          rcases hat with e | e
          · intro e2; rw [e2] at e; exact unhide HNX e
          · omega
        have HG8 := (unhide HG).app (q := ⟨2, (A' : Int), (B' : Int), on', ⟨p.g, a3, m3, c3', p.x, a4, m4, c4', p.y⟩⟩) (unhide HB7) (unhide HNQ).1 (fun i hi => ⟨by have h1 := (unhide HNQ).2 i hi; have := unhide HYlt; omega, by have h1 := (unhide HNQ).2 i hi; have := unhide HYlt; rintro rfl; omega⟩) hgrow hown hat (by simp)
        have hnx9 : (Value.slice (some ⟨g5, 0, none⟩) (qs.length + 1) cap5).ownBlock ≠ some X := by intro e; simp [Value.ownBlock] at e; exact hgX e
        have HG9 := hide (HG8.set2 (X := X) hnx9 rfl 1 (.slice (some ⟨g5, 0, none⟩) (qs.length + 1) cap5))
        have HBX9 := hide (bX8.put 1 (.slice (some ⟨g5, 0, none⟩) (qs.length + 1) cap5))
        have HNX9 := hide hnx9
        have HF9 := hide (show ∀ pq ∈ qs ++ [(⟨2, (A' : Int), (B' : Int), on', ⟨p.g, a3, m3, c3', p.x, a4, m4, c4', p.y⟩⟩ : On)], ∀ i, nqB pq.p i → w2.heap.size ≤ i from fun pq hp i hi => by
          rcases List.mem_append.1 hp with hp | hp
          · exact unhide HF pq hp i hi
          · obtain rfl := List.mem_singleton.1 hp
            have h1 := (unhide HNQ).2 i hi
            have := unhide HYlt
            have := (unhide HG).bel.size
            omega)
        have HC9 := hide (show (qs ++ [(⟨2, (A' : Int), (B' : Int), on', ⟨p.g, a3, m3, c3', p.x, a4, m4, c4', p.y⟩⟩ : On)]).map conO = (osi ++ (oso.take (k + 1)).map (bhO n ysi)).map conO from by
          rw [List.map_append, unhide HC, List.take_add_one, unhide HO]
          simp [conO, conQ, bhO])
        clear hown hgrow hat hlt8 hcg bX8 hXw hgX HG8 hnx9 how hone hmx hby
        go_wp2_with fail
        exact ⟨⟨k + 1, _, _, by omega, by (first | rfl | go_num), HG9, HC9, HBX9, HNX9, HF9⟩, by simp [intOf]; omega⟩
      · subst hj
        have HBYa : Hid (BoxP w6 wr.heap.size [.int .i64 7, .int .i64 (A' : Int), .int .i64 (B' : Int), .int .i64 on', .bool p.g, .slice a3 m3 c3', .slice a4 m4 c4']) := HBY6
        have y0 := ((unhide HBYa).all 0 _ rfl).1
        have z0 := ((unhide HBYa).all 0 _ rfl).2
        have y1 := ((unhide HBYa).all 1 _ rfl).1
        have z1 := ((unhide HBYa).all 1 _ rfl).2
        have y2 := ((unhide HBYa).all 2 _ rfl).1
        have z2 := ((unhide HBYa).all 2 _ rfl).2
        have y3 := ((unhide HBYa).all 3 _ rfl).1
        have z3 := ((unhide HBYa).all 3 _ rfl).2
        have y4 := ((unhide HBYa).all 4 _ rfl).1
        have z4 := ((unhide HBYa).all 4 _ rfl).2
        have y5 := ((unhide HBYa).all 5 _ rfl).1
        have z5 := ((unhide HBYa).all 5 _ rfl).2
        have y6 := ((unhide HBYa).all 6 _ rfl).1
        have z6 := ((unhide HBYa).all 6 _ rfl).2
        have bYn : BoxP (w6.setCell ⟨wr.heap.size, 1, none⟩ (.int .i64 ((A' : Int) + (n : Int)))) wr.heap.size [.int .i64 7, .int .i64 ((A' : Int) + (n : Int)), .int .i64 (B' : Int), .int .i64 on', .bool p.g, .slice a3 m3 c3', .slice a4 m4 c4'] := (unhide HBYa).put 1 (.int .i64 ((A' : Int) + (n : Int)))
        have hcn : Chg (fun j => j = wr.heap.size) w6 (w6.setCell ⟨wr.heap.size, 1, none⟩ (.int .i64 ((A' : Int) + (n : Int)))) := Chg.of_set w6 wr.heap.size 1 _ rfl
        have HBYn := hide bYn
        have HCn := hide hcn
        clear bYn hcn
        repeat ((fail_if_success (with_reducible (show Code.wp _ _ _ _ (World.setCell _ _ _)))); (first | go_values | go_skip | go_guarded | go_step | go_upon | go_back))
        generalize w6.setCell ⟨wr.heap.size, 1, none⟩ (.int .i64 ((A' : Int) + (n : Int))) = w7 at *
        have HBY7 := HBYn
        have HB7 := hide ((unhide HB6).trans ((unhide HCn).below (B := wr.heap.size) (unhide HB6).size (fun j hj e => by omega)))
        have bY7 := unhide HBY7
        have y0 := (bY7.all 0 _ rfl).1
        have y1 := (bY7.all 1 _ rfl).1
        have y2 := (bY7.all 2 _ rfl).1
        have y3 := (bY7.all 3 _ rfl).1
        have y4 := (bY7.all 4 _ rfl).1
        have y5 := (bY7.all 5 _ rfl).1
        have y6 := (bY7.all 6 _ rfl).1
        have e0 := (((unhide HBK).below (unhide HB7)).all 0 _ rfl).1
        have e1 := (((unhide HBK).below (unhide HB7)).all 1 _ rfl).1
        have e2 := (((unhide HBK).below (unhide HB7)).all 2 _ rfl).1
        have hal : Below w7.heap.size w7 (w7.alloc (.cells #[.int .i64 7, .int .i64 ((A' : Int) + (n : Int)), .int .i64 (B' : Int), .int .i64 on', .bool p.g, .slice a3 m3 c3', .slice a4 m4 c4'] 54)) := (Below.refl _ _).alloc (Nat.le_refl _) _
        have how : (w7.alloc (.cells #[.int .i64 7, .int .i64 ((A' : Int) + (n : Int)), .int .i64 (B' : Int), .int .i64 on', .bool p.g, .slice a3 m3 c3', .slice a4 m4 c4'] 54)).ownsRow w2.heap.size 54 7 (.slice sa qs.length sc) qs.length (celO qs) := (((unhide HG).below (unhide HB7)).below hal).own
        have hone : ∀ u ∈ ([.int .i64 7, .int .i64 ((A' : Int) + (n : Int)), .int .i64 (B' : Int), .int .i64 on', .bool p.g, .slice a3 m3 c3', .slice a4 m4 c4'] : List Value), u.oneCell' = true := by intro u hu; simp at hu; rcases hu with rfl | rfl | rfl | rfl | rfl | rfl | rfl <;> rfl
        have hmx : qs.length + 1 ≤ maxLen := by have := unhide HQL; unfold maxLen; omega
        have hby : (qs.length + 1) * 88 ≤ 140737488355328 := by have := unhide HQL; omega
        have hlw : w2.heap.size ≤ w7.heap.size := ((unhide HG).below (unhide HB7)).bel.size
        have HAL := hide hal
        clear hal bY7
        go_wp2_with (at_builtin; refine wpList_append_lies _ rfl _ _ 22 rfl w2.heap.size 54 i88 (.agg #[.int .i64 0, .int .i64 0, .int .i64 0, .int .i64 0, .bool false, .slice none 0 0, .slice none 0 0]) 7 88 Tryd.underlying22 (unhide HI).1 (unhide HI).2.1 (unhide HI).2.2.1 (unhide HI).2.2.2 rfl (by decide) (.slice sa qs.length sc) qs.length (celO qs) rfl how ⟨w7.heap.size, 0, none⟩ 1 1 [.int .i64 7, .int .i64 ((A' : Int) + (n : Int)), .int .i64 (B' : Int), .int .i64 on', .bool p.g, .slice a3 m3 c3', .slice a4 m4 c4'] rfl rfl (World.news_of_block (alloc_block _ _)) hone (by decide) hmx hby (by simp <;> omega) (w7.heap.size + 1) (by simp) ?_)
        intro g5 cap5 w8 hown hgrow hat hlt8
        have hcg : Chg (fun j => (Value.slice sa qs.length sc).ownBlock = some j) (w7.alloc (.cells #[.int .i64 7, .int .i64 ((A' : Int) + (n : Int)), .int .i64 (B' : Int), .int .i64 on', .bool p.g, .slice a3 m3 c3', .slice a4 m4 c4'] 54)) w8 := ⟨hgrow.os, hgrow.tape, hgrow.output, hgrow.size, fun j hj hs => hgrow.block j hj (fun e => hs e.symm)⟩
        have bX8 := (((unhide HBK).below (unhide HB7)).below (unhide HAL)).chg hcg (unhide HNX)
        have e0 := (bX8.all 0 _ rfl).1
        have e1 := (bX8.all 1 _ rfl).1
        have e2 := (bX8.all 2 _ rfl).1
        have ef := (bX8.all 1 _ rfl).2
        have hXw : X < w7.heap.size := by have := (unhide HB7).size; omega
        have hgX : g5 ≠ X := by
          rcases hat with e | e
          · intro e2; rw [e2] at e; exact unhide HNX e
          · omega
        have HG8 := (unhide HG).app (q := ⟨7, (A' : Int) + (n : Int), (B' : Int), on', ⟨p.g, a3, m3, c3', p.x, a4, m4, c4', p.y⟩⟩) (unhide HB7) ((unhide HNQ).1.st (unhide HCn) (fun i hi e => by have := (unhide HNQ).2 i hi; have := unhide HYlt; omega)) (fun i hi => ⟨by have h1 := (unhide HNQ).2 i hi; have := unhide HYlt; omega, by have h1 := (unhide HNQ).2 i hi; have := unhide HYlt; rintro rfl; omega⟩) hgrow hown hat (by simp)
        have hnx9 : (Value.slice (some ⟨g5, 0, none⟩) (qs.length + 1) cap5).ownBlock ≠ some X := by intro e; simp [Value.ownBlock] at e; exact hgX e
        have HG9 := hide (HG8.set2 (X := X) hnx9 rfl 1 (.slice (some ⟨g5, 0, none⟩) (qs.length + 1) cap5))
        have HBX9 := hide (bX8.put 1 (.slice (some ⟨g5, 0, none⟩) (qs.length + 1) cap5))
        have HNX9 := hide hnx9
        have HF9 := hide (show ∀ pq ∈ qs ++ [(⟨7, (A' : Int) + (n : Int), (B' : Int), on', ⟨p.g, a3, m3, c3', p.x, a4, m4, c4', p.y⟩⟩ : On)], ∀ i, nqB pq.p i → w2.heap.size ≤ i from fun pq hp i hi => by
          rcases List.mem_append.1 hp with hp | hp
          · exact unhide HF pq hp i hi
          · obtain rfl := List.mem_singleton.1 hp
            have h1 := (unhide HNQ).2 i hi
            have := unhide HYlt
            have := (unhide HG).bel.size
            omega)
        have HC9 := hide (show (qs ++ [(⟨7, (A' : Int) + (n : Int), (B' : Int), on', ⟨p.g, a3, m3, c3', p.x, a4, m4, c4', p.y⟩⟩ : On)]).map conO = (osi ++ (oso.take (k + 1)).map (bhO n ysi)).map conO from by
          rw [List.map_append, unhide HC, List.take_add_one, unhide HO]
          simp [conO, conQ, bhO])
        clear hown hgrow hat hlt8 hcg bX8 hXw hgX HG8 hnx9 how hone hmx hby
        go_wp2_with fail
        exact ⟨⟨k + 1, _, _, by omega, by (first | rfl | go_num), HG9, HC9, HBX9, HNX9, HF9⟩, by simp [intOf]; omega⟩
      · subst hj
        have HBYa : Hid (BoxP w6 wr.heap.size [.int .i64 8, .int .i64 (A' : Int), .int .i64 (B' : Int), .int .i64 on', .bool p.g, .slice a3 m3 c3', .slice a4 m4 c4']) := HBY6
        have y0 := ((unhide HBYa).all 0 _ rfl).1
        have z0 := ((unhide HBYa).all 0 _ rfl).2
        have y1 := ((unhide HBYa).all 1 _ rfl).1
        have z1 := ((unhide HBYa).all 1 _ rfl).2
        have y2 := ((unhide HBYa).all 2 _ rfl).1
        have z2 := ((unhide HBYa).all 2 _ rfl).2
        have y3 := ((unhide HBYa).all 3 _ rfl).1
        have z3 := ((unhide HBYa).all 3 _ rfl).2
        have y4 := ((unhide HBYa).all 4 _ rfl).1
        have z4 := ((unhide HBYa).all 4 _ rfl).2
        have y5 := ((unhide HBYa).all 5 _ rfl).1
        have z5 := ((unhide HBYa).all 5 _ rfl).2
        have y6 := ((unhide HBYa).all 6 _ rfl).1
        have z6 := ((unhide HBYa).all 6 _ rfl).2
        have bYn : BoxP (w6.setCell ⟨wr.heap.size, 1, none⟩ (.int .i64 ((A' : Int) + (n : Int)))) wr.heap.size [.int .i64 8, .int .i64 ((A' : Int) + (n : Int)), .int .i64 (B' : Int), .int .i64 on', .bool p.g, .slice a3 m3 c3', .slice a4 m4 c4'] := (unhide HBYa).put 1 (.int .i64 ((A' : Int) + (n : Int)))
        have hcn : Chg (fun j => j = wr.heap.size) w6 (w6.setCell ⟨wr.heap.size, 1, none⟩ (.int .i64 ((A' : Int) + (n : Int)))) := Chg.of_set w6 wr.heap.size 1 _ rfl
        have HBYn := hide bYn
        have HCn := hide hcn
        clear bYn hcn
        repeat ((fail_if_success (with_reducible (show Code.wp _ _ _ _ (World.setCell _ _ _)))); (first | go_values | go_skip | go_guarded | go_step | go_upon | go_back))
        generalize w6.setCell ⟨wr.heap.size, 1, none⟩ (.int .i64 ((A' : Int) + (n : Int))) = w7 at *
        have HBY7 := HBYn
        have HB7 := hide ((unhide HB6).trans ((unhide HCn).below (B := wr.heap.size) (unhide HB6).size (fun j hj e => by omega)))
        have bY7 := unhide HBY7
        have y0 := (bY7.all 0 _ rfl).1
        have y1 := (bY7.all 1 _ rfl).1
        have y2 := (bY7.all 2 _ rfl).1
        have y3 := (bY7.all 3 _ rfl).1
        have y4 := (bY7.all 4 _ rfl).1
        have y5 := (bY7.all 5 _ rfl).1
        have y6 := (bY7.all 6 _ rfl).1
        have e0 := (((unhide HBK).below (unhide HB7)).all 0 _ rfl).1
        have e1 := (((unhide HBK).below (unhide HB7)).all 1 _ rfl).1
        have e2 := (((unhide HBK).below (unhide HB7)).all 2 _ rfl).1
        have hal : Below w7.heap.size w7 (w7.alloc (.cells #[.int .i64 8, .int .i64 ((A' : Int) + (n : Int)), .int .i64 (B' : Int), .int .i64 on', .bool p.g, .slice a3 m3 c3', .slice a4 m4 c4'] 54)) := (Below.refl _ _).alloc (Nat.le_refl _) _
        have how : (w7.alloc (.cells #[.int .i64 8, .int .i64 ((A' : Int) + (n : Int)), .int .i64 (B' : Int), .int .i64 on', .bool p.g, .slice a3 m3 c3', .slice a4 m4 c4'] 54)).ownsRow w2.heap.size 54 7 (.slice sa qs.length sc) qs.length (celO qs) := (((unhide HG).below (unhide HB7)).below hal).own
        have hone : ∀ u ∈ ([.int .i64 8, .int .i64 ((A' : Int) + (n : Int)), .int .i64 (B' : Int), .int .i64 on', .bool p.g, .slice a3 m3 c3', .slice a4 m4 c4'] : List Value), u.oneCell' = true := by intro u hu; simp at hu; rcases hu with rfl | rfl | rfl | rfl | rfl | rfl | rfl <;> rfl
        have hmx : qs.length + 1 ≤ maxLen := by have := unhide HQL; unfold maxLen; omega
        have hby : (qs.length + 1) * 88 ≤ 140737488355328 := by have := unhide HQL; omega
        have hlw : w2.heap.size ≤ w7.heap.size := ((unhide HG).below (unhide HB7)).bel.size
        have HAL := hide hal
        clear hal bY7
        go_wp2_with (at_builtin; refine wpList_append_lies _ rfl _ _ 22 rfl w2.heap.size 54 i88 (.agg #[.int .i64 0, .int .i64 0, .int .i64 0, .int .i64 0, .bool false, .slice none 0 0, .slice none 0 0]) 7 88 Tryd.underlying22 (unhide HI).1 (unhide HI).2.1 (unhide HI).2.2.1 (unhide HI).2.2.2 rfl (by decide) (.slice sa qs.length sc) qs.length (celO qs) rfl how ⟨w7.heap.size, 0, none⟩ 1 1 [.int .i64 8, .int .i64 ((A' : Int) + (n : Int)), .int .i64 (B' : Int), .int .i64 on', .bool p.g, .slice a3 m3 c3', .slice a4 m4 c4'] rfl rfl (World.news_of_block (alloc_block _ _)) hone (by decide) hmx hby (by simp <;> omega) (w7.heap.size + 1) (by simp) ?_)
        intro g5 cap5 w8 hown hgrow hat hlt8
        have hcg : Chg (fun j => (Value.slice sa qs.length sc).ownBlock = some j) (w7.alloc (.cells #[.int .i64 8, .int .i64 ((A' : Int) + (n : Int)), .int .i64 (B' : Int), .int .i64 on', .bool p.g, .slice a3 m3 c3', .slice a4 m4 c4'] 54)) w8 := ⟨hgrow.os, hgrow.tape, hgrow.output, hgrow.size, fun j hj hs => hgrow.block j hj (fun e => hs e.symm)⟩
        have bX8 := (((unhide HBK).below (unhide HB7)).below (unhide HAL)).chg hcg (unhide HNX)
        have e0 := (bX8.all 0 _ rfl).1
        have e1 := (bX8.all 1 _ rfl).1
        have e2 := (bX8.all 2 _ rfl).1
        have ef := (bX8.all 1 _ rfl).2
        have hXw : X < w7.heap.size := by have := (unhide HB7).size; omega
        have hgX : g5 ≠ X := by
          rcases hat with e | e
          · intro e2; rw [e2] at e; exact unhide HNX e
          · omega
        have HG8 := (unhide HG).app (q := ⟨8, (A' : Int) + (n : Int), (B' : Int), on', ⟨p.g, a3, m3, c3', p.x, a4, m4, c4', p.y⟩⟩) (unhide HB7) ((unhide HNQ).1.st (unhide HCn) (fun i hi e => by have := (unhide HNQ).2 i hi; have := unhide HYlt; omega)) (fun i hi => ⟨by have h1 := (unhide HNQ).2 i hi; have := unhide HYlt; omega, by have h1 := (unhide HNQ).2 i hi; have := unhide HYlt; rintro rfl; omega⟩) hgrow hown hat (by simp)
        have hnx9 : (Value.slice (some ⟨g5, 0, none⟩) (qs.length + 1) cap5).ownBlock ≠ some X := by intro e; simp [Value.ownBlock] at e; exact hgX e
        have HG9 := hide (HG8.set2 (X := X) hnx9 rfl 1 (.slice (some ⟨g5, 0, none⟩) (qs.length + 1) cap5))
        have HBX9 := hide (bX8.put 1 (.slice (some ⟨g5, 0, none⟩) (qs.length + 1) cap5))
        have HNX9 := hide hnx9
        have HF9 := hide (show ∀ pq ∈ qs ++ [(⟨8, (A' : Int) + (n : Int), (B' : Int), on', ⟨p.g, a3, m3, c3', p.x, a4, m4, c4', p.y⟩⟩ : On)], ∀ i, nqB pq.p i → w2.heap.size ≤ i from fun pq hp i hi => by
          rcases List.mem_append.1 hp with hp | hp
          · exact unhide HF pq hp i hi
          · obtain rfl := List.mem_singleton.1 hp
            have h1 := (unhide HNQ).2 i hi
            have := unhide HYlt
            have := (unhide HG).bel.size
            omega)
        have HC9 := hide (show (qs ++ [(⟨8, (A' : Int) + (n : Int), (B' : Int), on', ⟨p.g, a3, m3, c3', p.x, a4, m4, c4', p.y⟩⟩ : On)]).map conO = (osi ++ (oso.take (k + 1)).map (bhO n ysi)).map conO from by
          rw [List.map_append, unhide HC, List.take_add_one, unhide HO]
          simp [conO, conQ, bhO])
        clear hown hgrow hat hlt8 hcg bX8 hXw hgX HG8 hnx9 how hone hmx hby
        go_wp2_with fail
        exact ⟨⟨k + 1, _, _, by omega, by (first | rfl | go_num), HG9, HC9, HBX9, HNX9, HF9⟩, by simp [intOf]; omega⟩
      · have HBYa := HBY6
        have k1 : ((j : Int) == 1) = false := beq_false_of_ne (by omega)
        have k2 : ((j : Int) == 2) = false := beq_false_of_ne (by omega)
        have k7 : ((j : Int) == 7) = false := beq_false_of_ne (by omega)
        have k8 : ((j : Int) == 8) = false := beq_false_of_ne (by omega)
        have n1 : ¬ (j : Int) = 1 := by omega
        have n2 : ¬ (j : Int) = 2 := by omega
        have n7 : ¬ 7 ≤ (j : Int) := by omega
        have n71 : ¬ (j : Int) = 7 := by omega
        have n8 : ¬ (j : Int) = 8 := by omega
        have y0 := ((unhide HBYa).all 0 _ rfl).1
        have z0 := ((unhide HBYa).all 0 _ rfl).2
        have y1 := ((unhide HBYa).all 1 _ rfl).1
        have z1 := ((unhide HBYa).all 1 _ rfl).2
        have y2 := ((unhide HBYa).all 2 _ rfl).1
        have z2 := ((unhide HBYa).all 2 _ rfl).2
        have y3 := ((unhide HBYa).all 3 _ rfl).1
        have z3 := ((unhide HBYa).all 3 _ rfl).2
        have y4 := ((unhide HBYa).all 4 _ rfl).1
        have z4 := ((unhide HBYa).all 4 _ rfl).2
        have y5 := ((unhide HBYa).all 5 _ rfl).1
        have z5 := ((unhide HBYa).all 5 _ rfl).2
        have y6 := ((unhide HBYa).all 6 _ rfl).1
        have z6 := ((unhide HBYa).all 6 _ rfl).2
        have bYn : BoxP (w6.setCell ⟨wr.heap.size, 1, none⟩ (.int .i64 ((A' : Int) + (n : Int)))) wr.heap.size [.int .i64 (j : Int), .int .i64 ((A' : Int) + (n : Int)), .int .i64 (B' : Int), .int .i64 on', .bool p.g, .slice a3 m3 c3', .slice a4 m4 c4'] := (unhide HBYa).put 1 (.int .i64 ((A' : Int) + (n : Int)))
        have hcn : Chg (fun j => j = wr.heap.size) w6 (w6.setCell ⟨wr.heap.size, 1, none⟩ (.int .i64 ((A' : Int) + (n : Int)))) := Chg.of_set w6 wr.heap.size 1 _ rfl
        have HBYn := hide bYn
        have HCn := hide hcn
        clear bYn hcn
        repeat ((fail_if_success (with_reducible (show Code.wp _ _ _ _ (World.setCell _ _ _)))); (first | go_values | go_skip | go_guarded | go_step | go_upon | go_back))
        generalize w6.setCell ⟨wr.heap.size, 1, none⟩ (.int .i64 ((A' : Int) + (n : Int))) = w6a at *
        have HBYb := HBYn
        have HCa := HCn
        have bX7 := ((unhide HBK).below (unhide HB6)).chg (unhide HCn) hXY
        have e0 := (bX7.all 0 _ rfl).1
        have e1 := (bX7.all 1 _ rfl).1
        have e2 := (bX7.all 2 _ rfl).1
        clear bX7
        have y0 := ((unhide HBYb).all 0 _ rfl).1
        have z0 := ((unhide HBYb).all 0 _ rfl).2
        have y1 := ((unhide HBYb).all 1 _ rfl).1
        have z1 := ((unhide HBYb).all 1 _ rfl).2
        have y2 := ((unhide HBYb).all 2 _ rfl).1
        have z2 := ((unhide HBYb).all 2 _ rfl).2
        have y3 := ((unhide HBYb).all 3 _ rfl).1
        have z3 := ((unhide HBYb).all 3 _ rfl).2
        have y4 := ((unhide HBYb).all 4 _ rfl).1
        have z4 := ((unhide HBYb).all 4 _ rfl).2
        have y5 := ((unhide HBYb).all 5 _ rfl).1
        have z5 := ((unhide HBYb).all 5 _ rfl).2
        have y6 := ((unhide HBYb).all 6 _ rfl).1
        have z6 := ((unhide HBYb).all 6 _ rfl).2
        have bYn : BoxP (w6a.setCell ⟨wr.heap.size, 2, none⟩ (.int .i64 ((B' : Int) + (n : Int)))) wr.heap.size [.int .i64 (j : Int), .int .i64 ((A' : Int) + (n : Int)), .int .i64 ((B' : Int) + (n : Int)), .int .i64 on', .bool p.g, .slice a3 m3 c3', .slice a4 m4 c4'] := (unhide HBYb).put 2 (.int .i64 ((B' : Int) + (n : Int)))
        have hcn : Chg (fun j => j = wr.heap.size) w6a (w6a.setCell ⟨wr.heap.size, 2, none⟩ (.int .i64 ((B' : Int) + (n : Int)))) := Chg.of_set w6a wr.heap.size 2 _ rfl
        have HBYn := hide bYn
        have HCn := hide hcn
        clear bYn hcn
        repeat ((fail_if_success (with_reducible (show Code.wp _ _ _ _ (World.setCell _ _ _)))); (first | go_values | go_skip | go_guarded | go_step | go_upon | go_back))
        generalize w6a.setCell ⟨wr.heap.size, 2, none⟩ (.int .i64 ((B' : Int) + (n : Int))) = w7 at *
        have HBY7 := HBYn
        have HB7 := hide (((unhide HB6).trans ((unhide HCa).below (B := wr.heap.size) (unhide HB6).size (fun j hj e => by omega))).trans ((unhide HCn).below (B := wr.heap.size) (by have := (unhide HB6).size; have := (unhide HCa).size; omega) (fun j hj e => by omega)))
        have bY7 := unhide HBY7
        have y0 := (bY7.all 0 _ rfl).1
        have y1 := (bY7.all 1 _ rfl).1
        have y2 := (bY7.all 2 _ rfl).1
        have y3 := (bY7.all 3 _ rfl).1
        have y4 := (bY7.all 4 _ rfl).1
        have y5 := (bY7.all 5 _ rfl).1
        have y6 := (bY7.all 6 _ rfl).1
        have e0 := (((unhide HBK).below (unhide HB7)).all 0 _ rfl).1
        have e1 := (((unhide HBK).below (unhide HB7)).all 1 _ rfl).1
        have e2 := (((unhide HBK).below (unhide HB7)).all 2 _ rfl).1
        have hal : Below w7.heap.size w7 (w7.alloc (.cells #[.int .i64 (j : Int), .int .i64 ((A' : Int) + (n : Int)), .int .i64 ((B' : Int) + (n : Int)), .int .i64 on', .bool p.g, .slice a3 m3 c3', .slice a4 m4 c4'] 54)) := (Below.refl _ _).alloc (Nat.le_refl _) _
        have how : (w7.alloc (.cells #[.int .i64 (j : Int), .int .i64 ((A' : Int) + (n : Int)), .int .i64 ((B' : Int) + (n : Int)), .int .i64 on', .bool p.g, .slice a3 m3 c3', .slice a4 m4 c4'] 54)).ownsRow w2.heap.size 54 7 (.slice sa qs.length sc) qs.length (celO qs) := (((unhide HG).below (unhide HB7)).below hal).own
        have hone : ∀ u ∈ ([.int .i64 (j : Int), .int .i64 ((A' : Int) + (n : Int)), .int .i64 ((B' : Int) + (n : Int)), .int .i64 on', .bool p.g, .slice a3 m3 c3', .slice a4 m4 c4'] : List Value), u.oneCell' = true := by intro u hu; simp at hu; rcases hu with rfl | rfl | rfl | rfl | rfl | rfl | rfl <;> rfl
        have hmx : qs.length + 1 ≤ maxLen := by have := unhide HQL; unfold maxLen; omega
        have hby : (qs.length + 1) * 88 ≤ 140737488355328 := by have := unhide HQL; omega
        have hlw : w2.heap.size ≤ w7.heap.size := ((unhide HG).below (unhide HB7)).bel.size
        have HAL := hide hal
        clear hal bY7
        go_wp2_with (at_builtin; refine wpList_append_lies _ rfl _ _ 22 rfl w2.heap.size 54 i88 (.agg #[.int .i64 0, .int .i64 0, .int .i64 0, .int .i64 0, .bool false, .slice none 0 0, .slice none 0 0]) 7 88 Tryd.underlying22 (unhide HI).1 (unhide HI).2.1 (unhide HI).2.2.1 (unhide HI).2.2.2 rfl (by decide) (.slice sa qs.length sc) qs.length (celO qs) rfl how ⟨w7.heap.size, 0, none⟩ 1 1 [.int .i64 (j : Int), .int .i64 ((A' : Int) + (n : Int)), .int .i64 ((B' : Int) + (n : Int)), .int .i64 on', .bool p.g, .slice a3 m3 c3', .slice a4 m4 c4'] rfl rfl (World.news_of_block (alloc_block _ _)) hone (by decide) hmx hby (by simp <;> omega) (w7.heap.size + 1) (by simp) ?_)
        intro g5 cap5 w8 hown hgrow hat hlt8
        have hcg : Chg (fun j => (Value.slice sa qs.length sc).ownBlock = some j) (w7.alloc (.cells #[.int .i64 (j : Int), .int .i64 ((A' : Int) + (n : Int)), .int .i64 ((B' : Int) + (n : Int)), .int .i64 on', .bool p.g, .slice a3 m3 c3', .slice a4 m4 c4'] 54)) w8 := ⟨hgrow.os, hgrow.tape, hgrow.output, hgrow.size, fun j hj hs => hgrow.block j hj (fun e => hs e.symm)⟩
        have bX8 := (((unhide HBK).below (unhide HB7)).below (unhide HAL)).chg hcg (unhide HNX)
        have e0 := (bX8.all 0 _ rfl).1
        have e1 := (bX8.all 1 _ rfl).1
        have e2 := (bX8.all 2 _ rfl).1
        have ef := (bX8.all 1 _ rfl).2
        have hXw : X < w7.heap.size := by have := (unhide HB7).size; omega
        have hgX : g5 ≠ X := by
          rcases hat with e | e
          · intro e2; rw [e2] at e; exact unhide HNX e
          · omega
        have HG8 := (unhide HG).app (q := ⟨(j : Int), (A' : Int) + (n : Int), (B' : Int) + (n : Int), on', ⟨p.g, a3, m3, c3', p.x, a4, m4, c4', p.y⟩⟩) (unhide HB7) (((unhide HNQ).1.st (unhide HCa) (fun i hi e => by have := (unhide HNQ).2 i hi; have := unhide HYlt; omega)).st (unhide HCn) (fun i hi e => by have := (unhide HNQ).2 i hi; have := unhide HYlt; omega)) (fun i hi => ⟨by have h1 := (unhide HNQ).2 i hi; have := unhide HYlt; omega, by have h1 := (unhide HNQ).2 i hi; have := unhide HYlt; rintro rfl; omega⟩) hgrow hown hat (by simp)
        have hnx9 : (Value.slice (some ⟨g5, 0, none⟩) (qs.length + 1) cap5).ownBlock ≠ some X := by intro e; simp [Value.ownBlock] at e; exact hgX e
        have HG9 := hide (HG8.set2 (X := X) hnx9 rfl 1 (.slice (some ⟨g5, 0, none⟩) (qs.length + 1) cap5))
        have HBX9 := hide (bX8.put 1 (.slice (some ⟨g5, 0, none⟩) (qs.length + 1) cap5))
        have HNX9 := hide hnx9
        have HF9 := hide (show ∀ pq ∈ qs ++ [(⟨(j : Int), (A' : Int) + (n : Int), (B' : Int) + (n : Int), on', ⟨p.g, a3, m3, c3', p.x, a4, m4, c4', p.y⟩⟩ : On)], ∀ i, nqB pq.p i → w2.heap.size ≤ i from fun pq hp i hi => by
          rcases List.mem_append.1 hp with hp | hp
          · exact unhide HF pq hp i hi
          · obtain rfl := List.mem_singleton.1 hp
            have h1 := (unhide HNQ).2 i hi
            have := unhide HYlt
            have := (unhide HG).bel.size
            omega)
        have HC9 := hide (show (qs ++ [(⟨(j : Int), (A' : Int) + (n : Int), (B' : Int) + (n : Int), on', ⟨p.g, a3, m3, c3', p.x, a4, m4, c4', p.y⟩⟩ : On)]).map conO = (osi ++ (oso.take (k + 1)).map (bhO n ysi)).map conO from by
          rw [List.map_append, unhide HC, List.take_add_one, unhide HO]
          simp [conO, conQ, bhO, if_neg (show ¬ (j : Int) = 1 by omega), if_neg (show ¬ (j : Int) = 2 by omega), if_neg (show ¬ (7 : Int) ≤ (j : Int) by omega)])
        clear hown hgrow hat hlt8 hcg bX8 hXw hgX HG8 hnx9 how hone hmx hby
        go_wp2_with fail
        exact ⟨⟨k + 1, _, _, by omega, by (first | rfl | go_num), HG9, HC9, HBX9, HNX9, HF9⟩, by simp [intOf]; omega⟩
    · obtain rfl : on = k := by omega
      have hlt' : ¬ (on : Int) < (on : Int) := by omega
      clear hlt
      try go_wp2_with fail
      clear a0 a1 a2 b0 b1 b2 bX
      obtain ⟨Wb, rfl⟩ : ∃ x, x = wr := ⟨_, rfl⟩
      have hw2 : w2.heap.size ≤ Wb.heap.size := (unhide HG).bel.size
      obtain ⟨i64, hi, hz0, hsi, hb⟩ := info_parts Tryd.info_i64
      have HI3 := hide (And.intro hi (And.intro hz0 (And.intro hsi hb)))
      clear hi hz0 hsi hb
      have HBb := hide hbr
      have HC2 := hide (show qs.map conO = (cpO osi oso ysi).map conO from by rw [unhide HC, List.take_of_length_le (by have := (unhide HL).1; omega)]; unfold cpO; rw [(unhide HL).2.2.1])
      have HX2 := hide hXr
      clear hbr HC hXr hsl
      have HO0 := hide (World.ownsRow_nil Wb Wb.heap.size 3 1)
      have HK0 := hide (Chg.refl (fun j => j = X) Wb)
      go_loopw [13] (fun kv w3 => ∃ (k : Nat) (sv : Value), k ≤ om ∧ kv = .int .i64 (k : Int) ∧ Hid (w3.ownsRow Wb.heap.size 3 1 sv k (valsI (cpY n (yso.take k)))) ∧ Hid (Chg (fun j => j = X) Wb w3) ∧ Hid (BoxP w3 X [.int .i64 ii, .slice sa qs.length sc, sv])) (fun kv _ => om - (intOf kv).toNat)
      case atStart => exact ⟨0, .slice none 0 0, Nat.zero_le _, rfl, HO0, HK0, HBK⟩
      case round =>
        obtain ⟨k, sv, hk, rfl, HOW, HCG, HB3⟩ := hrel
        have hwk : Wb.heap.size ≤ wr.heap.size := (unhide HCG).size
        have hbr : Below wR.heap.size wR wr := (unhide HBb).trans ((unhide HCG).below (unhide HBb).size (fun j hj e => by have := unhide HXw; have := (unhide Hw2).size; omega))
        have a0 := (hbr.cell (World.block_lt_of_cell? _ _ A0)).trans A0
        have b0 := (hbr.cell (World.block_lt_of_cell? _ _ B0)).trans B0
        have a1 := (hbr.cell (World.block_lt_of_cell? _ _ A1)).trans A1
        have b1 := (hbr.cell (World.block_lt_of_cell? _ _ B1)).trans B1
        have a2 := (hbr.cell (World.block_lt_of_cell? _ _ A2)).trans A2
        have b2 := (hbr.cell (World.block_lt_of_cell? _ _ B2)).trans B2
        have x0 := ((unhide HB3).all 0 _ rfl).1
        have x1 := ((unhide HB3).all 1 _ rfl).1
        have x2 := ((unhide HB3).all 2 _ rfl).1
        by_cases hlt : k < om
        · have hlt' : (k : Int) < (om : Int) := by omega
          obtain ⟨b1, off, rfl, hcel⟩ := (unhide HOO).2.at (by omega)
          have gR := hcel k hlt
          have hb1 : b1 < wR.heap.size := World.block_lt_of_cell? _ _ gR
          have g0 := (hbr.cell hb1).trans gR
          have hkl : k < yso.length := by have := (unhide HL).2.1; omega
          have hmem : yso.getD k 0 ∈ yso := by
            have : yso.getD k 0 = yso[k] := by simp [List.getD, hkl]
            rw [this]; exact List.getElem_mem hkl
          obtain ⟨hy0, hy1⟩ := (unhide HKO).out _ hmem
          rw [(unhide HL).1] at hy1
          have hst : cpY n (yso.take (k + 1)) = cpY n (yso.take k) ++ [yso.getD k 0 + (n : Int)] := by
            unfold cpY
            rw [List.take_add_one, List.getElem?_eq_getElem hkl, List.map_append]
            have : yso.getD k 0 = yso[k] := by simp [List.getD, hkl]
            rw [this, Int.add_comm]
            rfl
          generalize yso.getD k 0 = y at *
          have HST := hide hst
          have hy2 : 0 ≤ y + (n : Int) := by omega
          have hy3 : y + (n : Int) ≤ 2048 := by omega
          clear hcel hmem hst hkl gR
          have hwrap : IntKind.i64.wrap (y + (n : Int)) = y + (n : Int) := by rw [wrap_j64]; omega
          have hwl : w.heap.size < Wb.heap.size := by have := unhide HLE; have := (unhide Hw2).size; omega
          have hbl : b1 < Wb.heap.size := by have := (unhide Hw2).size; omega
          go_wp2_with fail
          have hHeld : (fun w' => w'.cell? ⟨X, 0, none⟩ = some (.int .i64 ii) ∧ w'.cell? ⟨X, 1, none⟩ = some (.slice sa qs.length sc) ∧ w'.cell? ⟨X, 2, none⟩ = some sv ∧ w'.cell? ⟨w.heap.size, 2, none⟩ = some (.slice (some ⟨b1, off, none⟩) om od) ∧ w'.cell? ⟨b1, off + k, none⟩ = some (.int .i64 y)) wr := ⟨x0, x1, x2, a2, g0⟩
          refine anyTill_region (fun w' => w'.cell? ⟨X, 0, none⟩ = some (.int .i64 ii) ∧ w'.cell? ⟨X, 1, none⟩ = some (.slice sa qs.length sc) ∧ w'.cell? ⟨X, 2, none⟩ = some sv ∧ w'.cell? ⟨w.heap.size, 2, none⟩ = some (.slice (some ⟨b1, off, none⟩) om od) ∧ w'.cell? ⟨b1, off + k, none⟩ = some (.int .i64 y)) 12 (by kernel_rfl) ?_
          refine anyTill_take (i := 0) (v := ?_) rfl rfl (by kernel_rfl) (by kernel_rfl) (by kernel_rfl) (by kernel_rfl) (fun _ _ _ h => h) (Or.inl ⟨by kernel_rfl, ?_⟩) (by assumption) ?_
          rotate_left 1
          · intro W hSw
            try dsimp only at hSw
            go_simp
            try with_reducible rfl
          refine anyTill_take (i := 1) (v := ?_) rfl rfl (by kernel_rfl) (by kernel_rfl) (by kernel_rfl) (by kernel_rfl) (fun _ _ _ h => h) (Or.inl ⟨by kernel_rfl, ?_⟩) (by assumption) ?_
          rotate_left 1
          · intro W hSw
            try dsimp only at hSw
            go_simp
            try with_reducible rfl
          refine anyTill_take (i := 2) (v := ?_) rfl rfl (by kernel_rfl) (by kernel_rfl) (by kernel_rfl) (by kernel_rfl) (fun _ _ _ h => h) (Or.inl ⟨by kernel_rfl, ?_⟩) (by assumption) ?_
          rotate_left 1
          · intro W hSw
            try dsimp only at hSw
            go_simp
            try with_reducible rfl
          refine anyTill_take (i := 3) (v := ?_) rfl rfl (by kernel_rfl) (by kernel_rfl) (by kernel_rfl) (by kernel_rfl) (fun _ _ _ h => h) (Or.inl ⟨by kernel_rfl, ?_⟩) (by assumption) ?_
          rotate_left 1
          · intro W hSw
            try dsimp only at hSw
            go_simp
            try with_reducible rfl
          refine anyTill_take (i := 4) (v := ?_) rfl rfl (by kernel_rfl) (by kernel_rfl) (by kernel_rfl) (by kernel_rfl) (fun _ _ _ h => h) (Or.inl ⟨by kernel_rfl, ?_⟩) (by assumption) ?_
          rotate_left 1
          · intro W hSw
            try dsimp only at hSw
            go_simp
            try with_reducible rfl
          refine anyTill_take (i := 5) (v := ?_) rfl rfl (by kernel_rfl) (by kernel_rfl) (by kernel_rfl) (by kernel_rfl) (fun _ _ _ h => h) (Or.inl ⟨by kernel_rfl, ?_⟩) (by assumption) ?_
          rotate_left 1
          · intro W hSw
            try dsimp only at hSw
            go_simp
            try with_reducible rfl
          refine anyTill_take (i := 6) (v := ?_) rfl rfl (by kernel_rfl) (by kernel_rfl) (by kernel_rfl) (by kernel_rfl) (fun _ _ _ h => h) (Or.inl ⟨by kernel_rfl, ?_⟩) (by assumption) ?_
          rotate_left 1
          · intro W hSw
            try dsimp only at hSw
            go_simp
            try with_reducible rfl
          refine anyTill_take (i := 7) (v := ?_) rfl rfl (by kernel_rfl) (by kernel_rfl) (by kernel_rfl) (by kernel_rfl) (fun _ _ _ h => h) (Or.inl ⟨by kernel_rfl, ?_⟩) (by assumption) ?_
          rotate_left 1
          · intro W hSw
            try dsimp only at hSw
            go_simp
            try with_reducible rfl
          refine anyTill_take (i := 8) (v := ?_) rfl rfl (by kernel_rfl) (by kernel_rfl) (by kernel_rfl) (by kernel_rfl) (fun _ _ _ h => h) (Or.inl ⟨by kernel_rfl, ?_⟩) (by assumption) ?_
          rotate_left 1
          · intro W hSw
            try dsimp only at hSw
            go_simp
            try with_reducible rfl
          clear hHeld
          refine anyTill_one (i := 9) (by kernel_rfl) rfl (by kernel_rfl) (fun K hK => ?_)
          go_simp
          have hal : Below wr.heap.size wr (wr.alloc (.cells #[.int .i64 (y + (n : Int))] 3)).drew := ((Below.refl _ _).alloc (Nat.le_refl _) _).drew
          have bX5 := (unhide HB3).below hal
          have a5 := (hal.cell (World.block_lt_of_cell? _ _ a2)).trans a2
          have g5 := (hal.cell (World.block_lt_of_cell? _ _ g0)).trans g0
          have hHeld : (fun w' => w'.cell? ⟨X, 0, none⟩ = some (.int .i64 ii) ∧ w'.cell? ⟨X, 1, none⟩ = some (.slice sa qs.length sc) ∧ w'.cell? ⟨X, 2, none⟩ = some sv ∧ w'.cell? ⟨w.heap.size, 2, none⟩ = some (.slice (some ⟨b1, off, none⟩) om od) ∧ w'.cell? ⟨b1, off + k, none⟩ = some (.int .i64 y)) (wr.alloc (.cells #[.int .i64 (y + (n : Int))] 3)).drew := ⟨(bX5.all 0 _ rfl).1, (bX5.all 1 _ rfl).1, (bX5.all 2 _ rfl).1, a5, g5⟩
          refine hK _ _ (fun _ => hHeld) ?_
          clear hK K hHeld
          have how : (wr.alloc (.cells #[.int .i64 (y + (n : Int))] 3)).drew.ownsRow Wb.heap.size 3 1 sv k (valsI (cpY n (yso.take k))) := ownsRow_chg (S := fun _ => False) (unhide HOW) (Chg.of_below hal) (fun _ _ x => x)
          have hone : ∀ u ∈ ([.int .i64 (y + (n : Int))] : List Value), u.oneCell' = true := by intro u hu; simp at hu; subst hu; rfl
          have hmx : k + 1 ≤ maxLen := by unfold maxLen; omega
          have hby : (k + 1) * 8 ≤ 140737488355328 := by omega
          refine anyTill_one (i := 10) (by kernel_rfl) rfl (by kernel_rfl) (fun K hK => ?_)
          refine wp_append_lies _ _ _ 23 rfl Wb.heap.size 3 i64 (.int .i64 0) 1 8 Tryd.underlying23 (unhide HI3).1 (unhide HI3).2.1 (unhide HI3).2.2.1 (unhide HI3).2.2.2 rfl (by decide) sv k (valsI (cpY n (yso.take k))) rfl how ⟨wr.heap.size, 0, none⟩ 1 1 [.int .i64 (y + (n : Int))] rfl rfl (World.news_of_block (show ((wr.alloc (.cells #[.int .i64 (y + (n : Int))] 3)).drew).heap[wr.heap.size]? = some (.cells #[.int .i64 (y + (n : Int))] 3) from alloc_block _ _)) hone (by decide) hmx hby (by simp <;> omega) (wr.heap.size + 1) (by simp) ?_
          intro gb cap w3 hown hg hat hlt4
          have hcg : Chg (fun j => sv.ownBlock = some j) (wr.alloc (.cells #[.int .i64 (y + (n : Int))] 3)).drew w3 := ⟨hg.os, hg.tape, hg.output, hg.size, fun j hj hs => hg.block j hj (fun e => hs e.symm)⟩
          have olt : ∀ j, sv.ownBlock = some j → Wb.heap.size ≤ j ∧ j < wr.heap.size := own_ge (unhide HOW)
          have HCG3 := hide (chg_then ((unhide HCG).trans (Chg.of_below hal)) hcg (fun j hj _ e => by have := (olt j e).1; omega))
          have bX3 := bX5.chg hcg (fun e => by have := (olt X e).1; have := unhide HX2; omega)
          have a6 := hcg.cell (fun e => by have := (olt _ e).1; omega) a5
          have g6 := hcg.cell (fun e => by have := (olt _ e).1; omega) g5
          have hHeld : (fun w' => w'.cell? ⟨X, 0, none⟩ = some (.int .i64 ii) ∧ w'.cell? ⟨X, 1, none⟩ = some (.slice sa qs.length sc) ∧ w'.cell? ⟨X, 2, none⟩ = some sv ∧ w'.cell? ⟨w.heap.size, 2, none⟩ = some (.slice (some ⟨b1, off, none⟩) om od) ∧ w'.cell? ⟨b1, off + k, none⟩ = some (.int .i64 y)) w3 := ⟨(bX3.all 0 _ rfl).1, (bX3.all 1 _ rfl).1, (bX3.all 2 _ rfl).1, a6, g6⟩
          have e2 := (bX3.all 2 _ rfl).1
          have f2 := (bX3.all 2 _ rfl).2
          have hown' : w3.ownsRow Wb.heap.size 3 1 (.slice (some ⟨gb, 0, none⟩) (k + 1) cap) (k + 1) (valsI (cpY n (yso.take (k + 1)))) := by
            rw [unhide HST]
            simpa [valsI] using hown
          have HOW7 := hide (ownsRow_chg (S := fun j => j = X) hown' (Chg.of_set w3 X 2 (.slice (some ⟨gb, 0, none⟩) (k + 1) cap) rfl) (fun j e e2 => by have := (own_ge hown' j e).1; have := unhide HX2; omega))
          have HCG7 := hide ((unhide HCG3).trans (Chg.of_set (S := fun j => j = X) w3 X 2 (.slice (some ⟨gb, 0, none⟩) (k + 1) cap) rfl))
          have HB7 := hide (bX3.put 2 (.slice (some ⟨gb, 0, none⟩) (k + 1) cap))
          clear hown hg hat hlt4 hcg olt hown' how hal a5 g5
          refine hK _ _ (fun _ => hHeld) ?_
          clear hK K
          refine anyTill_one (i := 11) (by kernel_rfl) rfl (by kernel_rfl) (fun K hK => ?_)
          go_simp
          refine hK _ _ (fun _ => hHeld) ?_
          clear hK K hHeld
          refine anyTill_one (i := 12) (by kernel_rfl) rfl (by kernel_rfl) (fun K hK => ?_)
          go_simp
          refine hK _ _ (fun h => absurd rfl h) ?_
          clear hK K
          refine anyTill_done (by kernel_rfl) ?_
          clear e2 f2 bX3
          go_wp2_with fail
          exact ⟨⟨k + 1, _, by omega, by (first | rfl | go_num), HOW7, HCG7, HB7⟩, by simp [intOf]; omega⟩
        · obtain rfl : om = k := by omega
          have hlt' : ¬ (om : Int) < (om : Int) := by omega
          clear hlt
          have hfull : cpY n (yso.take om) = cpY n yso := by rw [List.take_of_length_le (by have := (unhide HL).2.1; omega)]
          have hly : (cpY n yso).length = om := by unfold cpY; rw [List.length_map]; exact (unhide HL).2.1
          rw [hfull] at HOW
          obtain ⟨sb, scb, rfl, hsi⟩ := sli_own (unhide HOW) hly
          have bR3 : BoxP wr wi.heap.size [.int .i64 0, .slice none 0 0, .slice none 0 0] := (unhide HBR).below hbr
          have r0 := (bR3.all 0 _ rfl).1
          have u0 := (bR3.all 0 _ rfl).2
          have r1 := (bR3.all 1 _ rfl).1
          have u1 := (bR3.all 1 _ rfl).2
          have r2 := (bR3.all 2 _ rfl).1
          have u2 := (bR3.all 2 _ rfl).2
          obtain ⟨bR4, hc4⟩ := tape_set3 bR3 (.int .i64 ii) (.slice sa qs.length sc) (.slice sb om scb)
          have p0 := (bR4.all 0 _ rfl).1
          have p1 := (bR4.all 1 _ rfl).1
          have p2 := (bR4.all 2 _ rfl).1
          have HC4 := hide hc4
          have HBE := hide hbr
          have HY := hide hly
          clear hc4 bR3 bR4 hfull hsi hly hbr
          go_wp2_with fail
          refine bodyPost_ret (v := .tuple #[tapV ii sa qs.length sc sb om scb, .int .i64 0, .int .i64 0]) (by simp [tapV, results, Tryd.results8, go_sem, p0, p1, p2]; try rfl) rfl ?_
          rw [unhide HCM, unhide HCT]
          have hRw : wi.heap.size < w2.heap.size := by have := unhide HLE; have := (unhide Hw2).size; omega
          have hGf := (unhide HG).mono (S' := fun j => j = X ∨ j = wi.heap.size) (fun k e => .inl e) (fun q hq k hk e => by
            rcases e with e | e
            · exact ((unhide HG).far q hq k hk).2 e
            · have := unhide HF q hq k hk; omega)
          have hGe := hGf.chg2 (((unhide HCG).mono (fun k _ e => .inl e)).trans ((unhide HC4).mono (fun k _ e => .inr e))) (fun k e e2 => by
            rcases e2 with e2 | e2
            · rw [e2] at e; exact unhide HNX e
            · have := (own_ge hGf.own k e).1; omega)
          have hBW : Below w.heap.size w (((wr.setCell ⟨wi.heap.size, 0, none⟩ (.int .i64 ii)).setCell ⟨wi.heap.size, 1, none⟩ (.slice sa qs.length sc)).setCell ⟨wi.heap.size, 2, none⟩ (.slice sb om scb)) := ((unhide HB).trans ((unhide HBE).mono (unhide HB).size)).trans ((unhide HC4).below (B := w.heap.size) (by have := (unhide HBE).size; have := (unhide HB).size; omega) (fun k hk e => by have := unhide HLE; omega))
          have hlw : w.heap.size ≤ w2.heap.size := by have := unhide HLE; omega
          have hGb := hGe.base (w := w) hlw (fun q hq k hk => by have := unhide HF q hq k hk; omega) hBW
          refine ⟨sa, sc, sb, scb, qs, ?_, hGb, unhide HC2, ?_, hBW⟩
          · rw [unhide HY]
          · rw [unhide HY]
            exact own_low (ownsRow_chg (unhide HOW) (unhide HC4) (fun j e e2 => by have := (own_ge (unhide HOW) j e).1; omega)) (by omega)
end Go.Proofs.YtiadccaaoenccaaDoor
