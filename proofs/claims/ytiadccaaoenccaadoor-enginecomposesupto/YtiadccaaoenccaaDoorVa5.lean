/- Va5 -/
import Derived.Test.YtiadccaaoenccaaDoorVa4
import Derived.Test.YtiadccaaoenccaaDoorTe9
namespace Go.Proofs.YtiadccaaoenccaaDoor
open Go.RowKit Go.Deep
set_option linter.unusedVariables false
set_option linter.unusedSimpArgs false
def cmF (io : Int) (oso : List On) (yso : List Int) (ii : Int) (osi : List On) (ysi : List Int) : Int × Int :=
  if (chF io oso yso).2 = 0 then (if (chF ii osi ysi).2 = 0 then (if io = (ysi.length : Int) then (if oso.length + osi.length ≤ 2048 then (0, 0) else (0, 101)) else (0, 7)) else chF ii osi ysi) else chF io oso yso
def cmT (io : Int) (oso : List On) (yso : List Int) (ii : Int) (osi : List On) (ysi : List Int) : Int × List On × List Int :=
  if (cmF io oso yso ii osi ysi).2 = 0 then (ii, cpO osi oso ysi, cpY osi.length yso) else (0, [], [])
def CoA (w : World) (R : Int × Int) (T : Int × List On × List Int) (e : Ending) (w' : World) : Prop := ∃ a c b d qs, e = .returned (.tuple #[tapV T.1 a qs.length c b T.2.2.length d, .int .i64 R.1, .int .i64 R.2]) ∧ GrO (fun j => j < w.heap.size) w w' (.slice a qs.length c) qs ∧ qs.map conO = T.2.1.map conO ∧ w'.ownsRow w.heap.size 3 1 (.slice b T.2.2.length d) T.2.2.length (valsI T.2.2) ∧ Below w.heap.size w w'
theorem GrO.base {S : Nat → Prop} {w w0 w1 : World} {v : Value} {qs : List On} (h : GrO S w0 w1 v qs) (hl : w.heap.size ≤ w0.heap.size) (hf : ∀ q ∈ qs, ∀ k, nqB q.p k → w.heap.size ≤ k) (hb : Below w.heap.size w w1) : GrO (fun j => j < w.heap.size) w w1 v qs :=
  ⟨own_low h.own hl, h.each, fun q hq k hk => ⟨(h.far q hq k hk).1, by have := hf q hq k hk; omega⟩, Chg.of_below hb⟩
theorem CoA.no {w w' : World} {R R' : Int × Int} {T : Int × List On × List Int} (hR : R' = R) (hT : T = (0, [], [])) (hb : Below w.heap.size w w') : CoA w R T (.returned (.tuple #[tapV 0 none 0 0 none 0 0, .int .i64 R'.1, .int .i64 R'.2])) w' := by
  subst hR hT
  exact ⟨none, 0, none, 0, [], rfl, ⟨World.ownsRow_nil _ _ _ _, (fun q hq => by cases hq), (fun q hq => by cases hq), Chg.of_below hb⟩, rfl, World.ownsRow_nil _ _ _ _, hb⟩
set_option maxRecDepth 100000 in
set_option maxHeartbeats 16000000 in
theorem ecompose_any (io : Int) (oa : Option Addr) (on oc : Nat) (oso : List On) (ob : Option Addr) (om od : Nat) (yso : List Int) (ii : Int) (ia : Option Addr) (n ic : Nat) (osi : List On) (ib : Option Addr) (m id : Nat) (ysi : List Int) (w : World)
    (h1 : SlO w oa on oc oso) (h2 : SlI w ob om od yso) (h3 : SlO w ia n ic osi) (h4 : SlI w ib m id ysi) (hT : Tab64 w) (hS : TabSh w) (hn : n ≤ 1000000000) (hon : on ≤ 1000000000) (hm : m ≤ 17592186044000) (hom : om ≤ 17592186044000) :
    Calls Tryd.prog 7 #[tapV io oa on oc ob om od, tapV ii ia n ic ib m id] w (CoA w (cmF io oso yso ii osi ysi) (cmT io oso yso ii osi ysi)) := by
  have l1 := h1.len
  have l2 := h2.len
  have l3 := h3.len
  have l4 := h4.len
  obtain ⟨wo, hwo⟩ : ∃ x, w.alloc (.cells #[.int .i64 io, .slice oa on oc, .slice ob om od] 25) = x := ⟨_, rfl⟩
  have bo : BoxP wo w.heap.size [.int .i64 io, .slice oa on oc, .slice ob om od] := by rw [← hwo]; exact BoxP.made _ _ _
  have hbo : Below w.heap.size w wo := by rw [← hwo]; exact (Below.refl _ _).alloc (Nat.le_refl _) _
  obtain ⟨wi, hwi⟩ : ∃ x, wo.alloc (.cells #[.int .i64 ii, .slice ia n ic, .slice ib m id] 25) = x := ⟨_, rfl⟩
  have bi : BoxP wi wo.heap.size [.int .i64 ii, .slice ia n ic, .slice ib m id] := by rw [← hwi]; exact BoxP.made _ _ _
  have hbi : Below wo.heap.size wo wi := by rw [← hwi]; exact (Below.refl _ _).alloc (Nat.le_refl _) _
  obtain ⟨wR, hwR⟩ : ∃ x, wi.alloc (.cells #[.int .i64 0, .slice none 0 0, .slice none 0 0] 25) = x := ⟨_, rfl⟩
  have bR : BoxP wR wi.heap.size [.int .i64 0, .slice none 0 0, .slice none 0 0] := by rw [← hwR]; exact BoxP.made _ _ _
  have hbR : Below wi.heap.size wi wR := by rw [← hwR]; exact (Below.refl _ _).alloc (Nat.le_refl _) _
  have hB1 := hbo.trans (hbi.mono hbo.size)
  have hB2 := hB1.trans (hbR.mono hB1.size)
  have HB := hide hB2
  have HBR := hide bR
  have HLE := hide (And.intro hbo.size (And.intro hbi.size (And.intro bo.lt (And.intro bi.lt bR.lt))))
  have HOO := hide (And.intro (h1.below hB2) (h2.below hB2))
  have HII := hide (And.intro (h3.below hB2) (h4.below hB2))
  have HT := hide (And.intro (hT.below hB2) (hS.below hB2))
  have HL := hide (And.intro l1 (And.intro l2 (And.intro l3 l4)))
  have a0 := (((bo.below hbi).below hbR).all 0 _ rfl).1
  have b0 := ((bi.below hbR).all 0 _ rfl).1
  have a1 := (((bo.below hbi).below hbR).all 1 _ rfl).1
  have b1 := ((bi.below hbR).all 1 _ rfl).1
  have a2 := (((bo.below hbi).below hbR).all 2 _ rfl).1
  have b2 := ((bi.below hbR).all 2 _ rfl).1
  have HZO := hide (fun (W : World) (hb : Below wR.heap.size wR W) => tcheck_any io oa on oc oso ob om od yso W ((unhide HOO).1.below hb) ((unhide HOO).2.below hb) ((unhide HT).1.below hb) ((unhide HT).2.below hb))
  have HZI := hide (fun (W : World) (hb : Below wR.heap.size wR W) => tcheck_any ii ia n ic osi ib m id ysi W ((unhide HII).1.below hb) ((unhide HII).2.below hb) ((unhide HT).1.below hb) ((unhide HT).2.below hb))
  unfold tapV at HZO HZI
  unfold tapV
  clear bo hbo bi hbi bR hbR hB1 hB2 h1 h2 h3 h4 hT hS l1 l2 l3 l4
  have hx0 : ∀ W : World, (Instr.index 66 (.agg #[.int .i64 io, .slice oa on oc, .slice ob om od, .int .i64 ii, .slice ia n ic, .slice ib m id]) (.int .i64 0)).run Tryd.prog W = .ok (.agg #[.int .i64 io, .slice oa on oc, .slice ob om od]) W := fun _ => by kernel_rfl
  have hx1 : ∀ W : World, (Instr.index 66 (.agg #[.int .i64 io, .slice oa on oc, .slice ob om od, .int .i64 ii, .slice ia n ic, .slice ib m id]) (.int .i64 1)).run Tryd.prog W = .ok (.agg #[.int .i64 ii, .slice ia n ic, .slice ib m id]) W := fun _ => by kernel_rfl
  go_enter Tryd.func7, Tryd.ntmps7
  go_wp2_with fail
  go_loopw [14] (fun kv wr => Hid (Below wR.heap.size wR wr) ∧ (kv = .int .i64 0 ∨ (kv = .int .i64 1 ∧ Hid ((chF io oso yso).2 = 0)) ∨ (kv = .int .i64 2 ∧ Hid ((chF io oso yso).2 = 0 ∧ (chF ii osi ysi).2 = 0)))) (fun kv _ => 2 - (intOf kv).toNat)
  case atStart => exact ⟨hide (Below.refl _ _), .inl rfl⟩
  case round =>
    obtain ⟨HBr, rfl | ⟨rfl, HO1⟩ | ⟨rfl, HO2⟩⟩ := hrel
    · go_wp2_with fail
      refine (unhide HZO _ ((unhide HBr).alloc (unhide HBr).size _)).mono ?_
      rintro _ w1 ⟨rfl, b1⟩
      have HB1 := hide (((unhide HBr).alloc (unhide HBr).size _).trans (b1.mono ((unhide HBr).alloc (unhide HBr).size _).size))
      clear b1
      obtain ⟨⟨pl, er⟩, hP⟩ : ∃ x, chF io oso yso = x := ⟨_, rfl⟩
      rw [hP]
      by_cases hez : er = 0
      · have hez' : (er != 0) = false := by simpa using hez
        have hez0 : (chF io oso yso).2 = 0 := by rw [hP]; exact hez
        have HE := hide hez0
        clear hP hez0
        subst hez
        go_wp2_with fail
        have hez := unhide HE
        exact ⟨⟨HB1, .inr (.inl ⟨rfl, hide hez⟩)⟩, by simp [intOf]⟩
      · have hez' : (er != 0) = true := by simpa using hez
        have HP := hide hP
        clear hP
        have bRx : BoxP w1 wi.heap.size [.int .i64 0, .slice none 0 0, .slice none 0 0] := (unhide HBR).below (unhide HB1)
        have r0 := (bRx.all 0 _ rfl).1
        have u0 := (bRx.all 0 _ rfl).2
        have r1 := (bRx.all 1 _ rfl).1
        have u1 := (bRx.all 1 _ rfl).2
        have r2 := (bRx.all 2 _ rfl).1
        have u2 := (bRx.all 2 _ rfl).2
        obtain ⟨bRy, hcy⟩ := tape_set3 bRx (.int .i64 0) (.slice none 0 0) (.slice none 0 0)
        have p0 := (bRy.all 0 _ rfl).1
        have p1 := (bRy.all 1 _ rfl).1
        have p2 := (bRy.all 2 _ rfl).1
        have HCY := hide hcy
        have HRS := hide (show cmF io oso yso ii osi ysi = (pl, er) from by unfold cmF; rw [unhide HP]; exact if_neg hez)
        clear bRx bRy hcy
        go_wp2_with fail
        refine bodyPost_ret (v := .tuple #[tapV 0 none 0 0 none 0 0, .int .i64 pl, .int .i64 er]) (by simp [tapV, results, Tryd.results7, go_sem, p0, p1, p2]; try rfl) rfl ?_
        refine CoA.no (R' := (pl, er)) (unhide HRS).symm (by unfold cmT; rw [unhide HRS]; exact if_neg (by first | decide | exact hez)) ?_
        exact ((unhide HB).trans ((unhide HB1).mono (unhide HB).size)).trans ((unhide HCY).below (B := w.heap.size) (by have := (unhide HB1).size; have := (unhide HB).size; omega) (fun k hk e => by have := unhide HLE; omega))
    · go_wp2_with fail
      refine (unhide HZI _ ((unhide HBr).alloc (unhide HBr).size _)).mono ?_
      rintro _ w1 ⟨rfl, b1⟩
      have HB1 := hide (((unhide HBr).alloc (unhide HBr).size _).trans (b1.mono ((unhide HBr).alloc (unhide HBr).size _).size))
      clear b1
      obtain ⟨⟨pl, er⟩, hP⟩ : ∃ x, chF ii osi ysi = x := ⟨_, rfl⟩
      rw [hP]
      by_cases hez : er = 0
      · have hez' : (er != 0) = false := by simpa using hez
        have hez0 : (chF ii osi ysi).2 = 0 := by rw [hP]; exact hez
        have HE := hide hez0
        clear hP hez0
        subst hez
        go_wp2_with fail
        have hez := unhide HE
        exact ⟨⟨HB1, .inr (.inr ⟨rfl, hide ⟨unhide HO1, hez⟩⟩)⟩, by simp [intOf]⟩
      · have hez' : (er != 0) = true := by simpa using hez
        have HP := hide hP
        clear hP
        have bRx : BoxP w1 wi.heap.size [.int .i64 0, .slice none 0 0, .slice none 0 0] := (unhide HBR).below (unhide HB1)
        have r0 := (bRx.all 0 _ rfl).1
        have u0 := (bRx.all 0 _ rfl).2
        have r1 := (bRx.all 1 _ rfl).1
        have u1 := (bRx.all 1 _ rfl).2
        have r2 := (bRx.all 2 _ rfl).1
        have u2 := (bRx.all 2 _ rfl).2
        obtain ⟨bRy, hcy⟩ := tape_set3 bRx (.int .i64 0) (.slice none 0 0) (.slice none 0 0)
        have p0 := (bRy.all 0 _ rfl).1
        have p1 := (bRy.all 1 _ rfl).1
        have p2 := (bRy.all 2 _ rfl).1
        have HCY := hide hcy
        have HRS := hide (show cmF io oso yso ii osi ysi = (pl, er) from by unfold cmF; rw [if_pos (unhide HO1), unhide HP]; exact if_neg hez)
        clear bRx bRy hcy
        go_wp2_with fail
        refine bodyPost_ret (v := .tuple #[tapV 0 none 0 0 none 0 0, .int .i64 pl, .int .i64 er]) (by simp [tapV, results, Tryd.results7, go_sem, p0, p1, p2]; try rfl) rfl ?_
        refine CoA.no (R' := (pl, er)) (unhide HRS).symm (by unfold cmT; rw [unhide HRS]; exact if_neg (by first | decide | exact hez)) ?_
        exact ((unhide HB).trans ((unhide HB1).mono (unhide HB).size)).trans ((unhide HCY).below (B := w.heap.size) (by have := (unhide HB1).size; have := (unhide HB).size; omega) (fun k hk e => by have := unhide HLE; omega))
    · have hbr := unhide HBr
      have a0 := (hbr.cell (World.block_lt_of_cell? _ _ a0)).trans a0
      have b0 := (hbr.cell (World.block_lt_of_cell? _ _ b0)).trans b0
      have a1 := (hbr.cell (World.block_lt_of_cell? _ _ a1)).trans a1
      have b1 := (hbr.cell (World.block_lt_of_cell? _ _ b1)).trans b1
      have a2 := (hbr.cell (World.block_lt_of_cell? _ _ a2)).trans a2
      have b2 := (hbr.cell (World.block_lt_of_cell? _ _ b2)).trans b2
      clear hbr
      by_cases hio : io = (m : Int)
      rotate_left
      · have hio2 : (io != (m : Int)) = true := by simpa using hio
        have bRx : BoxP wr wi.heap.size [.int .i64 0, .slice none 0 0, .slice none 0 0] := (unhide HBR).below (unhide HBr)
        have r0 := (bRx.all 0 _ rfl).1
        have u0 := (bRx.all 0 _ rfl).2
        have r1 := (bRx.all 1 _ rfl).1
        have u1 := (bRx.all 1 _ rfl).2
        have r2 := (bRx.all 2 _ rfl).1
        have u2 := (bRx.all 2 _ rfl).2
        obtain ⟨bRy, hcy⟩ := tape_set3 bRx (.int .i64 0) (.slice none 0 0) (.slice none 0 0)
        have p0 := (bRy.all 0 _ rfl).1
        have p1 := (bRy.all 1 _ rfl).1
        have p2 := (bRy.all 2 _ rfl).1
        have HCY := hide hcy
        have HRS := hide (show cmF io oso yso ii osi ysi = (0, 7) from by unfold cmF; rw [if_pos (unhide HO2).1, if_pos (unhide HO2).2, (unhide HL).2.2.2, if_neg hio])
        clear bRx bRy hcy
        go_wp2_with fail
        refine bodyPost_ret (v := .tuple #[tapV 0 none 0 0 none 0 0, .int .i64 0, .int .i64 7]) (by simp [tapV, results, Tryd.results7, go_sem, p0, p1, p2]; try rfl) rfl ?_
        refine CoA.no (R' := (0, 7)) (unhide HRS).symm (by unfold cmT; rw [unhide HRS]; exact if_neg (by first | decide | exact hez)) ?_
        exact ((unhide HB).trans ((unhide HBr).mono (unhide HB).size)).trans ((unhide HCY).below (B := w.heap.size) (by have := (unhide HBr).size; have := (unhide HB).size; omega) (fun k hk e => by have := unhide HLE; omega))
      by_cases hnn : on + n ≤ 2048
      rotate_left
      · have hnn2 : (2048 : Int) < (on : Int) + (n : Int) := by omega
        have bRx : BoxP wr wi.heap.size [.int .i64 0, .slice none 0 0, .slice none 0 0] := (unhide HBR).below (unhide HBr)
        have r0 := (bRx.all 0 _ rfl).1
        have u0 := (bRx.all 0 _ rfl).2
        have r1 := (bRx.all 1 _ rfl).1
        have u1 := (bRx.all 1 _ rfl).2
        have r2 := (bRx.all 2 _ rfl).1
        have u2 := (bRx.all 2 _ rfl).2
        obtain ⟨bRy, hcy⟩ := tape_set3 bRx (.int .i64 0) (.slice none 0 0) (.slice none 0 0)
        have p0 := (bRy.all 0 _ rfl).1
        have p1 := (bRy.all 1 _ rfl).1
        have p2 := (bRy.all 2 _ rfl).1
        have HCY := hide hcy
        have HRS := hide (show cmF io oso yso ii osi ysi = (0, 101) from by unfold cmF; rw [if_pos (unhide HO2).1, if_pos (unhide HO2).2, (unhide HL).2.2.2, if_pos hio, (unhide HL).1, (unhide HL).2.2.1, if_neg hnn])
        clear bRx bRy hcy
        go_wp2_with fail
        refine bodyPost_ret (v := .tuple #[tapV 0 none 0 0 none 0 0, .int .i64 0, .int .i64 101]) (by simp [tapV, results, Tryd.results7, go_sem, p0, p1, p2]; try rfl) rfl ?_
        refine CoA.no (R' := (0, 101)) (unhide HRS).symm (by unfold cmT; rw [unhide HRS]; exact if_neg (by first | decide | exact hez)) ?_
        exact ((unhide HB).trans ((unhide HBr).mono (unhide HB).size)).trans ((unhide HCY).below (B := w.heap.size) (by have := (unhide HBr).size; have := (unhide HB).size; omega) (fun k hk e => by have := unhide HLE; omega))
      have hnn2 : ¬ (2048 : Int) < (on : Int) + (n : Int) := by omega
      have hio2 : (io != (m : Int)) = false := by simpa using hio
      have HCM := hide (show cmF io oso yso ii osi ysi = (0, 0) by unfold cmF; rw [if_pos (unhide HO2).1, if_pos (unhide HO2).2, (unhide HL).2.2.2, if_pos hio, (unhide HL).1, (unhide HL).2.2.1, if_pos hnn])
      have HCT := hide (show cmT io oso yso ii osi ysi = (ii, cpO osi oso ysi, cpY n yso) by unfold cmT; rw [unhide HCM, (unhide HL).2.2.1]; exact if_pos rfl)
      have HZC := hide (fun (W : World) (hb : Below wR.heap.size wR W) => ecomposed_any io oa on oc oso ob om od yso ii ia n ic osi ib m id ysi W ((unhide HOO).1.below hb) ((unhide HOO).2.below hb) ((unhide HII).1.below hb) ((unhide HII).2.below hb) (TpOk.of (unhide HO2).1) (TpOk.of (unhide HO2).2) hio (by omega))
      unfold tapV at HZC
      clear hio hnn
      go_wp2_with fail
      refine (unhide HZC _ (unhide HBr)).mono ?_
      rintro _ w4 ⟨a, c, b, d, qs, rfl, hg, hcon, hy, b4⟩
      have HG := hide hg
      have HCO := hide hcon
      have HY := hide hy
      have HB4 := hide ((unhide HBr).trans (b4.mono (unhide HBr).size))
      have HBS := hide (unhide HBr).size
      clear hg hcon hy b4
      obtain ⟨LO, hLO⟩ : ∃ x, (cpO osi oso ysi).length = x := ⟨_, rfl⟩
      obtain ⟨LY, hLY⟩ : ∃ x, (cpY n yso).length = x := ⟨_, rfl⟩
      have HLO := hide hLO
      have HLY := hide hLY
      rw [hLO, hLY]
      clear hLO hLY
      unfold tapV
      have bRx : BoxP w4 wi.heap.size [.int .i64 0, .slice none 0 0, .slice none 0 0] := (unhide HBR).below (unhide HB4)
      have r0 := (bRx.all 0 _ rfl).1
      have u0 := (bRx.all 0 _ rfl).2
      have r1 := (bRx.all 1 _ rfl).1
      have u1 := (bRx.all 1 _ rfl).2
      have r2 := (bRx.all 2 _ rfl).1
      have u2 := (bRx.all 2 _ rfl).2
      obtain ⟨bRy, hcy⟩ := tape_set3 bRx (.int .i64 ii) (.slice a LO c) (.slice b LY d)
      have p0 := (bRy.all 0 _ rfl).1
      have p1 := (bRy.all 1 _ rfl).1
      have p2 := (bRy.all 2 _ rfl).1
      have HCY := hide hcy
      clear bRx bRy hcy
      go_wp2_with fail
      refine bodyPost_ret (v := .tuple #[tapV ii a LO c b LY d, .int .i64 0, .int .i64 0]) (by simp [tapV, results, Tryd.results7, go_sem, p0, p1, p2]; try rfl) rfl ?_
      rw [unhide HCM, unhide HCT]
      have hRw : wi.heap.size < wr.heap.size := by have := unhide HLE; have := unhide HBS; omega
      have hGe := (unhide HG).chg ((unhide HCY).mono (fun k _ e => by rw [e]; exact hRw)) (fun k e => e)
      have hBW : Below w.heap.size w (((w4.setCell ⟨wi.heap.size, 0, none⟩ (.int .i64 ii)).setCell ⟨wi.heap.size, 1, none⟩ (.slice a LO c)).setCell ⟨wi.heap.size, 2, none⟩ (.slice b LY d)) := ((unhide HB).trans ((unhide HB4).mono (unhide HB).size)).trans ((unhide HCY).below (B := w.heap.size) (by have := (unhide HB4).size; have := (unhide HB).size; omega) (fun k hk e => by have := unhide HLE; omega))
      have hlw : w.heap.size ≤ wr.heap.size := by have := unhide HLE; omega
      have hql : qs.length = LO := by
        have h := congrArg List.length (unhide HCO)
        rw [List.length_map, List.length_map, unhide HLO] at h
        exact h
      have hGb := hGe.base (w := w) hlw (fun q hq k hk => by have := (hGe.far q hq k hk).2; omega) hBW
      rw [unhide HLO] at hGb
      refine ⟨a, c, b, d, qs, ?_, ?_, unhide HCO, ?_, hBW⟩
      · rw [hql, unhide HLY]
      · rw [hql]; exact hGb
      · exact own_low (ownsRow_chg (unhide HY) (unhide HCY) (fun j e e2 => by have := (own_ge (unhide HY) j e).1; omega)) hlw
end Go.Proofs.YtiadccaaoenccaaDoor
