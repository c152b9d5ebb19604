/- Cga -/
import Derived.Test.YtgjokididdffhaaGreatCg9
namespace Go.Proofs.YtgjokididdffhaaGreat
open Go.RowKit Go.Deep
set_option linter.unusedVariables false
theorem grR_mem {P : Nat → Nat → Prop} {u : Nat} (v : Int) : ∀ k, (v ∈ grR P u k ↔ ∃ j : Nat, j < k ∧ v = (j : Int) ∧ P u j)
  | 0 => by simp [grR]
  | k + 1 => by
    simp only [grR, List.mem_append]
    rw [grR_mem v k]
    constructor
    · rintro (⟨j, h1, h2, h3⟩ | h)
      · exact ⟨j, by omega, h2, h3⟩
      · by_cases c : tb (P u k) = true
        · rw [if_pos c] at h
          exact ⟨k, by omega, by simpa using h, tb_iff.1 c⟩
        · rw [if_neg c] at h
          cases h
    · rintro ⟨j, h1, h2, h3⟩
      by_cases e : j = k
      · subst e
        right
        rw [if_pos (tb_yes h3), h2]
        simp
      · exact .inl ⟨j, by omega, h2, h3⟩
theorem mem_getD {xs : List Int} {v : Int} : v ∈ xs ↔ ∃ p, p < xs.length ∧ xs.getD p 0 = v := by
  rw [List.mem_iff_getElem?]
  constructor
  · rintro ⟨i, h⟩
    obtain ⟨hi, he⟩ := List.getElem?_eq_some_iff.1 h
    exact ⟨i, hi, by simp [List.getD, h]⟩
  · rintro ⟨p, hp, he⟩
    refine ⟨p, ?_⟩
    rw [List.getElem?_eq_getElem hp]
    simp [List.getD, hp] at he
    rw [he]
theorem MeP.mem {xs : List Int} {u v : Nat} (hx : ∀ j, j < xs.length → 0 ≤ xs.getD j 0 ∧ xs.getD j 0 < 128) (hv : v < 128) : MeP xs xs.length 0 (u * 128 + v) ↔ ((u : Int) ∈ xs ∧ (v : Int) ∈ xs) := by
  rw [mem_getD, mem_getD]
  constructor
  · rintro ⟨p, q, h, e⟩
    rcases h with ⟨h1, h2⟩ | ⟨h1, h2⟩
    · have g1 := hx p h1
      have g2 := hx q h2
      exact ⟨⟨p, h1, by omega⟩, ⟨q, h2, by omega⟩⟩
    · omega
  · rintro ⟨⟨p, h1, e1⟩, ⟨q, h2, e2⟩⟩
    exact ⟨p, q, .inl ⟨h1, h2⟩, by rw [e1, e2]; simp⟩
def CoP (st cols : List Int) (R : Nat) (u v : Nat) : Prop := u ≠ v ∧ ∃ k, k < R ∧ InC st cols u k ∧ InC st cols v k
def RwP (st cols : List Int) (width : Nat) (u v : Nat) : Prop := u ≠ v ∧ ∃ c, c < width ∧ InC st cols c u ∧ InC st cols c v
theorem rowL_mem {R : Nat} {width : Int} {st cols : List Int} (hm : MayP (R : Int) width st cols) {k c : Nat} (hk : k < R) : ((c : Int) ∈ rowL st cols k) ↔ InC st cols c k := by
  obtain ⟨X, Y, hR⟩ := hm.rowAt (k := k) (by omega)
  unfold rowL InC
  rw [hR.hX, hR.hY, mem_getD]
  have hl : ((cols.drop ((X : Int)).toNat).take (((Y : Int)).toNat - ((X : Int)).toNat)).length = Y - X := by
    have := hR.lt
    simp
    omega
  rw [hl]
  have e : ∀ i, i < Y - X → ((cols.drop ((X : Int)).toNat).take (((Y : Int)).toNat - ((X : Int)).toNat)).getD i 0 = cols.getD (X + i) 0 := fun i hi => by simp [List.getD, List.getElem?_drop, hi]
  constructor
  · rintro ⟨p, hp, h⟩
    rw [e p hp] at h
    exact ⟨X + p, by omega, by omega, h⟩
  · rintro ⟨j, h1, h2, h3⟩
    exact ⟨j - X, by omega, by rw [e _ (by omega), show X + (j - X) = j by omega]; exact h3⟩
theorem rowL_rng {R : Nat} {width : Nat} {st cols : List Int} (hm : MayP (R : Int) (width : Int) st cols) {k : Nat} (hk : k < R) : ∀ j, j < (rowL st cols k).length → 0 ≤ (rowL st cols k).getD j 0 ∧ (rowL st cols k).getD j 0 < 128 := by
  intro j hj
  obtain ⟨X, Y, hR⟩ := hm.rowAt (k := k) (by omega)
  have hf := hm.head.fit
  have eL : rowL st cols k = (cols.drop X).take (Y - X) := by unfold rowL; rw [hR.hX, hR.hY]; simp
  have hl : (rowL st cols k).length = Y - X := by rw [eL]; have := hR.lt; simp; omega
  have hrow := (RowP.sub hR.le).2 hR.row
  rw [← eL] at hrow
  have := hrow.rng j (Nat.zero_le _) (by omega)
  omega
theorem MtP.cols {R width : Nat} {st cols : List Int} (hm : MayP (R : Int) (width : Int) st cols) {u v : Nat} (hv : v < width) : (MtP (rowL st cols) R (u * 128 + v) ∧ u ≠ v) ↔ CoP st cols R u v := by
  have hf := hm.head.fit
  unfold MtP CoP
  constructor
  · rintro ⟨⟨i, hi, h⟩, hne⟩
    rw [MeP.mem (rowL_rng hm hi) (by omega), rowL_mem hm hi, rowL_mem hm hi] at h
    exact ⟨hne, i, hi, h⟩
  · rintro ⟨hne, i, hi, h⟩
    exact ⟨⟨i, hi, by rw [MeP.mem (rowL_rng hm hi) (by omega), rowL_mem hm hi, rowL_mem hm hi]; exact h⟩, hne⟩
theorem grR_rng {P : Nat → Nat → Prop} {u R : Nat} (hR : R ≤ 128) : ∀ j, j < (grR P u R).length → 0 ≤ (grR P u R).getD j 0 ∧ (grR P u R).getD j 0 < 128 := by
  intro j hj
  obtain ⟨i, h1, h2, _⟩ := (grR_mem ((grR P u R).getD j 0) R).1 (mem_getD.2 ⟨j, hj, rfl⟩)
  omega
theorem MtP.rows {R width : Nat} {st cols : List Int} (hm : MayP (R : Int) (width : Int) st cols) {u v : Nat} (hu : u < R) (hv : v < R) : (MtP (fun c => grR (InC st cols) c R) width (u * 128 + v) ∧ u ≠ v) ↔ RwP st cols width u v := by
  have hf := hm.head.fit
  have mem : ∀ c w : Nat, w < R → ((w : Int) ∈ grR (InC st cols) c R ↔ InC st cols c w) := fun c w hw => by
    rw [grR_mem]
    constructor
    · rintro ⟨j, h1, h2, h3⟩
      rw [show w = j by omega]
      exact h3
    · intro h
      exact ⟨w, hw, rfl, h⟩
  unfold MtP RwP
  constructor
  · rintro ⟨⟨i, hi, h⟩, hne⟩
    rw [MeP.mem (grR_rng (by omega)) (by omega), mem i u hu, mem i v hv] at h
    exact ⟨hne, i, hi, h⟩
  · rintro ⟨hne, i, hi, h⟩
    exact ⟨⟨i, hi, by rw [MeP.mem (grR_rng (by omega)) (by omega), mem i u hu, mem i v hv]; exact h⟩, hne⟩
def GqP (w w' : World) (e : Ending) (n : Nat) (S C : List Int) (er : Int) : Prop := ∃ a1 c1 a2 c2, e = .returned (.tuple #[.agg #[.int .i64 (n : Int), .int .i64 (n : Int), .slice a1 S.length c1, .slice a2 C.length c2], .int .i64 er]) ∧ SlI w' a1 S.length c1 S ∧ SlI w' a2 C.length c2 C ∧ Below w.heap.size w w' ∧ (∀ z, a1 = some z → w.heap.size ≤ z.block) ∧ (∀ z, a2 = some z → w.heap.size ≤ z.block)
theorem RoV.lsI {W : World} {L R : Nat} {width : Int} {a2 : Option Addr} {n2 c2 : Nat} {st cols : List Int} (h : RoV W L R (rowV st a2 c2)) (h2 : SlI W a2 n2 c2 cols) (hb2 : n2 ≤ 17592186044416) (hm : MayP (R : Int) width st cols) : LsI W L R (rowL st cols) := by
  intro i hi
  obtain ⟨X, Y, hRow⟩ := hm.rowAt (k := i) (by omega)
  have hln := h2.len
  have hsub := h2.sub hRow.le (by rw [← hln]; exact hRow.lt)
  have hcell := (h i hi).1
  have eL : rowL st cols i = (cols.drop X).take (Y - X) := by unfold rowL; rw [hRow.hX, hRow.hY]; simp
  have hV : rowV st a2 c2 i = subV a2 c2 X Y := by unfold rowV; rw [hRow.hX, hRow.hY]; simp
  rw [hV] at hcell
  rw [← eL] at hsub
  have := hRow.lt
  exact ⟨_, _, _, hcell, hsub, by omega⟩
theorem LnI.lsI {W : World} {t L R : Nat} {f : Nat → Value} {xs : Nat → List Int} (h : LnI W t L R f xs) (hl : ∀ r, r < R → (xs r).length ≤ 17592186044416) : LsI W L R xs := by
  intro i hi
  obtain ⟨a, c, hv, hs⟩ := own_slI (h.own i hi)
  have hc := h.row.cell hi
  rw [hv] at hc
  exact ⟨a, _, c, hc, hs, hl i hi⟩
set_option maxRecDepth 100000 in
set_option maxHeartbeats 16000000 in
theorem ccolumns_yes (R width : Nat) (a1 a2 : Option Addr) (n1 c1 n2 c2 : Nat) (st cols : List Int) (w : World) (h1 : SlI w a1 n1 c1 st) (h2 : SlI w a2 n2 c2 cols) (hb1 : n1 ≤ 17592186044416) (hb2 : n2 ≤ 17592186044416) (hm : MayP (R : Int) (width : Int) st cols) :
    Calls Tryz.prog 95 #[patV (R : Int) (width : Int) a1 n1 c1 a2 n2 c2] w fun e w' => GqP w w' e width (grS (CoP st cols R) width width) (grC (CoP st cols R) width width) 0 := by
  obtain ⟨wb, hwb⟩ : ∃ x, w.alloc (.cells #[.int .i64 (R : Int), .int .i64 (width : Int), .slice a1 n1 c1, .slice a2 n2 c2] 25) = x := ⟨_, rfl⟩
  have bb : Below w.heap.size w wb := by rw [← hwb]; exact (Below.refl _ _).alloc (Nat.le_refl _) _
  have hT := BoxP.made w #[.int .i64 (R : Int), .int .i64 (width : Int), .slice a1 n1 c1, .slice a2 n2 c2] 25
  rw [hwb] at hT
  have hO0 := BoxP.made wb #[.int .i64 0, .int .i64 0, .slice none 0 0, .slice none 0 0] 25
  obtain ⟨wo, hwo⟩ : ∃ x, wb.alloc (.cells #[.int .i64 0, .int .i64 0, .slice none 0 0, .slice none 0 0] 25) = x := ⟨_, rfl⟩
  have bo : Below wb.heap.size wb wo := by rw [← hwo]; exact (Below.refl _ _).alloc (Nat.le_refl _) _
  rw [hwo] at hO0
  have hT1 := hT.below bo
  have p0 := (hT1.all 0 _ rfl).1
  have p1 := (hT1.all 1 _ rfl).1
  have p2 := (hT1.all 2 _ rfl).1
  have p3 := (hT1.all 3 _ rfl).1
  have bw := bb.trans (bo.mono bb.size)
  have KM := hide (smay_any (R : Int) (width : Int) a1 a2 n1 c1 n2 c2 st cols wo (h1.below bw) (h2.below bw) hb1 hb2)
  unfold patV at KM
  have HT := hide hT1
  have HO := hide hO0
  have HB := hide bw
  have HWB := hide bb.size
  have hne1 : w.heap.size ≠ wb.heap.size := by have := hT.lt; omega
  have hne2 : wb.heap.size ≠ w.heap.size := fun e => hne1 e.symm
  have HS := hide (And.intro h1 h2)
  have HM := hide hm
  have hfit := hm.head.fit
  have hR8 : R ≤ 128 := by omega
  have hW8 : width ≤ 128 := by omega
  have HTQ := hide (show TruQ true (MayP (R : Int) (width : Int) st cols) from ⟨fun _ => hm, fun _ => rfl⟩)
  obtain ⟨S, hS⟩ : ∃ S, grS (CoP st cols R) width width = S := ⟨_, rfl⟩
  obtain ⟨C, hC⟩ : ∃ C, grC (CoP st cols R) width width = C := ⟨_, rfl⟩
  have HSC := hide (And.intro hS hC)
  rw [hS, hC]
  clear hT hT1 hO0 bb bo bw h1 h2 hm hfit hS hC
  unfold patV
  go_enter Tryz.func95, Tryz.ntmps95
  go_wp2_with fail
  refine (unhide KM).mono ?_
  intro e w2 hq
  obtain ⟨rfl, b2⟩ := hq.known (unhide HTQ)
  have hT2 := (unhide HT).below b2
  have q0 := (hT2.all 0 _ rfl).1
  have q1 := (hT2.all 1 _ rfl).1
  have q2 := (hT2.all 2 _ rfl).1
  have q3 := (hT2.all 3 _ rfl).1
  have bw2 := (unhide HB).trans (b2.mono (unhide HB).size)
  have KR := hide (fun (W : World) (k : Below w2.heap.size w2 W) => crows_any R (width : Int) a1 a2 n1 c1 n2 c2 st cols W (((unhide HS).1.below bw2).below k) (((unhide HS).2.below bw2).below k) hb1 hb2 (unhide HM))
  unfold patV at KR
  have HT2 := hide hT2
  have HO2 := hide ((unhide HO).below b2)
  have HB2 := hide bw2
  clear hq KM b2 hT2 bw2 p0 p1 p2 p3
  go_wp2_with fail
  go_region_held3 (fun w' => w'.cell? ⟨w.heap.size, 0, none⟩ = some (.int .i64 (R : Int)) ∧ w'.cell? ⟨w.heap.size, 1, none⟩ = some (.int .i64 (width : Int)) ∧ w'.cell? ⟨w.heap.size, 2, none⟩ = some (.slice a1 n1 c1) ∧ w'.cell? ⟨w.heap.size, 3, none⟩ = some (.slice a2 n2 c2)) (first | (exact ⟨k0, k1, k2, k3⟩) | go_keep)
    (first
      | (go_at_call 82; refine (unhide KR _ (by first | exact (Below.refl _ _).drew | exact Below.refl _ _)).mono ?_; rintro _ wl ⟨L, hLs, rfl, hL, bl⟩; have hls : LsI wl L R (rowL st cols) := hL.lsI (((unhide HS).2.below (unhide HB2)).below ((Below.refl _ _).drew.trans bl)) hb2 (unhide HM); have bl' : Below w2.heap.size w2 wl := (Below.refl _ _).drew.trans bl; have hTl := (unhide HT2).below bl'; have k0 := (hTl.all 0 _ rfl).1; have k1 := (hTl.all 1 _ rfl).1; have k2 := (hTl.all 2 _ rfl).1; have k3 := (hTl.all 3 _ rfl).1; have HTl := hide hTl; have HLs := hide hls; have HBl := hide bl'; clear hTl bl bl' hls)
      | (go_at_call 123; refine (cmeeting_any L R width _ (CoP st cols R) wl (by omega) (by omega) (unhide HLs) (fun i hi => rowL_rng (unhide HM) hi) (fun u v hu hv => MtP.cols (unhide HM) hv)).mono ?_; rintro _ wk ⟨x1, d1, x2, d2, rfl, g1, g2, bk, f1, f2⟩; rw [(unhide HSC).1] at g1; rw [(unhide HSC).2] at g2; rw [(unhide HSC).1, (unhide HSC).2]; clear k0 k1 k2 k3; have hTk := (unhide HTl).below bk; have k0 := (hTk.all 0 _ rfl).1; have k1 := (hTk.all 1 _ rfl).1; have k2 := (hTk.all 2 _ rfl).1; have k3 := (hTk.all 3 _ rfl).1; have hOk := ((unhide HO2).below (unhide HBl)).below bk; have o0 := (hOk.all 0 _ rfl).1; have o1 := (hOk.all 1 _ rfl).1; have o2 := (hOk.all 2 _ rfl).1; have o3 := (hOk.all 3 _ rfl).1; have r0 := (hOk.all 0 _ rfl).2; have r1 := (hOk.all 1 _ rfl).2; have r2 := (hOk.all 2 _ rfl).2; have r3 := (hOk.all 3 _ rfl).2; have HOk := hide hOk; have HG := hide (And.intro g1 g2); have HFr := hide (And.intro f1 f2); have HBK := hide ((unhide HBl).trans (bk.mono (unhide HBl).size)); clear hTk hOk g1 g2 f1 f2 bk))
  clear k0 k1 k2 k3
  go_wp2_with fail
  have hf := ((((unhide HOk).put 0 (.int .i64 (width : Int))).put 1 (.int .i64 (width : Int))).put 2 (.slice x1 S.length d1)).put 3 (.slice x2 C.length d2)
  have t0 := (hf.all 0 _ rfl).1
  have t1 := (hf.all 1 _ rfl).1
  have t2 := (hf.all 2 _ rfl).1
  have t3 := (hf.all 3 _ rfl).1
  have cc : Chg (fun j => j = wb.heap.size) wk ((((wk.setCell ⟨wb.heap.size, 0, none⟩ (.int .i64 (width : Int))).setCell ⟨wb.heap.size, 1, none⟩ (.int .i64 (width : Int))).setCell ⟨wb.heap.size, 2, none⟩ (.slice x1 S.length d1)).setCell ⟨wb.heap.size, 3, none⟩ (.slice x2 C.length d2)) := (((Chg.of_set (S := fun j => j = wb.heap.size) _ _ _ _ rfl).trans (Chg.of_set (S := fun j => j = wb.heap.size) _ _ _ _ rfl)).trans (Chg.of_set (S := fun j => j = wb.heap.size) _ _ _ _ rfl)).trans (Chg.of_set (S := fun j => j = wb.heap.size) _ _ _ _ rfl)
  generalize (((wk.setCell ⟨wb.heap.size, 0, none⟩ (.int .i64 (width : Int))).setCell ⟨wb.heap.size, 1, none⟩ (.int .i64 (width : Int))).setCell ⟨wb.heap.size, 2, none⟩ (.slice x1 S.length d1)).setCell ⟨wb.heap.size, 3, none⟩ (.slice x2 C.length d2) = wf at *
  refine bodyPost_ret (by simp [results, Tryz.results95, go_sem, t0, t1, t2, t3]; try rfl) rfl ?_
  have h9 := unhide HWB
  have h8 := (unhide HO2).lt
  have h7 := (unhide HBl).size
  have h6 := (unhide HB2).size
  refine ⟨x1, d1, x2, d2, rfl, (unhide HG).1.chg cc (fun z hz _ e => ?_), (unhide HG).2.chg cc (fun z hz _ e => ?_), ?_, fun z hz => ?_, fun z hz => ?_⟩
  · have := (unhide HFr).1 z hz; omega
  · have := (unhide HFr).2 z hz; omega
  · exact ((unhide HB2).trans ((unhide HBK).mono h6)).trans (cc.below (Nat.le_trans h6 (unhide HBK).size) (fun j hj e => by omega))
  · have := (unhide HFr).1 z hz; omega
  · have := (unhide HFr).2 z hz; omega
set_option maxRecDepth 100000 in
set_option maxHeartbeats 16000000 in
theorem crowsf_yes (R width : Nat) (a1 a2 : Option Addr) (n1 c1 n2 c2 : Nat) (st cols : List Int) (w : World) (h1 : SlI w a1 n1 c1 st) (h2 : SlI w a2 n2 c2 cols) (hb1 : n1 ≤ 17592186044416) (hb2 : n2 ≤ 17592186044416) (hm : MayP (R : Int) (width : Int) st cols) :
    Calls Tryz.prog 98 #[patV (R : Int) (width : Int) a1 n1 c1 a2 n2 c2] w fun e w' => GqP w w' e R (grS (RwP st cols width) R R) (grC (RwP st cols width) R R) 0 := by
  obtain ⟨wb, hwb⟩ : ∃ x, w.alloc (.cells #[.int .i64 (R : Int), .int .i64 (width : Int), .slice a1 n1 c1, .slice a2 n2 c2] 25) = x := ⟨_, rfl⟩
  have bb : Below w.heap.size w wb := by rw [← hwb]; exact (Below.refl _ _).alloc (Nat.le_refl _) _
  have hT := BoxP.made w #[.int .i64 (R : Int), .int .i64 (width : Int), .slice a1 n1 c1, .slice a2 n2 c2] 25
  rw [hwb] at hT
  have hO0 := BoxP.made wb #[.int .i64 0, .int .i64 0, .slice none 0 0, .slice none 0 0] 25
  obtain ⟨wo, hwo⟩ : ∃ x, wb.alloc (.cells #[.int .i64 0, .int .i64 0, .slice none 0 0, .slice none 0 0] 25) = x := ⟨_, rfl⟩
  have bo : Below wb.heap.size wb wo := by rw [← hwo]; exact (Below.refl _ _).alloc (Nat.le_refl _) _
  rw [hwo] at hO0
  have hT1 := hT.below bo
  have p0 := (hT1.all 0 _ rfl).1
  have p1 := (hT1.all 1 _ rfl).1
  have p2 := (hT1.all 2 _ rfl).1
  have p3 := (hT1.all 3 _ rfl).1
  have bw := bb.trans (bo.mono bb.size)
  have KM := hide (smay_any (R : Int) (width : Int) a1 a2 n1 c1 n2 c2 st cols wo (h1.below bw) (h2.below bw) hb1 hb2)
  unfold patV at KM
  have HT := hide hT1
  have HO := hide hO0
  have HB := hide bw
  have HWB := hide bb.size
  have hne1 : w.heap.size ≠ wb.heap.size := by have := hT.lt; omega
  have hne2 : wb.heap.size ≠ w.heap.size := fun e => hne1 e.symm
  have HS := hide (And.intro h1 h2)
  have HM := hide hm
  have hfit := hm.head.fit
  have hR8 : R ≤ 128 := by omega
  have hW8 : width ≤ 128 := by omega
  have HTQ := hide (show TruQ true (MayP (R : Int) (width : Int) st cols) from ⟨fun _ => hm, fun _ => rfl⟩)
  obtain ⟨S, hS⟩ : ∃ S, grS (RwP st cols width) R R = S := ⟨_, rfl⟩
  obtain ⟨C, hC⟩ : ∃ C, grC (RwP st cols width) R R = C := ⟨_, rfl⟩
  have HSC := hide (And.intro hS hC)
  rw [hS, hC]
  clear hT hT1 hO0 bb bo bw h1 h2 hm hfit hS hC
  unfold patV
  go_enter Tryz.func98, Tryz.ntmps98
  go_wp2_with fail
  refine (unhide KM).mono ?_
  intro e w2 hq
  obtain ⟨rfl, b2⟩ := hq.known (unhide HTQ)
  have hT2 := (unhide HT).below b2
  have q0 := (hT2.all 0 _ rfl).1
  have q1 := (hT2.all 1 _ rfl).1
  have q2 := (hT2.all 2 _ rfl).1
  have q3 := (hT2.all 3 _ rfl).1
  have bw2 := (unhide HB).trans (b2.mono (unhide HB).size)
  have KR := hide (fun (W : World) (k : Below w2.heap.size w2 W) => ccols_any R width a1 a2 n1 c1 n2 c2 st cols W (((unhide HS).1.below bw2).below k) (((unhide HS).2.below bw2).below k) hb1 hb2 (unhide HM))
  unfold patV at KR
  have HT2 := hide hT2
  have HO2 := hide ((unhide HO).below b2)
  have HB2 := hide bw2
  clear hq KM b2 hT2 bw2 p0 p1 p2 p3
  go_wp2_with fail
  go_region_held3 (fun w' => w'.cell? ⟨w.heap.size, 0, none⟩ = some (.int .i64 (R : Int)) ∧ w'.cell? ⟨w.heap.size, 1, none⟩ = some (.int .i64 (width : Int)) ∧ w'.cell? ⟨w.heap.size, 2, none⟩ = some (.slice a1 n1 c1) ∧ w'.cell? ⟨w.heap.size, 3, none⟩ = some (.slice a2 n2 c2)) (first | (exact ⟨k0, k1, k2, k3⟩) | go_keep)
    (first
      | (go_at_call 126; refine (unhide KR _ (by first | exact (Below.refl _ _).drew | exact Below.refl _ _)).mono ?_; rintro _ wl ⟨t, L, f, hLt, rfl, hL, bl⟩; have hls : LsI wl L width (fun c => grR (InC st cols) c R) := hL.lsI (fun r _ => Nat.le_trans (grR_len _ _ _) (by omega)); have bl' : Below w2.heap.size w2 wl := (Below.refl _ _).drew.trans bl; have hTl := (unhide HT2).below bl'; have k0 := (hTl.all 0 _ rfl).1; have k1 := (hTl.all 1 _ rfl).1; have k2 := (hTl.all 2 _ rfl).1; have k3 := (hTl.all 3 _ rfl).1; have HTl := hide hTl; have HLs := hide hls; have HBl := hide bl'; clear hTl bl bl' hls)
      | (go_at_call 123; refine (cmeeting_any L width R _ (RwP st cols width) wl (by omega) (by omega) (unhide HLs) (fun i hi => grR_rng hR8) (fun u v hu hv => MtP.rows (unhide HM) hu hv)).mono ?_; rintro _ wk ⟨x1, d1, x2, d2, rfl, g1, g2, bk, f1, f2⟩; rw [(unhide HSC).1] at g1; rw [(unhide HSC).2] at g2; rw [(unhide HSC).1, (unhide HSC).2]; clear k0 k1 k2 k3; have hTk := (unhide HTl).below bk; have k0 := (hTk.all 0 _ rfl).1; have k1 := (hTk.all 1 _ rfl).1; have k2 := (hTk.all 2 _ rfl).1; have k3 := (hTk.all 3 _ rfl).1; have hOk := ((unhide HO2).below (unhide HBl)).below bk; have o0 := (hOk.all 0 _ rfl).1; have o1 := (hOk.all 1 _ rfl).1; have o2 := (hOk.all 2 _ rfl).1; have o3 := (hOk.all 3 _ rfl).1; have r0 := (hOk.all 0 _ rfl).2; have r1 := (hOk.all 1 _ rfl).2; have r2 := (hOk.all 2 _ rfl).2; have r3 := (hOk.all 3 _ rfl).2; have HOk := hide hOk; have HG := hide (And.intro g1 g2); have HFr := hide (And.intro f1 f2); have HBK := hide ((unhide HBl).trans (bk.mono (unhide HBl).size)); clear hTk hOk g1 g2 f1 f2 bk))
  clear k0 k1 k2 k3
  go_wp2_with fail
  have hf := ((((unhide HOk).put 0 (.int .i64 (R : Int))).put 1 (.int .i64 (R : Int))).put 2 (.slice x1 S.length d1)).put 3 (.slice x2 C.length d2)
  have t0 := (hf.all 0 _ rfl).1
  have t1 := (hf.all 1 _ rfl).1
  have t2 := (hf.all 2 _ rfl).1
  have t3 := (hf.all 3 _ rfl).1
  have cc : Chg (fun j => j = wb.heap.size) wk ((((wk.setCell ⟨wb.heap.size, 0, none⟩ (.int .i64 (R : Int))).setCell ⟨wb.heap.size, 1, none⟩ (.int .i64 (R : Int))).setCell ⟨wb.heap.size, 2, none⟩ (.slice x1 S.length d1)).setCell ⟨wb.heap.size, 3, none⟩ (.slice x2 C.length d2)) := (((Chg.of_set (S := fun j => j = wb.heap.size) _ _ _ _ rfl).trans (Chg.of_set (S := fun j => j = wb.heap.size) _ _ _ _ rfl)).trans (Chg.of_set (S := fun j => j = wb.heap.size) _ _ _ _ rfl)).trans (Chg.of_set (S := fun j => j = wb.heap.size) _ _ _ _ rfl)
  generalize (((wk.setCell ⟨wb.heap.size, 0, none⟩ (.int .i64 (R : Int))).setCell ⟨wb.heap.size, 1, none⟩ (.int .i64 (R : Int))).setCell ⟨wb.heap.size, 2, none⟩ (.slice x1 S.length d1)).setCell ⟨wb.heap.size, 3, none⟩ (.slice x2 C.length d2) = wf at *
  refine bodyPost_ret (by simp [results, Tryz.results98, go_sem, t0, t1, t2, t3]; try rfl) rfl ?_
  have h9 := unhide HWB
  have h8 := (unhide HO2).lt
  have h7 := (unhide HBl).size
  have h6 := (unhide HB2).size
  refine ⟨x1, d1, x2, d2, rfl, (unhide HG).1.chg cc (fun z hz _ e => ?_), (unhide HG).2.chg cc (fun z hz _ e => ?_), ?_, fun z hz => ?_, fun z hz => ?_⟩
  · have := (unhide HFr).1 z hz; omega
  · have := (unhide HFr).2 z hz; omega
  · exact ((unhide HB2).trans ((unhide HBK).mono h6)).trans (cc.below (Nat.le_trans h6 (unhide HBK).size) (fun j hj e => by omega))
  · have := (unhide HFr).1 z hz; omega
  · have := (unhide HFr).2 z hz; omega
end Go.Proofs.YtgjokididdffhaaGreat
