/- Cgc -/
import Derived.Test.YtgjokididdffhaaGreatCgb
namespace Go.Proofs.YtgjokididdffhaaGreat
open Go.RowKit Go.Deep
set_option linter.unusedVariables false
set_option maxRecDepth 100000 in
set_option maxHeartbeats 16000000 in
theorem ssym_no (R width : Nat) (a1 a2 : Option Addr) (n1 c1 n2 c2 : Nat) (st cols : List Int) (w : World) (h1 : SlI w a1 n1 c1 st) (h2 : SlI w a2 n2 c2 cols) (hb1 : n1 ≤ 17592186044000) (hb2 : n2 ≤ 17592186044000) (hm : MayP (R : Int) (width : Int) st cols) (hne : R ≠ width) :
    Calls Tryz.prog 80 #[patV (R : Int) (width : Int) a1 n1 c1 a2 n2 c2] w fun e w' => e = .returned (.bool false) ∧ Below w.heap.size w w' := by
  obtain ⟨wb, hwb⟩ : ∃ x, w.alloc (.cells #[.int .i64 (R : Int), .int .i64 (width : Int), .slice a1 n1 c1, .slice a2 n2 c2] 25) = x := ⟨_, rfl⟩
  have bb : Below w.heap.size w wb := by rw [← hwb]; exact (Below.refl _ _).alloc (Nat.le_refl _) _
  have hT := BoxP.made w #[.int .i64 (R : Int), .int .i64 (width : Int), .slice a1 n1 c1, .slice a2 n2 c2] 25
  rw [hwb] at hT
  have hO0 := BoxP.made wb #[.bool false] 4
  obtain ⟨wo, hwo⟩ : ∃ x, wb.alloc (.cells #[.bool false] 4) = x := ⟨_, rfl⟩
  have bo : Below wb.heap.size wb wo := by rw [← hwo]; exact (Below.refl _ _).alloc (Nat.le_refl _) _
  rw [hwo] at hO0
  have hT1 := hT.below bo
  have p0 := (hT1.all 0 _ rfl).1
  have p1 := (hT1.all 1 _ rfl).1
  have p2 := (hT1.all 2 _ rfl).1
  have p3 := (hT1.all 3 _ rfl).1
  have bw := bb.trans (bo.mono bb.size)
  have KM := hide (ssquare_yes R width a1 a2 n1 c1 n2 c2 st cols wo (h1.below bw) (h2.below bw) (by omega) (by omega) hm)
  rw [if_neg hne] at KM
  have HO := hide hO0
  have HB := hide bw
  have HWB := hide bb.size
  clear hT hT1 hO0 bb bo bw h1 h2 hm hne
  unfold patV
  unfold patV at KM
  go_enter Tryz.func80, Tryz.ntmps80
  go_wp2_with fail
  refine (unhide KM).mono ?_
  rintro _ w2 ⟨rfl, b2⟩
  have hO2 := (unhide HO).below b2
  have o0 := (hO2.all 0 _ rfl).1
  have r0 := (hO2.all 0 _ rfl).2
  have HB2 := hide ((unhide HB).trans (b2.mono (unhide HB).size))
  have HO2 := hide hO2
  clear b2 hO2 KM p0 p1 p2 p3
  go_wp2_with fail
  have hf := (unhide HO2).put 0 (.bool false)
  have t0 := (hf.all 0 _ rfl).1
  have cc : Chg (fun j => j = wb.heap.size) w2 (w2.setCell ⟨wb.heap.size, 0, none⟩ (.bool false)) := Chg.of_set _ _ _ _ rfl
  generalize w2.setCell ⟨wb.heap.size, 0, none⟩ (.bool false) = wf at *
  refine bodyPost_ret (by simp [results, Tryz.results80, go_sem, t0]; try rfl) rfl ?_
  exact ⟨rfl, (unhide HB2).trans (cc.below (unhide HB2).size (fun j hj e => by have := unhide HWB; omega))⟩
set_option maxRecDepth 20000 in
set_option maxHeartbeats 8000000 in
theorem sindex_any (a : Option Addr) (n c : Nat) (xs : List Int) (t : Int) (w : World) (h : SlI w a n c xs) (hn : n ≤ 140737488355328) :
    Calls Tryz.prog 140 #[.slice a n c, .int .i64 t] w fun e w' => ∃ z : Int, e = .returned (.int .i64 z) ∧ (0 ≤ z ↔ HasX xs n t) ∧ Below w.heap.size w w' := by
  have HS := hide h
  clear h
  go_enter Tryz.func140, Tryz.ntmps140
  go_wp2_with fail
  go_loopw [8, 5] (fun iv _ wr => ∃ i : Nat, i ≤ n ∧ iv = .int .i64 (i : Int) ∧ Hid (∀ k, k < i → xs.getD k 0 ≠ t) ∧ Hid (Below w.heap.size w wr)) (fun iv _ _ => n - (intOf iv).toNat)
  case atStart => exact ⟨0, Nat.zero_le _, rfl, hide (fun k hk => by omega), hide (Below.refl _ _)⟩
  case round =>
    obtain ⟨i, hi, rfl, HA, HW⟩ := hrel
    by_cases hlt : i < n
    · have hlt' : (i : Int) < (n : Int) := by omega
      obtain ⟨b, off, rfl, hc⟩ := ((unhide HS).below (unhide HW)).at (by omega)
      have hx := hc i hlt
      obtain ⟨x, hxx⟩ : ∃ x, xs.getD i 0 = x := ⟨_, rfl⟩
      rw [hxx] at hx
      have HX := hide hxx
      clear hc hxx
      by_cases he : t = x
      · have he' : (t == x) = true := by simp [he]
        have HE := hide he
        clear he
        go_wp2_with fail
        try go_ret
        exact ⟨_, rfl, ⟨fun _ => ⟨i, hlt, (unhide HX).trans (unhide HE).symm⟩, fun _ => by omega⟩, unhide HW⟩
      · have he' : (t == x) = false := by simp [he]
        have HE := hide he
        clear he
        go_wp2_with fail
        refine ⟨⟨i + 1, by omega, by (first | rfl | go_num), hide (fun k hk => ?_), HW⟩, by simp [intOf]; omega⟩
        by_cases e : k = i
        · rw [e, unhide HX]; exact fun h => unhide HE h.symm
        · exact unhide HA k (by omega)
    · obtain rfl : i = n := by omega
      have hlt' : ¬ (i : Int) < (i : Int) := by omega
      go_wp2_with fail
      try go_ret
      exact ⟨_, rfl, ⟨fun h => by omega, fun ⟨k, hk, e⟩ => absurd e (unhide HA k hk)⟩, unhide HW⟩
set_option maxRecDepth 20000 in
set_option maxHeartbeats 8000000 in
theorem scontains_any (a : Option Addr) (n c : Nat) (xs : List Int) (t : Int) (w : World) (h : SlI w a n c xs) (hn : n ≤ 140737488355328) (ok : Bool) (hok : TruQ ok (HasX xs n t)) :
    Calls Tryz.prog 119 #[.slice a n c, .int .i64 t] w fun e w' => e = .returned (.bool ok) ∧ Below w.heap.size w w' := by
  have KI := hide (sindex_any a n c xs t w h hn)
  have HOK := hide hok
  clear h hok
  go_enter Tryz.func119, Tryz.ntmps119
  go_wp2_with fail
  refine (unhide KI).mono ?_
  rintro _ w2 ⟨z, rfl, hz, b2⟩
  have hd : decide (0 ≤ z) = ok := by
    cases hk : ok
    · exact decide_eq_false (fun h => by have := Iff.mpr (unhide HOK) (hz.1 h); rw [hk] at this; cases this)
    · exact decide_eq_true (hz.2 (Iff.mp (unhide HOK) hk))
  have HB := hide b2
  clear KI hz b2 HOK
  go_wp2_with fail
  try go_ret
  exact ⟨by simp_all, unhide HB⟩
def DiP (st cols : List Int) (k : Nat) : Prop := ∃ r, r < k ∧ InC st cols r r
set_option maxRecDepth 100000 in
set_option maxHeartbeats 16000000 in
theorem chasdiag_any (R width : Nat) (a1 a2 : Option Addr) (n1 c1 n2 c2 : Nat) (st cols : List Int) (w : World) (h1 : SlI w a1 n1 c1 st) (h2 : SlI w a2 n2 c2 cols) (hb1 : n1 ≤ 17592186044416) (hb2 : n2 ≤ 17592186044416) (hm : MayP (R : Int) (width : Int) st cols) (ok : Bool) (hok : TruQ ok (DiP st cols R)) :
    Calls Tryz.prog 81 #[patV (R : Int) (width : Int) a1 n1 c1 a2 n2 c2] w fun e w' => e = .returned (.bool ok) ∧ Below w.heap.size w w' := by
  obtain ⟨wb, hwb⟩ : ∃ x, w.alloc (.cells #[.int .i64 (R : Int), .int .i64 (width : Int), .slice a1 n1 c1, .slice a2 n2 c2] 25) = x := ⟨_, rfl⟩
  have bb : Below w.heap.size w wb := by rw [← hwb]; exact (Below.refl _ _).alloc (Nat.le_refl _) _
  have hT := BoxP.made w #[.int .i64 (R : Int), .int .i64 (width : Int), .slice a1 n1 c1, .slice a2 n2 c2] 25
  rw [hwb] at hT
  have p0 := (hT.all 0 _ rfl).1
  have p1 := (hT.all 1 _ rfl).1
  have p2 := (hT.all 2 _ rfl).1
  have p3 := (hT.all 3 _ rfl).1
  have KR := hide (crows_any R (width : Int) a1 a2 n1 c1 n2 c2 st cols wb (h1.below bb) (h2.below bb) hb1 hb2 hm)
  have hR8 : R ≤ 128 := by have := hm.head.fit; omega
  have HS := hide h2
  have HB := hide bb
  have HM := hide hm
  have HOK := hide hok
  clear hT bb h1 h2 hm hok
  unfold patV
  unfold patV at KR
  go_enter Tryz.func81, Tryz.ntmps81
  go_wp2_with fail
  refine (unhide KR).mono ?_
  rintro _ wl ⟨L, hLs, rfl, hL, bl⟩
  have bwl := (unhide HB).trans (bl.mono (unhide HB).size)
  have HLs := hide (hL.lsI ((unhide HS).below bwl) hb2 (unhide HM))
  have HBl := hide bwl
  clear hL hLs bl bwl KR p0 p1 p2 p3
  go_wp2_with fail
  go_loopw [8, 3] (fun kv _ wr => ∃ k : Nat, k ≤ R ∧ kv = .int .i64 (k : Int) ∧ Hid (¬ DiP st cols k) ∧ Hid (Below wl.heap.size wl wr)) (fun kv _ _ => R - (intOf kv).toNat)
  case atStart => exact ⟨0, Nat.zero_le _, rfl, hide (fun ⟨r, h, _⟩ => absurd h (Nat.not_lt_zero _)), hide (Below.refl _ _)⟩
  case round =>
    obtain ⟨k, hk, rfl, HA, HW⟩ := hrel
    by_cases hlt : k < R
    · have hlt' : (k : Int) < (R : Int) := by omega
      obtain ⟨a, q, c, hcell, hsl, hq⟩ := unhide HLs k hlt
      have hcr := (unhide HW).cell (World.block_lt_of_cell? _ _ hcell) |>.trans hcell
      obtain ⟨fd, hfd⟩ := truth (HasX (rowL st cols k) q (k : Int))
      have KC := hide (scontains_any a q c (rowL st cols k) (k : Int) wr (hsl.below (unhide HW)) (by omega) fd hfd)
      have HFD := hide (show TruQ fd (InC st cols k k) from (show fd = true ↔ _ from hfd).trans (by
        rw [← rowL_mem (unhide HM) hlt, mem_getD, hsl.len]
        rfl))
      clear hcell hsl hfd
      go_wp2_with fail
      refine (unhide KC).mono ?_
      rintro _ w2 ⟨rfl, b2⟩
      have HW2 := hide ((unhide HW).trans (b2.mono (unhide HW).size))
      clear b2 KC hcr
      cases fd
      · go_wp2_with fail
        refine ⟨⟨k + 1, by omega, by (first | rfl | go_num), hide (fun ⟨r, h, e⟩ => ?_), HW2⟩, by simp [intOf]; omega⟩
        by_cases e2 : r = k
        · subst e2
          exact absurd (Iff.mpr (unhide HFD) e) (by decide)
        · exact unhide HA ⟨r, by omega, e⟩
      · go_wp2_with fail
        try go_ret
        refine ⟨?_, (unhide HBl).trans ((unhide HW2).mono (unhide HBl).size)⟩
        have hk3 : ok = true := Iff.mpr (unhide HOK) ⟨k, hlt, Iff.mp (unhide HFD) rfl⟩
        subst hk3
        first | rfl | simp
    · obtain rfl : k = R := by omega
      have hlt' : ¬ (k : Int) < (k : Int) := by omega
      go_wp2_with fail
      try go_ret
      refine ⟨?_, (unhide HBl).trans ((unhide HW).mono (unhide HBl).size)⟩
      cases hk2 : ok
      · rfl
      · exact absurd (Iff.mp (unhide HOK) hk2) (unhide HA)
def GraP (st cols : List Int) (R width : Nat) : Prop := R = width ∧ SyP st cols R ∧ ¬ DiP st cols R
set_option maxRecDepth 100000 in
set_option maxHeartbeats 16000000 in
theorem citself_yes (R width : Nat) (a1 a2 : Option Addr) (n1 c1 n2 c2 : Nat) (st cols : List Int) (w : World) (h1 : SlI w a1 n1 c1 st) (h2 : SlI w a2 n2 c2 cols) (hb1 : n1 ≤ 17592186044000) (hb2 : n2 ≤ 17592186044000) (hm : MayP (R : Int) (width : Int) st cols) (hg : GraP st cols R width) :
    Calls Tryz.prog 49 #[patV (R : Int) (width : Int) a1 n1 c1 a2 n2 c2] w fun e w' => e = .returned (.tuple #[patV (R : Int) (width : Int) a1 n1 c1 a2 n2 c2, .int .i64 0]) ∧ Below w.heap.size w w' := by
  obtain ⟨e1, hsy, hdi⟩ := hg
  subst e1
  obtain ⟨wb, hwb⟩ : ∃ x, w.alloc (.cells #[.int .i64 (R : Int), .int .i64 (R : Int), .slice a1 n1 c1, .slice a2 n2 c2] 25) = x := ⟨_, rfl⟩
  have bb : Below w.heap.size w wb := by rw [← hwb]; exact (Below.refl _ _).alloc (Nat.le_refl _) _
  have hT := BoxP.made w #[.int .i64 (R : Int), .int .i64 (R : Int), .slice a1 n1 c1, .slice a2 n2 c2] 25
  rw [hwb] at hT
  have hO0 := BoxP.made wb #[.int .i64 0, .int .i64 0, .slice none 0 0, .slice none 0 0] 25
  obtain ⟨wo, hwo⟩ : ∃ x, wb.alloc (.cells #[.int .i64 0, .int .i64 0, .slice none 0 0, .slice none 0 0] 25) = x := ⟨_, rfl⟩
  have bo : Below wb.heap.size wb wo := by rw [← hwo]; exact (Below.refl _ _).alloc (Nat.le_refl _) _
  rw [hwo] at hO0
  have hT1 := hT.below bo
  have p0 := (hT1.all 0 _ rfl).1
  have p1 := (hT1.all 1 _ rfl).1
  have p2 := (hT1.all 2 _ rfl).1
  have p3 := (hT1.all 3 _ rfl).1
  have bw := bb.trans (bo.mono bb.size)
  have KM := hide (smay_any (R : Int) (R : Int) a1 a2 n1 c1 n2 c2 st cols wo (h1.below bw) (h2.below bw) (by omega) (by omega))
  unfold patV at KM
  have HT := hide hT1
  have HO := hide hO0
  have HB := hide bw
  have HWB := hide bb.size
  have HS := hide (And.intro h1 h2)
  have HM := hide hm
  have HSY := hide (And.intro hsy hdi)
  have HTQ := hide (show TruQ true (MayP (R : Int) (R : Int) st cols) from ⟨fun _ => hm, fun _ => rfl⟩)
  clear hT hT1 hO0 bb bo bw h1 h2 hm hsy hdi
  unfold patV
  go_enter Tryz.func49, Tryz.ntmps49
  go_wp2_with fail
  refine (unhide KM).mono ?_
  intro e w2 hq
  obtain ⟨rfl, b2⟩ := hq.known (unhide HTQ)
  have hT2 := (unhide HT).below b2
  have q0 := (hT2.all 0 _ rfl).1
  have q1 := (hT2.all 1 _ rfl).1
  have q2 := (hT2.all 2 _ rfl).1
  have q3 := (hT2.all 3 _ rfl).1
  have bw2 := (unhide HB).trans (b2.mono (unhide HB).size)
  have KS := hide (ssym_any R a1 a2 n1 c1 n2 c2 st cols w2 ((unhide HS).1.below bw2) ((unhide HS).2.below bw2) hb1 hb2 (unhide HM) true ⟨fun _ => (unhide HSY).1, fun _ => rfl⟩)
  unfold patV at KS
  have HT2 := hide hT2
  have HO2 := hide ((unhide HO).below b2)
  have HB2 := hide bw2
  clear hq KM b2 hT2 bw2 p0 p1 p2 p3
  go_wp2_with fail
  refine (unhide KS).mono ?_
  rintro _ w3 ⟨rfl, b3⟩
  have hT3 := (unhide HT2).below b3
  clear q0 q1 q2 q3
  have q0 := (hT3.all 0 _ rfl).1
  have q1 := (hT3.all 1 _ rfl).1
  have q2 := (hT3.all 2 _ rfl).1
  have q3 := (hT3.all 3 _ rfl).1
  have bw3 := (unhide HB2).trans (b3.mono (unhide HB2).size)
  have KD := hide (chasdiag_any R R a1 a2 n1 c1 n2 c2 st cols w3 ((unhide HS).1.below bw3) ((unhide HS).2.below bw3) (by omega) (by omega) (unhide HM) false ⟨fun e => absurd e (by decide), fun h => absurd h (unhide HSY).2⟩)
  unfold patV at KD
  have HT3 := hide hT3
  have HO3 := hide ((unhide HO2).below b3)
  have HB3 := hide bw3
  clear KS b3 hT3 bw3
  go_wp2_with fail
  refine (unhide KD).mono ?_
  rintro _ w4 ⟨rfl, b4⟩
  have hT4 := (unhide HT3).below b4
  clear q0 q1 q2 q3
  have q0 := (hT4.all 0 _ rfl).1
  have q1 := (hT4.all 1 _ rfl).1
  have q2 := (hT4.all 2 _ rfl).1
  have q3 := (hT4.all 3 _ rfl).1
  have hO4 := (unhide HO3).below b4
  have o0 := (hO4.all 0 _ rfl).1
  have o1 := (hO4.all 1 _ rfl).1
  have o2 := (hO4.all 2 _ rfl).1
  have o3 := (hO4.all 3 _ rfl).1
  have r0 := (hO4.all 0 _ rfl).2
  have r1 := (hO4.all 1 _ rfl).2
  have r2 := (hO4.all 2 _ rfl).2
  have r3 := (hO4.all 3 _ rfl).2
  have HO4 := hide hO4
  have HB4 := hide ((unhide HB3).trans (b4.mono (unhide HB3).size))
  clear KD b4 hT4 hO4
  go_wp2_with fail
  have hf := ((((unhide HO4).put 0 (.int .i64 (R : Int))).put 1 (.int .i64 (R : Int))).put 2 (.slice a1 n1 c1)).put 3 (.slice a2 n2 c2)
  have t0 := (hf.all 0 _ rfl).1
  have t1 := (hf.all 1 _ rfl).1
  have t2 := (hf.all 2 _ rfl).1
  have t3 := (hf.all 3 _ rfl).1
  have cc : Chg (fun j => j = wb.heap.size) w4 ((((w4.setCell ⟨wb.heap.size, 0, none⟩ (.int .i64 (R : Int))).setCell ⟨wb.heap.size, 1, none⟩ (.int .i64 (R : Int))).setCell ⟨wb.heap.size, 2, none⟩ (.slice a1 n1 c1)).setCell ⟨wb.heap.size, 3, none⟩ (.slice a2 n2 c2)) := (((Chg.of_set (S := fun j => j = wb.heap.size) _ _ _ _ rfl).trans (Chg.of_set (S := fun j => j = wb.heap.size) _ _ _ _ rfl)).trans (Chg.of_set (S := fun j => j = wb.heap.size) _ _ _ _ rfl)).trans (Chg.of_set (S := fun j => j = wb.heap.size) _ _ _ _ rfl)
  generalize (((w4.setCell ⟨wb.heap.size, 0, none⟩ (.int .i64 (R : Int))).setCell ⟨wb.heap.size, 1, none⟩ (.int .i64 (R : Int))).setCell ⟨wb.heap.size, 2, none⟩ (.slice a1 n1 c1)).setCell ⟨wb.heap.size, 3, none⟩ (.slice a2 n2 c2) = wf at *
  refine bodyPost_ret (by simp [results, Tryz.results49, go_sem, t0, t1, t2, t3]; try rfl) rfl ?_
  exact ⟨rfl, (unhide HB4).trans (cc.below (unhide HB4).size (fun j hj e => by have := unhide HWB; omega))⟩
set_option maxRecDepth 100000 in
set_option maxHeartbeats 16000000 in
theorem citself_asym (R width : Nat) (a1 a2 : Option Addr) (n1 c1 n2 c2 : Nat) (st cols : List Int) (w : World) (h1 : SlI w a1 n1 c1 st) (h2 : SlI w a2 n2 c2 cols) (hb1 : n1 ≤ 17592186044000) (hb2 : n2 ≤ 17592186044000) (hm : MayP (R : Int) (width : Int) st cols) (hsy : ¬ (R = width ∧ SyP st cols R)) :
    Calls Tryz.prog 49 #[patV (R : Int) (width : Int) a1 n1 c1 a2 n2 c2] w fun e w' => e = .returned (.tuple #[.agg #[.int .i64 0, .int .i64 0, .slice none 0 0, .slice none 0 0], .int .i64 220]) ∧ Below w.heap.size w w' := by
  obtain ⟨wb, hwb⟩ : ∃ x, w.alloc (.cells #[.int .i64 (R : Int), .int .i64 (width : Int), .slice a1 n1 c1, .slice a2 n2 c2] 25) = x := ⟨_, rfl⟩
  have bb : Below w.heap.size w wb := by rw [← hwb]; exact (Below.refl _ _).alloc (Nat.le_refl _) _
  have hT := BoxP.made w #[.int .i64 (R : Int), .int .i64 (width : Int), .slice a1 n1 c1, .slice a2 n2 c2] 25
  rw [hwb] at hT
  have hO0 := BoxP.made wb #[.int .i64 0, .int .i64 0, .slice none 0 0, .slice none 0 0] 25
  obtain ⟨wo, hwo⟩ : ∃ x, wb.alloc (.cells #[.int .i64 0, .int .i64 0, .slice none 0 0, .slice none 0 0] 25) = x := ⟨_, rfl⟩
  have bo : Below wb.heap.size wb wo := by rw [← hwo]; exact (Below.refl _ _).alloc (Nat.le_refl _) _
  rw [hwo] at hO0
  have hT1 := hT.below bo
  have p0 := (hT1.all 0 _ rfl).1
  have p1 := (hT1.all 1 _ rfl).1
  have p2 := (hT1.all 2 _ rfl).1
  have p3 := (hT1.all 3 _ rfl).1
  have bw := bb.trans (bo.mono bb.size)
  have HT := hide hT1
  have HO := hide hO0
  have HB := hide bw
  have HWB := hide bb.size
  have HS := hide (And.intro h1 h2)
  have KM := hide (smay_any (R : Int) (width : Int) a1 a2 n1 c1 n2 c2 st cols wo (h1.below bw) (h2.below bw) (by omega) (by omega))
  unfold patV at KM
  have HTQ := hide (show TruQ true (MayP (R : Int) (width : Int) st cols) from ⟨fun _ => hm, fun _ => rfl⟩)
  have HM := hide hm
  have HSY := hide hsy
  clear hT hT1 hO0 bb bo bw h1 h2 hm hsy
  unfold patV
  go_enter Tryz.func49, Tryz.ntmps49
  go_wp2_with fail
  refine (unhide KM).mono ?_
  intro e w2 hq
  obtain ⟨rfl, b2⟩ := hq.known (unhide HTQ)
  have hT2 := (unhide HT).below b2
  have q0 := (hT2.all 0 _ rfl).1
  have q1 := (hT2.all 1 _ rfl).1
  have q2 := (hT2.all 2 _ rfl).1
  have q3 := (hT2.all 3 _ rfl).1
  have bw2 := (unhide HB).trans (b2.mono (unhide HB).size)
  have hO2 := (unhide HO).below b2
  have KS := hide (show Calls Tryz.prog 80 #[patV (R : Int) (width : Int) a1 n1 c1 a2 n2 c2] w2 fun e w' => e = .returned (.bool false) ∧ Below w2.heap.size w2 w' from by
    by_cases hRw : R = width
    · subst hRw
      exact ssym_any R a1 a2 n1 c1 n2 c2 st cols w2 ((unhide HS).1.below bw2) ((unhide HS).2.below bw2) hb1 hb2 (unhide HM) false ⟨fun e => absurd e (by decide), fun h => absurd ⟨rfl, h⟩ (unhide HSY)⟩
    · exact ssym_no R width a1 a2 n1 c1 n2 c2 st cols w2 ((unhide HS).1.below bw2) ((unhide HS).2.below bw2) hb1 hb2 (unhide HM) hRw)
  unfold patV at KS
  have HT2 := hide hT2
  have HO2 := hide hO2
  have HB2 := hide bw2
  clear hq KM b2 hT2 hO2 bw2 p0 p1 p2 p3
  go_wp2_with fail
  refine (unhide KS).mono ?_
  rintro _ w3 ⟨rfl, b3⟩
  have bw3 := (unhide HB2).trans (b3.mono (unhide HB2).size)
  have hO3 := (unhide HO2).below b3
  have o0 := (hO3.all 0 _ rfl).1
  have o1 := (hO3.all 1 _ rfl).1
  have o2 := (hO3.all 2 _ rfl).1
  have o3 := (hO3.all 3 _ rfl).1
  have r0 := (hO3.all 0 _ rfl).2
  have r1 := (hO3.all 1 _ rfl).2
  have r2 := (hO3.all 2 _ rfl).2
  have r3 := (hO3.all 3 _ rfl).2
  have HO3 := hide hO3
  have HB3 := hide bw3
  clear KS b3 hO3 bw3 q0 q1 q2 q3
  go_wp2_with fail
  have hf := ((((unhide HO3).put 0 (.int .i64 0)).put 1 (.int .i64 0)).put 2 (.slice none 0 0)).put 3 (.slice none 0 0)
  have t0 := (hf.all 0 _ rfl).1
  have t1 := (hf.all 1 _ rfl).1
  have t2 := (hf.all 2 _ rfl).1
  have t3 := (hf.all 3 _ rfl).1
  have cc : Chg (fun j => j = wb.heap.size) w3 ((((w3.setCell ⟨wb.heap.size, 0, none⟩ (.int .i64 0)).setCell ⟨wb.heap.size, 1, none⟩ (.int .i64 0)).setCell ⟨wb.heap.size, 2, none⟩ (.slice none 0 0)).setCell ⟨wb.heap.size, 3, none⟩ (.slice none 0 0)) := (((Chg.of_set (S := fun j => j = wb.heap.size) _ _ _ _ rfl).trans (Chg.of_set (S := fun j => j = wb.heap.size) _ _ _ _ rfl)).trans (Chg.of_set (S := fun j => j = wb.heap.size) _ _ _ _ rfl)).trans (Chg.of_set (S := fun j => j = wb.heap.size) _ _ _ _ rfl)
  generalize (((w3.setCell ⟨wb.heap.size, 0, none⟩ (.int .i64 0)).setCell ⟨wb.heap.size, 1, none⟩ (.int .i64 0)).setCell ⟨wb.heap.size, 2, none⟩ (.slice none 0 0)).setCell ⟨wb.heap.size, 3, none⟩ (.slice none 0 0) = wf at *
  refine bodyPost_ret (by simp [results, Tryz.results49, go_sem, t0, t1, t2, t3]; try rfl) rfl ?_
  exact ⟨rfl, (unhide HB3).trans (cc.below (unhide HB3).size (fun j hj e => by have := unhide HWB; omega))⟩
set_option maxRecDepth 100000 in
set_option maxHeartbeats 16000000 in
theorem citself_diag (R : Nat) (a1 a2 : Option Addr) (n1 c1 n2 c2 : Nat) (st cols : List Int) (w : World) (h1 : SlI w a1 n1 c1 st) (h2 : SlI w a2 n2 c2 cols) (hb1 : n1 ≤ 17592186044000) (hb2 : n2 ≤ 17592186044000) (hm : MayP (R : Int) (R : Int) st cols) (hsy : SyP st cols R) (hdi : DiP st cols R) :
    Calls Tryz.prog 49 #[patV (R : Int) (R : Int) a1 n1 c1 a2 n2 c2] w fun e w' => e = .returned (.tuple #[.agg #[.int .i64 0, .int .i64 0, .slice none 0 0, .slice none 0 0], .int .i64 220]) ∧ Below w.heap.size w w' := by
  obtain ⟨wb, hwb⟩ : ∃ x, w.alloc (.cells #[.int .i64 (R : Int), .int .i64 (R : Int), .slice a1 n1 c1, .slice a2 n2 c2] 25) = x := ⟨_, rfl⟩
  have bb : Below w.heap.size w wb := by rw [← hwb]; exact (Below.refl _ _).alloc (Nat.le_refl _) _
  have hT := BoxP.made w #[.int .i64 (R : Int), .int .i64 (R : Int), .slice a1 n1 c1, .slice a2 n2 c2] 25
  rw [hwb] at hT
  have hO0 := BoxP.made wb #[.int .i64 0, .int .i64 0, .slice none 0 0, .slice none 0 0] 25
  obtain ⟨wo, hwo⟩ : ∃ x, wb.alloc (.cells #[.int .i64 0, .int .i64 0, .slice none 0 0, .slice none 0 0] 25) = x := ⟨_, rfl⟩
  have bo : Below wb.heap.size wb wo := by rw [← hwo]; exact (Below.refl _ _).alloc (Nat.le_refl _) _
  rw [hwo] at hO0
  have hT1 := hT.below bo
  have p0 := (hT1.all 0 _ rfl).1
  have p1 := (hT1.all 1 _ rfl).1
  have p2 := (hT1.all 2 _ rfl).1
  have p3 := (hT1.all 3 _ rfl).1
  have bw := bb.trans (bo.mono bb.size)
  have HT := hide hT1
  have HO := hide hO0
  have HB := hide bw
  have HWB := hide bb.size
  have HS := hide (And.intro h1 h2)
  have KM := hide (smay_any (R : Int) (R : Int) a1 a2 n1 c1 n2 c2 st cols wo (h1.below bw) (h2.below bw) (by omega) (by omega))
  unfold patV at KM
  have HTQ := hide (show TruQ true (MayP (R : Int) (R : Int) st cols) from ⟨fun _ => hm, fun _ => rfl⟩)
  have HM := hide hm
  have HSY := hide (And.intro hsy hdi)
  clear hT hT1 hO0 bb bo bw h1 h2 hm hsy hdi
  unfold patV
  go_enter Tryz.func49, Tryz.ntmps49
  go_wp2_with fail
  refine (unhide KM).mono ?_
  intro e w2 hq
  obtain ⟨rfl, b2⟩ := hq.known (unhide HTQ)
  have hT2 := (unhide HT).below b2
  have q0 := (hT2.all 0 _ rfl).1
  have q1 := (hT2.all 1 _ rfl).1
  have q2 := (hT2.all 2 _ rfl).1
  have q3 := (hT2.all 3 _ rfl).1
  have bw2 := (unhide HB).trans (b2.mono (unhide HB).size)
  have hO2 := (unhide HO).below b2
  have KS := hide (ssym_any R a1 a2 n1 c1 n2 c2 st cols w2 ((unhide HS).1.below bw2) ((unhide HS).2.below bw2) hb1 hb2 (unhide HM) true ⟨fun _ => (unhide HSY).1, fun _ => rfl⟩)
  unfold patV at KS
  have HT2 := hide hT2
  have HO2 := hide hO2
  have HB2 := hide bw2
  clear hq KM b2 hT2 hO2 bw2 p0 p1 p2 p3
  go_wp2_with fail
  refine (unhide KS).mono ?_
  rintro _ w3 ⟨rfl, b3⟩
  have bw3 := (unhide HB2).trans (b3.mono (unhide HB2).size)
  have hT3 := (unhide HT2).below b3
  clear q0 q1 q2 q3
  have q0 := (hT3.all 0 _ rfl).1
  have q1 := (hT3.all 1 _ rfl).1
  have q2 := (hT3.all 2 _ rfl).1
  have q3 := (hT3.all 3 _ rfl).1
  have KD := hide (chasdiag_any R R a1 a2 n1 c1 n2 c2 st cols w3 ((unhide HS).1.below bw3) ((unhide HS).2.below bw3) (by omega) (by omega) (unhide HM) true ⟨fun _ => (unhide HSY).2, fun _ => rfl⟩)
  unfold patV at KD
  have HO3 := hide ((unhide HO2).below b3)
  have HB3 := hide bw3
  clear KS b3 hT3 bw3
  go_wp2_with fail
  refine (unhide KD).mono ?_
  rintro _ w4 ⟨rfl, b4⟩
  have hO4 := (unhide HO3).below b4
  have o0 := (hO4.all 0 _ rfl).1
  have o1 := (hO4.all 1 _ rfl).1
  have o2 := (hO4.all 2 _ rfl).1
  have o3 := (hO4.all 3 _ rfl).1
  have r0 := (hO4.all 0 _ rfl).2
  have r1 := (hO4.all 1 _ rfl).2
  have r2 := (hO4.all 2 _ rfl).2
  have r3 := (hO4.all 3 _ rfl).2
  have HO4 := hide hO4
  have HB4 := hide ((unhide HB3).trans (b4.mono (unhide HB3).size))
  clear KD b4 hO4 q0 q1 q2 q3
  go_wp2_with fail
  have hf := ((((unhide HO4).put 0 (.int .i64 0)).put 1 (.int .i64 0)).put 2 (.slice none 0 0)).put 3 (.slice none 0 0)
  have t0 := (hf.all 0 _ rfl).1
  have t1 := (hf.all 1 _ rfl).1
  have t2 := (hf.all 2 _ rfl).1
  have t3 := (hf.all 3 _ rfl).1
  have cc : Chg (fun j => j = wb.heap.size) w4 ((((w4.setCell ⟨wb.heap.size, 0, none⟩ (.int .i64 0)).setCell ⟨wb.heap.size, 1, none⟩ (.int .i64 0)).setCell ⟨wb.heap.size, 2, none⟩ (.slice none 0 0)).setCell ⟨wb.heap.size, 3, none⟩ (.slice none 0 0)) := (((Chg.of_set (S := fun j => j = wb.heap.size) _ _ _ _ rfl).trans (Chg.of_set (S := fun j => j = wb.heap.size) _ _ _ _ rfl)).trans (Chg.of_set (S := fun j => j = wb.heap.size) _ _ _ _ rfl)).trans (Chg.of_set (S := fun j => j = wb.heap.size) _ _ _ _ rfl)
  generalize (((w4.setCell ⟨wb.heap.size, 0, none⟩ (.int .i64 0)).setCell ⟨wb.heap.size, 1, none⟩ (.int .i64 0)).setCell ⟨wb.heap.size, 2, none⟩ (.slice none 0 0)).setCell ⟨wb.heap.size, 3, none⟩ (.slice none 0 0) = wf at *
  refine bodyPost_ret (by simp [results, Tryz.results49, go_sem, t0, t1, t2, t3]; try rfl) rfl ?_
  exact ⟨rfl, (unhide HB4).trans (cc.below (unhide HB4).size (fun j hj e => by have := unhide HWB; omega))⟩
end Go.Proofs.YtgjokididdffhaaGreat
