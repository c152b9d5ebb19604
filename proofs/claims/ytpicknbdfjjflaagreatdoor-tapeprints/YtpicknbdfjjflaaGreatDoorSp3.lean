/- Te9 -/
import Derived.Test.YtpicknbdfjjflaaGreatDoorTe8
import Derived.Test.YtpicknbdfjjflaaGreatDoorSi1
import Derived.Test.YtpicknbdfjjflaaGreatDoorTa0
namespace Go.Proofs.YtpicknbdfjjflaaGreatDoor
open Go.RowKit Go.Deep
set_option linter.unusedVariables false
set_option maxRecDepth 100000 in
set_option maxHeartbeats 16000000 in
theorem tchk_any (i : Int) (a : Option Addr) (n c : Nat) (os : List On) (b : Option Addr) (m d : Nat) (ys : List Int) (w : World) (hs : SlO w a n c os) (hy : SlI w b m d ys) (hT : Tab64 w) (hS : TabSh w) :
    Calls Tryz.prog 47 #[tapV i a n c b m d] w fun e w' => e = .returned (.int .i64 (chF i os ys).2) ∧ Below w.heap.size w w' := by
  have hbo : Below w.heap.size w (w.alloc (.cells #[.int .i64 i, .slice a n c, .slice b m d] 25)) := (Below.refl _ _).alloc (Nat.le_refl _) _
  have K := tcheck_any i a n c os b m d ys _ (hs.below hbo) (hy.below hbo) (hT.below hbo) (hS.below hbo)
  have HK := hide K
  have HB := hide hbo
  unfold tapV at HK ⊢
  clear K hs hy hT hS hbo
  go_enter Tryz.func47, Tryz.ntmps47
  go_wp2_with fail
  refine (unhide HK).mono ?_
  rintro _ w1 ⟨rfl, b1⟩
  have HB1 := hide ((unhide HB).trans (b1.mono (unhide HB).size))
  clear b1 HK
  go_wp2_with fail
  go_ret
  exact ⟨rfl, unhide HB1⟩
set_option maxRecDepth 100000 in
set_option maxHeartbeats 16000000 in
theorem wcheck_any (i : Int) (a : Option Addr) (n c : Nat) (os : List On) (b : Option Addr) (m d : Nat) (ys : List Int) (w : World) (hs : SlO w a n c os) (hy : SlI w b m d ys) (hT : Tab64 w) :
    Calls Tryz.prog 13 #[tapV i a n c b m d] w fun e w' => e = .returned (.tuple #[.int .i64 (chF i os ys).1, .int .i64 (chF i os ys).2]) ∧ Below w.heap.size w w' := by
  obtain ⟨w1, hwa⟩ : ∃ x, w.alloc (.cells #[.int .i64 i, .slice a n c, .slice b m d] 25) = x := ⟨_, rfl⟩
  have bx : BoxP w1 w.heap.size [.int .i64 i, .slice a n c, .slice b m d] := by rw [← hwa]; exact BoxP.made _ _ _
  have hba : Below w.heap.size w w1 := by rw [← hwa]; exact (Below.refl _ _).alloc (Nat.le_refl _) _
  have g0 := (bx.all 0 _ rfl).1
  have g1 := (bx.all 1 _ rfl).1
  have g2 := (bx.all 2 _ rfl).1
  have HB1 := hide hba
  have HS1 := hide (hs.below hba)
  have HY1 := hide (hy.below hba)
  have HT1 := hide (hT.below hba)
  have HN := hide (And.intro hs.len hy.len)
  clear bx hba hs hy hT
  unfold tapV
  by_cases hz : szF i n m = 0
  rotate_left
  · have HR := hide (chF_sz (os := os) (ys := ys) (unhide HN).1 (unhide HN).2 hz)
    by_cases i0 : i < 0
    · have HV := hide (show szF i n m = 100 by unfold szF; rw [if_pos (by omega)])
      go_enter Tryz.func13, Tryz.ntmps13
      go_wp2_with fail
      try go_ret2
      exact ⟨by rw [unhide HR, unhide HV]; try rfl, unhide HB1⟩
    by_cases i1 : 64 < i
    · have HV := hide (show szF i n m = 100 by unfold szF; rw [if_pos (by omega)])
      go_enter Tryz.func13, Tryz.ntmps13
      go_wp2_with fail
      try go_ret2
      exact ⟨by rw [unhide HR, unhide HV]; try rfl, unhide HB1⟩
    by_cases n1 : 2048 < (n : Int)
    · have HV := hide (show szF i n m = 101 by unfold szF; rw [if_neg (by omega), if_pos (by omega)])
      go_enter Tryz.func13, Tryz.ntmps13
      go_wp2_with fail
      try go_ret2
      exact ⟨by rw [unhide HR, unhide HV]; try rfl, unhide HB1⟩
    by_cases m0 : m = 0
    · have HV := hide (show szF i n m = 102 by unfold szF; rw [if_neg (by omega), if_neg (by omega), if_pos (by omega)])
      have m0' : ((m : Int) == 0) = true := by simpa using m0
      clear m0
      go_enter Tryz.func13, Tryz.ntmps13
      go_wp2_with fail
      try go_ret2
      exact ⟨by rw [unhide HR, unhide HV]; try rfl, unhide HB1⟩
    have m0' : ((m : Int) == 0) = false := by simpa using m0
    have m1 : 64 < (m : Int) := by unfold szF at hz; rw [if_neg (by omega), if_neg (by omega)] at hz; split at hz <;> omega
    have HV := hide (show szF i n m = 102 by unfold szF; rw [if_neg (by omega), if_neg (by omega), if_pos (by omega)])
    clear m0
    go_enter Tryz.func13, Tryz.ntmps13
    go_wp2_with fail
    try go_ret2
    exact ⟨by rw [unhide HR, unhide HV]; try rfl, unhide HB1⟩
  obtain ⟨hi, hn2, hm2, hR⟩ := chF_in (unhide HN).1 (unhide HN).2 hz
  have HR := hide hR
  have i0 : ¬ i < 0 := by omega
  have i1 : ¬ 64 < i := by omega
  have n1 : ¬ 2048 < (n : Int) := by omega
  have m0' : ((m : Int) == 0) = false := by simp; omega
  have m1 : ¬ 64 < (m : Int) := by omega
  clear hz hR
  go_enter Tryz.func13, Tryz.ntmps13
  go_wp2_with fail
  clear i0 i1 n1 m0' m1
  go_loopw [4] (fun iv wr => ∃ k : Nat, k ≤ n ∧ iv = .int .i64 (k : Int) ∧ Hid (Below w1.heap.size w1 wr) ∧ Hid (opsF i 0 os = opsF i k (os.drop k))) (fun iv _ => n - (intOf iv).toNat)
  case atStart => exact ⟨0, Nat.zero_le _, rfl, hide (Below.refl _ _), hide (by simp)⟩
  case round =>
    obtain ⟨k, hk, rfl, HBr, HF⟩ := hrel
    have r0 := ((unhide HBr).cell (World.block_lt_of_cell? _ _ g0)).trans g0
    have r1 := ((unhide HBr).cell (World.block_lt_of_cell? _ _ g1)).trans g1
    have r2 := ((unhide HBr).cell (World.block_lt_of_cell? _ _ g2)).trans g2
    by_cases hlt : k < n
    · have hlt' : (k : Int) < (n : Int) := by omega
      obtain ⟨o, ho⟩ : ∃ o, os[k]? = some o := ⟨_, List.getElem?_eq_getElem (show k < os.length by have := (unhide HN).1; omega)⟩
      obtain ⟨b1, off, o', rfl, hoo, O, hok⟩ := ((unhide HS1).below (unhide HBr)).at' hlt
      obtain rfl : o = o' := by rw [ho] at hoo; exact Option.some.inj hoo
      obtain ⟨c0, c1, c2, c3, c4, c5, c6⟩ := O
      have HK := hide (fun (W : World) (hb : Below wr.heap.size wr W) => (by
        have K := wnode_any i k o W (hok.below hb) ((unhide HT1).below ((unhide HBr).trans (hb.mono (unhide HBr).size)))
        unfold opV at K
        exact K : Calls Tryz.prog 38 #[.agg #[.int .i64 o.k, .int .i64 o.a, .int .i64 o.b, .int .i64 o.n, .bool o.p.g, .slice o.p.a o.p.n o.p.c, .slice o.p.b o.p.m o.p.d], .int .i64 i, .int .i64 (k : Int)] W fun e w' => e = .returned (.int .i64 (opF i k o)) ∧ Below W.heap.size W w'))
      have hst := opsF_drop i os ho k
      obtain ⟨z, hzz⟩ : ∃ z, opF i k o = z := ⟨_, rfl⟩
      rw [hzz] at hst
      simp only [hzz] at HK
      have Fr0 := fun x : Ext wr => x.cell r0
      have Fr1 := fun x : Ext wr => x.cell r1
      have Fc0 := fun x : Ext wr => x.cell c0
      have Fc1 := fun x : Ext wr => x.cell c1
      have Fc2 := fun x : Ext wr => x.cell c2
      have Fc3 := fun x : Ext wr => x.cell c3
      have Fc4 := fun x : Ext wr => x.cell c4
      have Fc5 := fun x : Ext wr => x.cell c5
      have Fc6 := fun x : Ext wr => x.cell c6
      have hNE := Ext.ne wr
      clear ho hoo hok hzz
      go_wp2_with fail
      refine wp_region_ext (by kernel_rfl) (by kernel_rfl) ?_
      repeat (go_big_quiet_step (first | (go_at_call 38; rename_i x; exact Ext.call (unhide HK x.w x.bel) (fun e w' h => h))))
      refine wpQuiet_nil ?_
      rintro _ ⟨xE, rfl⟩
      have HB2 := hide ((unhide HBr).trans (xE.bel.mono (unhide HBr).size))
      clear Fr0 Fr1 Fc0 Fc1 Fc2 Fc3 Fc4 Fc5 Fc6 hNE HK
      by_cases hz : z = 0
      · rw [if_pos hz] at hst
        have HF2 := hide ((unhide HF).trans hst)
        have hz1 : (z != 0) = false := by simpa using hz
        clear hst hz
        go_wp2_with fail
        exact ⟨⟨k + 1, by omega, by (first | rfl | go_num), HB2, HF2⟩, by simp [intOf]; omega⟩
      · rw [if_neg hz] at hst
        have HR2 := hide (show chF i os ys = ((k : Int), z) from by rw [unhide HR, unhide HF, hst]; rfl)
        have hz1 : (z != 0) = true := by simpa using hz
        clear hst hz
        go_wp2_with fail
        try go_ret2
        exact ⟨by rw [unhide HR2]; try rfl, (unhide HB1).trans ((unhide HB2).mono (unhide HB1).size)⟩
    · obtain rfl : k = n := by omega
      have hlt' : ¬ (k : Int) < (k : Int) := by omega
      have HR2 := hide (show chF i os ys = (outsF k 0 ys).getD (0, 0) from by rw [unhide HR, unhide HF, opsF_end i os (unhide HN).1]; rfl)
      clear HR HF
      go_wp2_with fail
      go_loopw [6] (fun iv wr' => ∃ j : Nat, j ≤ m ∧ iv = .int .i64 (j : Int) ∧ Hid (Below w1.heap.size w1 wr') ∧ Hid (outsF k 0 ys = outsF k j (ys.drop j))) (fun iv _ => m - (intOf iv).toNat)
      case atStart => exact ⟨0, Nat.zero_le _, rfl, HBr, hide (by simp)⟩
      case round =>
        obtain ⟨j, hj, rfl, HBr, HF⟩ := hrel
        have r0 := ((unhide HBr).cell (World.block_lt_of_cell? _ _ g0)).trans g0
        have r1 := ((unhide HBr).cell (World.block_lt_of_cell? _ _ g1)).trans g1
        have r2 := ((unhide HBr).cell (World.block_lt_of_cell? _ _ g2)).trans g2
        by_cases hlj : j < m
        · have hlj' : (j : Int) < (m : Int) := by omega
          have hst := outsF_drop k ys (show j < ys.length by have := (unhide HN).2; omega) j
          obtain ⟨zb, zo, rfl, hc⟩ := ((unhide HY1).below (unhide HBr)).at (by omega)
          have sk := hc j hlj
          obtain ⟨v, hv⟩ : ∃ v, ys.getD j 0 = v := ⟨_, rfl⟩
          rw [hv] at sk hst
          clear hc hv
          cases hof : offI v k
          · rw [hof, if_neg (by decide)] at hst
            have HF2 := hide ((unhide HF).trans hst)
            have v0 : ¬ v < 0 := by unfold offI at hof; simp at hof; omega
            have v1 : ¬ (k : Int) ≤ v := by unfold offI at hof; simp at hof; omega
            have v0' : 0 ≤ v := by omega
            have v1' : v < (k : Int) := by omega
            clear hof hst
            have Fr1 := fun x : Ext wr => x.cell r1
            have Fr2 := fun x : Ext wr => x.cell r2
            have Fsk := fun x : Ext wr => x.cell sk
            have hNE := Ext.ne wr
            go_wp2_with fail
            have vv0 : ¬ v < 0 := by omega
            have vv1 : ¬ (k : Int) ≤ v := by omega
            refine wp_region_ext (by kernel_rfl) (by kernel_rfl) ?_
            repeat (go_big_quiet_step (fail))
            refine wpQuiet_nil ?_
            rintro _ ⟨xE, rfl⟩
            have rx := Fr1 xE
            have HBE := hide ((unhide HBr).trans (xE.bel.mono (unhide HBr).size))
            clear Fr1 Fr2 Fsk hNE
            go_wp2_with fail
            exact ⟨⟨j + 1, by omega, by (first | rfl | go_num), HBE, HF2⟩, by simp [intOf]; omega⟩
          · rw [hof, if_pos rfl] at hst
            have HR3 := hide (show chF i os ys = ((k : Int) + j, 108) from by rw [unhide HR2, unhide HF, hst]; rfl)
            clear hst
            by_cases v0 : v < 0
            · clear hof
              have Fr1 := fun x : Ext wr => x.cell r1
              have Fr2 := fun x : Ext wr => x.cell r2
              have Fsk := fun x : Ext wr => x.cell sk
              have hNE := Ext.ne wr
              go_wp2_with fail
              have vv0 : v < 0 := by omega
              refine wp_region_ext (by kernel_rfl) (by kernel_rfl) ?_
              repeat (go_big_quiet_step (fail))
              refine wpQuiet_nil ?_
              rintro _ ⟨xE, rfl⟩
              have rx := Fr1 xE
              have HBE := hide ((unhide HBr).trans (xE.bel.mono (unhide HBr).size))
              clear Fr1 Fr2 Fsk hNE
              go_wp2_with fail
              try go_ret2
              exact ⟨by rw [unhide HR3]; (first | rfl | (simp; go_num)), (unhide HB1).trans ((unhide HBE).mono (unhide HB1).size)⟩
            · have v1 : (k : Int) ≤ v := by unfold offI at hof; simp at hof; omega
              have v0' : 0 ≤ v := by omega
              clear hof
              have Fr1 := fun x : Ext wr => x.cell r1
              have Fr2 := fun x : Ext wr => x.cell r2
              have Fsk := fun x : Ext wr => x.cell sk
              have hNE := Ext.ne wr
              go_wp2_with fail
              have vv0 : ¬ v < 0 := by omega
              have vv1 : (k : Int) ≤ v := by omega
              refine wp_region_ext (by kernel_rfl) (by kernel_rfl) ?_
              repeat (go_big_quiet_step (fail))
              refine wpQuiet_nil ?_
              rintro _ ⟨xE, rfl⟩
              have rx := Fr1 xE
              have HBE := hide ((unhide HBr).trans (xE.bel.mono (unhide HBr).size))
              clear Fr1 Fr2 Fsk hNE
              go_wp2_with fail
              try go_ret2
              exact ⟨by rw [unhide HR3]; (first | rfl | (simp; go_num)), (unhide HB1).trans ((unhide HBE).mono (unhide HB1).size)⟩
        · obtain rfl : j = m := by omega
          have hlj' : ¬ (j : Int) < (j : Int) := by omega
          have HR3 := hide (show chF i os ys = (0, 0) from by rw [unhide HR2, unhide HF, outsF_end k ys (unhide HN).2]; rfl)
          go_wp2_with fail
          try go_ret2
          exact ⟨by rw [unhide HR3]; try rfl, (unhide HB1).trans ((unhide HBr).mono (unhide HB1).size)⟩
def UpS (xs : List Int) (n : Nat) : Prop := ∀ i, 0 < i → i < n → xs.getD (i - 1) 0 < xs.getD i 0
theorem UpS.lt {xs : List Int} {n : Nat} (h : UpS xs n) {i : Nat} : ∀ d, i + d + 1 < n → xs.getD i 0 < xs.getD (i + d + 1) 0
  | 0, hd => by have := h (i + 1) (by omega) (by omega); simpa using this
  | d + 1, hd => by
    have h1 := UpS.lt h d (by omega : i + d + 1 < n)
    have h2 := h (i + (d + 1) + 1) (by omega) hd
    rw [show i + (d + 1) + 1 - 1 = i + d + 1 by omega] at h2
    exact Int.lt_trans h1 h2
theorem UpS.lt' {xs : List Int} {n : Nat} (h : UpS xs n) {i j : Nat} (hij : i < j) (hj : j < n) : xs.getD i 0 < xs.getD j 0 := by
  have := h.lt (i := i) (j - i - 1) (by omega)
  rwa [show i + (j - i - 1) + 1 = j by omega] at this
def HasX (xs : List Int) (n : Nat) (t : Int) : Prop := ∃ k, k < n ∧ xs.getD k 0 = t
structure BsP (xs : List Int) (n : Nat) (t : Int) (i : Nat) : Prop where
  le : i ≤ n
  lo : ∀ k, k < i → xs.getD k 0 < t
  hi : ∀ k, i ≤ k → k < n → t ≤ xs.getD k 0
theorem BsP.has {xs : List Int} {n : Nat} {t : Int} {i : Nat} (h : BsP xs n t i) (hu : UpS xs n) (hl : i < n) : HasX xs n t ↔ xs.getD i 0 = t := by
  constructor
  · rintro ⟨k, hk, e⟩
    rcases Nat.lt_trichotomy k i with c | c | c
    · have := h.lo k c; omega
    · rw [← c]; exact e
    · have h1 := hu.lt' c hk
      have h2 := h.hi i (Nat.le_refl _) hl
      omega
  · intro e
    exact ⟨i, hl, e⟩
theorem BsP.no {xs : List Int} {n : Nat} {t : Int} (h : BsP xs n t n) : ¬ HasX xs n t := by
  rintro ⟨k, hk, e⟩
  have := h.lo k hk
  omega
theorem BsP.ex (xs : List Int) (t : Int) : ∀ n, UpS xs n → ∃ i, BsP xs n t i
  | 0, _ => ⟨0, Nat.le_refl _, fun k hk => absurd hk (Nat.not_lt_zero _), fun k _ hk => absurd hk (Nat.not_lt_zero _)⟩
  | n + 1, hu => by
    obtain ⟨i, h⟩ := BsP.ex xs t n (fun i h1 h2 => hu i h1 (by omega))
    by_cases hl : i < n
    · refine ⟨i, by have := h.le; omega, h.lo, fun k h1 h2 => ?_⟩
      by_cases e : k = n
      · have h3 := hu.lt' (i := i) (j := n) hl (by omega)
        have h4 := h.hi i (Nat.le_refl _) hl
        rw [e]; omega
      · exact h.hi k h1 (by omega)
    · have e : i = n := by have := h.le; omega
      subst e
      by_cases c : xs.getD i 0 < t
      · refine ⟨i + 1, by omega, fun k hk => ?_, fun k h1 h2 => by omega⟩
        by_cases e : k = i
        · rw [e]; exact c
        · exact h.lo k (by omega)
      · refine ⟨i, by omega, h.lo, fun k h1 h2 => ?_⟩
        rw [show k = i by omega]; omega
theorem BsP.one {xs : List Int} {n : Nat} {t : Int} {i j : Nat} (h : BsP xs n t i) (k : BsP xs n t j) : i = j := by
  rcases Nat.lt_trichotomy i j with c | c | c
  · have h1 := h.hi i (Nat.le_refl _) (by have := k.le; omega)
    have h2 := k.lo i c
    omega
  · exact c
  · have h1 := k.hi j (Nat.le_refl _) (by have := h.le; omega)
    have h2 := h.lo j c
    omega
structure RowAt (st cols : List Int) (width : Int) (k X Y : Nat) : Prop where
  hX : st.getD k 0 = (X : Int)
  hY : st.getD (k + 1) 0 = (Y : Int)
  le : X ≤ Y
  lt : Y ≤ cols.length
  row : RowP width cols X Y
theorem RowAt.up {st cols : List Int} {width : Int} {k X Y : Nat} (h : RowAt st cols width k X Y) : UpS ((cols.drop X).take (Y - X)) (Y - X) := fun i h1 h2 => ((RowP.sub h.le).2 h.row).up i h1 h2
structure HasP (rows width : Int) (st cols : List Int) (r c : Int) : Prop where
  may : MayP rows width st cols
  lo : 0 ≤ r
  hi : r < rows
  at_ : ∃ i, (st.getD r.toNat 0).toNat ≤ i ∧ i < (st.getD (r.toNat + 1) 0).toNat ∧ cols.getD i 0 = c
theorem RowAt.has {st cols : List Int} {width : Int} {k X Y : Nat} (h : RowAt st cols width k X Y) {rows : Int} (hm : MayP rows width st cols) (hk : (k : Int) < rows) (c : Int) : HasX ((cols.drop X).take (Y - X)) (Y - X) c ↔ HasP rows width st cols (k : Int) c := by
  have e : ∀ i, i < Y - X → ((cols.drop X).take (Y - X)).getD i 0 = cols.getD (X + i) 0 := fun i hi => by simp [List.getD, List.getElem?_drop, hi]
  have e1 : (st.getD ((k : Int)).toNat 0).toNat = X := by rw [show ((k : Int)).toNat = k by omega, h.hX]; omega
  have e2 : (st.getD (((k : Int)).toNat + 1) 0).toNat = Y := by rw [show ((k : Int)).toNat = k by omega, h.hY]; omega
  constructor
  · rintro ⟨i, hi, hc⟩
    rw [e i hi] at hc
    exact ⟨hm, by omega, hk, X + i, by rw [e1]; omega, by rw [e2]; omega, hc⟩
  · rintro ⟨_, _, _, i, h1, h2, hc⟩
    rw [e1] at h1
    rw [e2] at h2
    exact ⟨i - X, by omega, by rw [e _ (by omega), show X + (i - X) = i by omega]; exact hc⟩

theorem SlI.front {w : World} {a : Option Addr} {c : Nat} {xs ys : List Int} (h : SlI w a (xs.length + 3) c (xs ++ ys)) {n : Nat} {x : List Int} (hx : xs = x) (hn : x.length = n) : SlI w a n c x := by
  subst hx
  refine ⟨hn, by have := h.le; omega, h.cap, ?_⟩
  rcases h.cells with e | ⟨b, off, e, k⟩
  · left
    exact (List.append_eq_nil_iff.1 e).1
  · right
    refine ⟨b, off, e, fun i hi => ?_⟩
    have := k i (by simp; omega)
    rw [this]
    congr 2
    simp [List.getD, List.getElem?_append_left hi]
def TruQ (b : Bool) (P : Prop) : Prop := b = true ↔ P
theorem TruQ.con {b : Bool} {P R : Prop} (h : TruQ b P) (e : R ↔ P) : TruQ b R := Iff.trans h e.symm
def RoV (w : World) (b n : Nat) (f : Nat → Value) : Prop := ∀ i, i < n → w.cell? ⟨b, i, none⟩ = some (f i) ∧ w.frozen? ⟨b, i, none⟩ = false
theorem RoV.made (w : World) (n : Nat) (e : TypeId) (z : Value) : RoV (w.alloc (.cells (madeCells #[z] n) e)) w.heap.size n (fun _ => z) := by
  intro i hi
  refine ⟨?_, by simp⟩
  simp [madeCells, hi, Nat.mod_one]
theorem RoV.chg {S : Nat → Prop} {w w' : World} {b n : Nat} {f : Nat → Value} (h : RoV w b n f) (k : Chg S w w') (hs : ¬ S b) : RoV w' b n f := fun i hi => ⟨k.cell hs (h i hi).1, by rw [k.frzP (World.block_lt_of_cell? _ _ (h i hi).1) hs]; exact (h i hi).2⟩
theorem RoV.below {w w' : World} {b n : Nat} {f : Nat → Value} (h : RoV w b n f) (k : Below w.heap.size w w') : RoV w' b n f := h.chg (S := fun _ => False) (Chg.of_below k) (fun x => x)
theorem RoV.put {w : World} {b n : Nat} {f : Nat → Value} (h : RoV w b n f) (k : Nat) (v : Value) (hk : k < n) : RoV (w.setCell ⟨b, k, none⟩ v) b n (fun i => if i = k then v else f i) := by
  intro i hi
  rw [World.frozen?_setCell]
  refine ⟨?_, (h i hi).2⟩
  by_cases e : i = k
  · subst e
    simp only [if_true]
    exact World.cell?_setCell_same _ _ _ (h i hi).1
  · simp only [e, if_false]
    rw [World.cell?_setCell_other _ _ _ _ (by intro c; simp at c; first | done | omega)]
    exact (h i hi).1
theorem RoV.congr {w : World} {b n : Nat} {f g : Nat → Value} (h : RoV w b n f) (e : ∀ i, i < n → f i = g i) : RoV w b n g := fun i hi => by rw [← e i hi]; exact h i hi
noncomputable def tb (P : Prop) : Bool := @decide P (Classical.propDecidable P)
end Go.Proofs.YtpicknbdfjjflaaGreatDoor
