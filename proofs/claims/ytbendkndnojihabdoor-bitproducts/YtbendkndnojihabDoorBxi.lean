/-
  slopelaw3.chain: its contract.
-/
import Derived.Test.YtbendkndnojihabDoorBxg
import Derived.Test.YtbendkndnojihabDoorBx2
namespace Go.Proofs.YtbendkndnojihabDoor
open Go.RowKit Go.Deep
set_option linter.unusedVariables false

theorem chP_zero {m i x : Nat} (h : m ≤ x) : chP m i x = false := by simp [chP, show ¬ x < m from by omega]
theorem chP_out {m i x : Nat} (h : m ≤ i) : chP m i x = false := by
  unfold chP
  by_cases c : x = i + 1
  · simp [show ¬ x < m from by omega]
  · simp [c]
theorem range_step {m k : Nat} (hm : m ≤ 4096) : rangeR (m : Int) ((k : Int) + 1) ((k : Int) + 2) = ((m : Int), wordsL m (chP m k), 0) := by
  have hf : fitsI (m : Int) = true := by simp [fitsI]; omega
  unfold rangeR
  rw [if_pos hf, Int.toNat_natCast]
  rw [wordsL_congr (Q := chP m k) (fun x _ => ?_)]
  have e : ((k : Int) + 1).toNat = k + 1 := by omega
  rw [e]
  unfold chP
  rw [Bool.eq_iff_iff]
  simp only [Bool.and_eq_true, decide_eq_true_eq]
  omega
theorem range_rest {m f : Nat} (hm : m ≤ 4096) : rangeR (m : Int) ((f : Int) + 1) (m : Int) = ((m : Int), wordsL m (waP (chP m) m f), 0) := by
  have hf : fitsI (m : Int) = true := by simp [fitsI]; omega
  unfold rangeR
  rw [if_pos hf, Int.toNat_natCast]
  rw [wordsL_congr (Q := waP (chP m) m f) (fun x _ => ?_)]
  have e : ((f : Int) + 1).toNat = f + 1 := by omega
  rw [e, chain_ways]
  rw [Bool.eq_iff_iff]
  simp only [Bool.and_eq_true, decide_eq_true_eq]
  omega
theorem tabK_snoc {m k : Nat} {P : Nat → Nat → Bool} {T : List SetC} {t : SetC} (h : T.map SetC.key = tabK m k P) (ht : t.key = ((m : Int), wordsL m (P k))) : (T ++ [t]).map SetC.key = tabK m (k + 1) P := by
  unfold tabK at h ⊢
  rw [List.map_append, h, List.range_succ, List.map_append]
  simp [ht]

set_option maxHeartbeats 4000000 in
theorem chain_no (len fr : Int) (w : World) (h : len < 1 ∨ 4096 < len ∨ fr < 0 ∨ len ≤ fr) :
    Calls Tryd.prog 17 #[.int .i64 len, .int .i64 fr] w fun e w' => e = .returned (.bool true) ∧ Below w.heap.size w w' := by
  have HB := hide (Below.refl w.heap.size w)
  by_cases h1 : len < 1
  · clear h
    go_enter Tryd.func17, Tryd.ntmps17
    go_wp2_with fail
    go_ret
    exact ⟨rfl, unhide HB⟩
  · by_cases h2 : 4096 < len
    · clear h
      go_enter Tryd.func17, Tryd.ntmps17
      go_wp2_with fail
      go_ret
      exact ⟨rfl, unhide HB⟩
    · by_cases h3 : fr < 0
      · clear h
        go_enter Tryd.func17, Tryd.ntmps17
        go_wp2_with fail
        go_ret
        exact ⟨rfl, unhide HB⟩
      · have h4 : len ≤ fr := by omega
        clear h
        go_enter Tryd.func17, Tryd.ntmps17
        go_wp2_with fail
        go_ret
        exact ⟨rfl, unhide HB⟩

set_option maxHeartbeats 8000000 in
set_option maxRecDepth 100000 in
theorem chain_yes (m f : Nat) (w : World) (h1 : 1 ≤ m) (h2 : m ≤ 4096) (h3 : f < m) :
    Calls Tryd.prog 17 #[.int .i64 (m : Int), .int .i64 (f : Int)] w fun e w' => e = .returned (.bool true) ∧ Below w.heap.size w w' := by
  obtain ⟨i24, hi, hz, hs, hb⟩ := info_parts Tryd.info_set
  have HI := hide (And.intro hi (And.intro hz (And.intro hs hb)))
  clear hi hz hs hb
  have d1 : ¬ (m : Int) < 1 := by omega
  have d2 : ¬ (4096 : Int) < (m : Int) := by omega
  have d3 : ¬ (f : Int) < 0 := by omega
  have d4 : ¬ (m : Int) ≤ (f : Int) := by omega
  have d5 : (f : Int) < (m : Int) := by omega
  go_enter Tryd.func17, Tryd.ntmps17
  go_wp2_with fail
  go_loopw [6, 5, 7, 8] (fun i v _ _ wr => ∃ (k : Nat) (T : List SetC), k ≤ m ∧ i = .int .i64 k ∧ T.length = k ∧ T.map SetC.key = tabK m k (chP m) ∧ GrT w wr v T) (fun i _ _ _ _ => m - (intOf i).toNat)
  case atStart => exact ⟨0, [], Nat.zero_le _, rfl, rfl, rfl, GrT.start w⟩
  case round =>
    obtain ⟨k, T, hk, rfl, hl, hkey, hst⟩ := hrel
    by_cases hlt : k < m
    · have hlt' : (k : Int) < (m : Int) := by omega
      have K := range_new (m : Int) ((k : Int) + 1) ((k : Int) + 2) wr (by omega)
      rw [range_step h2] at K
      have HK := hide K
      have q1 : IntKind.i64.wrap ((k : Int) + 1) = (k : Int) + 1 := by rw [wrap_i64]; omega
      have q2 : IntKind.i64.wrap ((k : Int) + 2) = (k : Int) + 2 := by rw [wrap_i64]; omega
      have HS := hide hst
      have HKey := hide (And.intro hl hkey)
      have hbase := hst.bel.size
      clear hst K hkey hl
      go_wp2_with fail
      refine (unhide HK).mono ?_
      rintro _ w1 ⟨a1, n1, c1, rfl, hs1, hb1, ho1⟩
      unfold setV
      obtain ⟨w2, hw2⟩ : ∃ x, w1.alloc (.cells #[.int .i64 (m : Int), .slice a1 n1 c1] 35) = x := ⟨_, rfl⟩
      have hb2 : Below w1.heap.size w1 w2 := by rw [← hw2]; exact (Below.refl _ _).alloc (Nat.le_refl _) _
      have tS : Two w2 w1.heap.size (.int .i64 (m : Int)) (.slice a1 n1 c1) := by rw [← hw2]; exact Two.made _ _ _ _
      have hbb := hb1.trans (hb2.mono hb1.size)
      have s0 := tS.c0
      have s1 := tS.c1
      obtain ⟨t, ht⟩ : ∃ t : SetC, t = ⟨(m : Int), a1, n1, c1, wordsL m (chP m k)⟩ := ⟨_, rfl⟩
      have HZ := hide (show t.Z w2 from by rw [ht]; exact ⟨⟨hs1.below hb2, (Good.mk' (fun x hx => chP_zero hx) h2).ok⟩, ho1⟩)
      have HO1 := hide (((unhide HS).below hbb).below ((Below.refl w2.heap.size w2).alloc (Nat.le_refl _) (.cells #[.int .i64 (m : Int), .slice a1 n1 c1] 35))).own
      have HSt := hide (fun (w3 : World) (v2 : Value) hnz hg hown => (unhide HS).step (w1 := w2) (w2 := w3) (v2 := v2) (t := t) hbb (unhide HZ) hnz hg hown)
      rw [ht] at HSt
      simp only at HSt
      rw [(unhide HKey).1] at HO1 HSt
      have HK2 := hide (tabK_snoc (t := t) (unhide HKey).2 (by rw [ht]; rfl))
      rw [ht] at HK2
      have hl2 : w.heap.size ≤ w2.heap.size := by have := hbb.size; omega
      have HL := hide (unhide HKey).1
      clear hs1 hb1 ho1 hb2 tS hbb HK HZ HKey ht
      go_wp2_with fail
      refine (num_any 0 w2).mono ?_
      rintro _ w' ⟨rfl, hw⟩
      obtain rfl := hw.symm
      go_wp2_with (at_builtin; refine wpList_append_lies _ rfl _ _ 22 rfl w.heap.size 35 i24 (.agg #[.int .i64 0, .slice none 0 0]) 2 32 Tryd.underlying22 (unhide HI).1 (unhide HI).2.1 (unhide HI).2.2.1 (unhide HI).2.2.2 rfl (by decide) _ k (flatS T) rfl (unhide HO1) ⟨w2.heap.size, 0, none⟩ 1 1 [.int .i64 (m : Int), .slice a1 n1 c1] rfl rfl (World.news_of_block (alloc_block _ _)) ?c21 (by decide) ?c31 ?c41 ?c51 (w2.heap.size + 1) (by simp) ?_)
      case c21 => first | (intro u hu; simp at hu; rcases hu with rfl | rfl <;> rfl) | exact ⟨rfl, rfl⟩
      case c31 => unfold maxLen; omega
      case c41 => omega
      case c51 => first | omega | (simp; omega)
      intro g cap w3 hown hg hat hlt2
      have HS2 := hide (unhide HSt w3 _ (by intro h; cases h) hg hown)
      clear hown hg hat hlt2 HO1 HSt s0 s1 hw2
      go_wp2_with fail
      exact ⟨⟨k + 1, _, by omega, by go_num, by rw [List.length_append, unhide HL]; rfl, unhide HK2, unhide HS2⟩, by simp [intOf]; omega⟩
    · have hlt' : ¬ (k : Int) < (m : Int) := by omega
      obtain rfl : k = m := by omega
      obtain ⟨a, c, rfl, hsl⟩ := hst.sl (by rw [hl]; unfold maxLen; omega)
      rw [hl] at hsl ⊢
      have gT : GoodT k k T (chP k) := ⟨hkey, fun i x hx => chP_zero hx, fun i x hx => chP_out hx, h2, h2⟩
      have K := closure_good k a c T (chP k) wr hsl gT
      unfold setV at K
      have HK := hide K
      have HB := hide hst.bel
      have HG := hide gT
      have hle := hsl.le
      have hcap := hsl.cap
      unfold maxLen at hcap
      clear hst hkey hl hsl K gT
      go_wp2_with fail
      refine (unhide HK).mono ?_
      rintro _ w1 ⟨a1, c1, L1, rfl, hs1, hk1, hb1⟩
      unfold setV
      obtain ⟨w2, hw2⟩ : ∃ x, w1.alloc (.cells #[.int .i64 (k : Int), .slice a1 k c1] 24) = x := ⟨_, rfl⟩
      have hb2 : Below w1.heap.size w1 w2 := by rw [← hw2]; exact (Below.refl _ _).alloc (Nat.le_refl _) _
      have tC : Two w2 w1.heap.size (.int .i64 (k : Int)) (.slice a1 k c1) := by rw [← hw2]; exact Two.made _ _ _ _
      have hB2 := ((unhide HB).trans (hb1.mono (unhide HB).size))
      have hB3 := hB2.trans (hb2.mono hB2.size)
      have cc0 := tC.c1
      have hle1 := hs1.le
      have hcap1 := hs1.cap
      unfold maxLen at hcap1
      have K2 := range_new (k : Int) ((f : Int) + 1) (k : Int) w2 (by omega)
      rw [range_rest h2] at K2
      have HK2 := hide K2
      have HC := hide (And.intro tC (And.intro (hs1.below hb2) (And.intro ((unhide HG).closure hk1) hB3)))
      have q1 : IntKind.i64.wrap ((f : Int) + 1) = (f : Int) + 1 := by rw [wrap_i64]; omega
      clear hb1 hb2 tC hB2 hB3 hs1 hk1 HK HB HG K2
      go_wp2_with fail
      refine (num_any 0 w2).mono ?_
      rintro _ w' ⟨rfl, hw⟩
      obtain rfl := hw.symm
      go_wp2_with fail
      refine (unhide HK2).mono ?_
      rintro _ w3 ⟨a3, n3, c3, rfl, hs3, hb3, _⟩
      unfold setV
      obtain ⟨w4, hw4⟩ : ∃ x, w3.alloc (.cells #[.int .i64 (k : Int), .slice a3 n3 c3] 35) = x := ⟨_, rfl⟩
      have hb4 : Below w3.heap.size w3 w4 := by rw [← hw4]; exact (Below.refl _ _).alloc (Nat.le_refl _) _
      have tW : Two w4 w3.heap.size (.int .i64 (k : Int)) (.slice a3 n3 c3) := by rw [← hw4]; exact Two.made _ _ _ _
      have hb34 := hb3.trans (hb4.mono hb3.size)
      have tC := (unhide HC).1.keep hb34
      have hS := (unhide HC).2.1.below hb34
      have hs4 := hs3.below hb4
      have hBl := (unhide HC).2.2.2.trans (hb34.mono (unhide HC).2.2.2.size)
      obtain ⟨b, off, rfl, hcells⟩ := hS.at (by omega)
      have g1 := (hcells f h3).1
      have g2 := (hcells f h3).2
      have hin := (hS.get f h3).1
      have hgt := (unhide HC).2.2.1.get f h3
      generalize L1.getD f .nul = e at *
      obtain ⟨es, ea, en, ec, exs⟩ := e
      simp only at g1 g2 hgt
      obtain ⟨rfl, rfl⟩ := hgt
      have hfn : n3 = en := by have x1 := hin.len; have x2 := hs4.len; simp only at x1 x2; omega
      subst hfn
      have K3 := fun x : Ext w4 => same_eq (k : Int) ea a3 n3 ec c3 _ x.w (hin.below x.bel) (hs4.below x.bel)
      unfold setV at K3
      have HK3 := hide K3
      have c1' := tC.c1
      have v0 := tW.c0
      have v1 := tW.c1
      have F0 := fun x : Ext w4 => x.cell c1'
      have F1 := fun x : Ext w4 => x.cell g1
      have F2 := fun x : Ext w4 => x.cell g2
      have F3 := fun x : Ext w4 => x.cell v0
      have F4 := fun x : Ext w4 => x.cell v1
      have hNE := Ext.ne w4
      have f0 : (0 : Int) ≤ (f : Int) := by omega
      have HBl := hide hBl
      clear hs3 hb3 hb4 tW hb34 tC hS hs4 hBl hcells hin K3 HK2 HC g1 g2 v0 v1 c1'
      have HKN := hide (fun x : Ext w4 => (num_any 0 x.w).mono (fun e w' (h : _ ∧ _) => (⟨h.1, by rw [h.2]; exact Below.refl _ _⟩ : _ ∧ Below x.w.heap.size x.w w')))
      go_wp2_with fail
      refine wp_region_ext (by kernel_rfl) (by kernel_rfl) ?_
      repeat (go_big_quiet_step (first | (go_at_call 15; rename_i x; exact Ext.call (unhide HK3 x) (fun e w' h => h)) | (go_at_call 11; rename_i x; exact Ext.call (unhide HKN x) (fun e w' h => h))))
      refine wpQuiet_nil ?_
      rintro _ ⟨x, rfl⟩
      have HB2 := hide ((unhide HBl).trans (x.bel.mono (unhide HBl).size))
      go_wp2_with fail
      go_ret
      exact ⟨rfl, unhide HB2⟩
/-- slopelaw3.chain. -/
theorem chain_any (len fr : Int) (w : World) : Calls Tryd.prog 17 #[.int .i64 len, .int .i64 fr] w fun e w' => e = .returned (.bool true) ∧ Below w.heap.size w w' := by
  by_cases h : len < 1 ∨ 4096 < len ∨ fr < 0 ∨ len ≤ fr
  · exact chain_no len fr w h
  · obtain ⟨m, rfl⟩ : ∃ m : Nat, len = (m : Int) := ⟨len.toNat, by omega⟩
    obtain ⟨f, rfl⟩ : ∃ f : Nat, fr = (f : Int) := ⟨fr.toNat, by omega⟩
    exact chain_yes m f w (by omega) (by omega) (by omega)
end Go.Proofs.YtbendkndnojihabDoor
