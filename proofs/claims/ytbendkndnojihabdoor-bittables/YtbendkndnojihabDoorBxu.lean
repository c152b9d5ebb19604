/-
  sloperef3.Turn: its contract.
-/
import Derived.Test.YtbendkndnojihabDoorBxk
import Derived.Test.YtbendkndnojihabDoorBu2
import Derived.Test.YtbendkndnojihabDoorBxi
import Derived.Deep.RegionLaw
namespace Go.Proofs.YtbendkndnojihabDoor
open Go.RowKit Go.Deep
set_option linter.unusedVariables false

set_option maxHeartbeats 8000000 in
set_option maxRecDepth 100000 in
/-- sloperef3.Turn. -/
theorem rturn_good (sz n : Nat) (a : Option Addr) (c : Nat) (L : List SetC) (P : Nat → Nat → Bool) (w : World) (h : SlS w a n c L) (g : GoodT sz n L P) :
    Calls Tryd.prog 26 #[setV sz a n c] w fun r w' => ResN w w' n sz (tabK n sz (tuQ P)) 0 r := by
  have hle := h.le
  have hcap := h.cap
  unfold maxLen at hcap
  have hn := g.hn
  have hz4 := g.hs
  obtain ⟨i24, hi, hz, hs, hb⟩ := info_parts Tryd.info_set
  have HInf := hide (And.intro hi (And.intro hz (And.intro hs hb)))
  clear hi hz hs hb
  obtain ⟨wa, hwa⟩ : ∃ x, w.alloc (.cells #[.int .i64 (sz : Int), .slice a n c] 24) = x := ⟨_, rfl⟩
  obtain ⟨wb, hwb⟩ : ∃ x, wa.alloc (.cells #[.int .i64 0, .slice none 0 0] 24) = x := ⟨_, rfl⟩
  have ba : Below w.heap.size w wa := by rw [← hwa]; exact (Below.refl _ _).alloc (Nat.le_refl _) _
  have bb : Below wa.heap.size wa wb := by rw [← hwb]; exact (Below.refl _ _).alloc (Nat.le_refl _) _
  have la : w.heap.size < wa.heap.size := by rw [← hwa]; simp
  have lb : wa.heap.size < wb.heap.size := by rw [← hwb]; simp
  have A0 : Two wb w.heap.size (.int .i64 (sz : Int)) (.slice a n c) := by
    refine Two.keep (w := wa) ?_ bb
    rw [← hwa]; exact Two.made _ _ _ _
  have R0 : Two wb wa.heap.size (.int .i64 0) (.slice none 0 0) := by rw [← hwb]; exact Two.made _ _ _ _
  have hB0 := ba.trans (bb.mono ba.size)
  have K := rmayT_any sz a n c L wb (h.below hB0)
  rw [g.may] at K
  have HA := hide (And.intro A0 (And.intro R0 hB0))
  have a0 := A0.c0
  have a1 := A0.c1
  have HG := hide g
  have HSl := hide h
  unfold setV at K ⊢
  have HK := hide K
  clear A0 R0 h ba bb hB0 K g
  go_enter Tryd.func26, Tryd.ntmps26
  go_wp2_with fail
  refine (unhide HK).mono ?_
  rintro _ wd ⟨rfl, hbd⟩
  have A1 := (unhide HA).1.keep hbd
  have R1 := (unhide HA).2.1.keep hbd
  have hB1 := (unhide HA).2.2.trans (hbd.mono (unhide HA).2.2.size)
  clear a0 a1
  have b0 := A1.c0
  have b1 := A1.c1
  have ld := hbd.size
  have HG0 := hide (And.intro (GrB.start (w := wd) (Two.made wd (.int .i64 (n : Int)) (.slice none 0 0) 24) (Nat.le_refl _) ((Below.refl _ _).alloc (Nat.le_refl _) _)) ((Below.refl wd.heap.size wd).alloc (Nat.le_refl _) (.cells #[.int .i64 (n : Int), .slice none 0 0] 24)))
  have HA1 := hide (And.intro A1 (And.intro R1 hB1))
  clear A1 R1 hB1 hbd HA HK hwa hwb
  go_wp2_with fail
  clear b0 b1
  have hlz : wd.heap.size < (wd.alloc (.cells #[.int .i64 (n : Int), .slice none 0 0] 24)).heap.size := by simp
  generalize wd.alloc (.cells #[.int .i64 (n : Int), .slice none 0 0] 24) = wz at *
  go_loopw [5, 6, 7] (fun i _ _ wr => ∃ (k : Nat) (T : List SetC) (v : Value), k ≤ sz ∧ i = .int .i64 k ∧ T.length = k ∧ T.map SetC.key = tabK n k (tuQ P) ∧ GrB wd wr wd.heap.size n T v) (fun i _ _ _ => sz - (intOf i).toNat)
  case atStart => exact ⟨0, [], _, Nat.zero_le _, rfl, rfl, rfl, (unhide HG0).1⟩
  case round =>
    obtain ⟨k, T, v, hk, rfl, hl, hkey, hst⟩ := hrel
    obtain ⟨W1, hW1⟩ : ∃ W1, W1 = wr := ⟨_, rfl⟩
    subst hW1
    have A2 := (unhide HA1).1.keep hst.bel
    have b0 := A2.c0
    have b1 := A2.c1
    by_cases hlt : k < sz
    · have hlt' : (k : Int) < (sz : Int) := by omega
      have hm := make_bools n (by omega)
      have HS := hide hst
      have HKey := hide (And.intro hl hkey)
      have hBW := (unhide HA1).2.2.trans (hst.bel.mono (unhide HA1).2.2.size)
      have hal : Below W1.heap.size W1 (W1.alloc (.cells (madeCells #[.bool false] n) 4)) := (Below.refl _ _).alloc (Nat.le_refl _) _
      have HI0 := hide (And.intro (show FnB (W1.alloc (.cells (madeCells #[.bool false] n) 4)) W1.heap.size 0 n (fun x => decide (x < 0) && tuQ P k x) from (FnG.made W1 n 4 false rfl : FnB _ _ _ _ _).congr (fun x _ => by simp)) (And.intro hal (show W1.heap.size < (W1.alloc (.cells (madeCells #[.bool false] n) 4)).heap.size by simp)))
      have HB := hide (And.intro hBW (A2))
      clear hst hkey hl A2 hal hBW
      go_wp2_with fail
      clear hm b0 b1
      generalize W1.alloc (.cells (madeCells #[.bool false] n) 4) = wi at *
      go_loopw [7] (fun i wr => ∃ e : Nat, e ≤ n ∧ i = .int .i64 e ∧ FnB wr W1.heap.size 0 n (fun x => decide (x < e) && tuQ P k x) ∧ Below W1.heap.size W1 wr ∧ W1.heap.size < wr.heap.size) (fun i _ => n - (intOf i).toNat)
      case atStart => exact ⟨0, Nat.zero_le _, rfl, (unhide HI0).1, (unhide HI0).2.1, (unhide HI0).2.2⟩
      case round =>
        obtain ⟨e, he, rfl, hf, hbl, hsz⟩ := hrel
        have hBr := (unhide HB).1.trans (hbl.mono (unhide HB).1.size)
        have A3 := (unhide HB).2.keep hbl
        have c0 := A3.c0
        have c1 := A3.c1
        by_cases het : e < n
        · have het' : (e : Int) < (n : Int) := by omega
          have he0 : (0 : Int) ≤ (e : Int) := by omega
          have hk0 : (0 : Int) ≤ (k : Int) := by omega
          obtain ⟨b, off, rfl, hcells⟩ := (unhide HSl).at (by omega)
          have g3 := below_cell hBr (hcells e het).1
          have g4 := below_cell hBr (hcells e het).2
          have i2 := ((unhide HSl).get e het).1.below hBr
          have gg2 := (unhide HG).get e het
          have Ge : Good sz (wordsL sz (P e)) (P e) := Good.mk' (fun x hx => (unhide HG).zero e x hx) hz4
          generalize L.getD e .nul = x2 at *
          obtain ⟨s2, ea2, en2, ec2, ex2⟩ := x2
          simp only at g3 g4 gg2
          obtain ⟨rfl, rfl⟩ := gg2
          have hn2 : en2 = nW sz := by have := i2.len; simp only [wordsL_len] at this; omega
          have K1 := in_any (sz : Int) ea2 en2 ec2 (wordsL sz (P e)) k wr i2 (by rw [hn2]; unfold nW; omega) (by omega)
          rw [show hasB (fun i => (wordsL sz (P e)).getD i 0) k = P e k from Ge.has k (by unfold nW; omega)] at K1
          unfold setV at K1
          have HK1 := hide K1
          have HR := hide (And.intro hf (And.intro hbl hsz))
          have HFin := hide (fun (w2 : World) (hb2 : Below wr.heap.size wr w2) (bv : Bool) (hv : bv = tuQ P k e) => (show FnB (w2.setCell ⟨W1.heap.size, e, none⟩ (.bool bv)) W1.heap.size 0 n (fun x => decide (x < e + 1) && tuQ P k x) ∧ Below W1.heap.size W1 (w2.setCell ⟨W1.heap.size, e, none⟩ (.bool bv)) ∧ W1.heap.size < (w2.setCell ⟨W1.heap.size, e, none⟩ (.bool bv)).heap.size from by
            have hBx := hbl.trans (hb2.mono hbl.size)
            have h2 := hb2.size
            refine ⟨?_, hBx.setCell (p := ⟨W1.heap.size, e, none⟩) (Nat.le_refl _) _, by simp; omega⟩
            have := (hf.below hb2).set e bv het
            rw [Nat.zero_add] at this
            refine this.congr (fun x hx => ?_)
            by_cases hxk : x = e
            · subst hxk; simp [hv]
            · by_cases hx2 : x < e
              · simp [hxk, hx2, show x < e + 1 from by omega]
              · simp [hxk, hx2, show ¬ x < e + 1 from by omega]))
          clear K1 i2 Ge hn2 hf hbl A3 hBr hcells
          obtain ⟨bv, hbv⟩ : ∃ bv, P e k = bv := ⟨_, rfl⟩
          rw [hbv] at HK1
          have HV := hide (show bv = tuQ P k e by rw [← hbv]; rfl)
          clear hbv
          go_wp2_with fail
          refine (unhide HK1).mono ?_
          rintro _ w3 ⟨rfl, hb3⟩
          have f3 := (unhide HR).1.below hb3
          have z1 := (f3 e het).1
          have z2 := (f3 e het).2
          rw [Nat.zero_add] at z1 z2
          unfold vB at z1
          generalize (decide (e < e) && tuQ P k e) = old at z1
          have HF := hide (unhide HFin w3 hb3 bv (unhide HV))
          clear f3 hb3 c0 c1 g3 g4
          go_wp2_with fail
          exact ⟨⟨e + 1, by omega, by go_num, (unhide HF).1, (unhide HF).2.1, (unhide HF).2.2⟩, by simp [intOf]; omega⟩
        · have het' : ¬ (e : Int) < (n : Int) := by omega
          obtain rfl : n = e := by omega
          have hfr : FnB wr W1.heap.size 0 n (tuQ P k) := hf.congr (fun x hx => by simp [hx])
          have GB := (unhide HS).below hbl
          have z1 := GB.two.c1
          have HGB := hide (And.intro GB hbl)
          have HOf := hide (fun (w' : World) (hb : Below wr.heap.size wr w') => of_row hfr hb hn (fun x hx => (unhide HG).out x k hx))
          have hmx : T.length + 1 ≤ maxLen := by rw [(unhide HKey).1]; unfold maxLen; omega
          have hby : (T.length + 1) * 32 ≤ 140737488355328 := by rw [(unhide HKey).1]; omega
          have hbs := GB.bel.size
          clear hf hfr hbl A3 hBr GB
          go_wp2_with fail
          go_region_law (first
            | (refine step_append_lies _ rfl _ _ 22 rfl wd.heap.size 35 i24 (.agg #[.int .i64 0, .slice none 0 0]) 2 32 Tryd.underlying22 (unhide HInf).1 (unhide HInf).2.1 (unhide HInf).2.2.1 (unhide HInf).2.2.2 rfl (by decide) v T.length (flatS T) rfl ((unhide O5).alloc _) ⟨w5.heap.size, 0, none⟩ 1 1 [.int .i64 (n : Int), .slice a5 n5 c5] rfl rfl (World.news_of_block (alloc_block _ _)) (two_ones _ _ _ _) (by decide) hmx hby (by simp; omega) (w5.heap.size + 1) (by simp) ?_; intro g3 c3 w6 hown6 hgrow6 hat6 hlt6; have L6 := (unhide GB5).app hgrow6; have q5c := L6.1; have q6c := L6.2; have F6 := hide (And.intro hown6 (And.intro hgrow6 hat6)); clear hown6 hgrow6 hat6 hlt6 L6)
            | (go_simp; go_at_call 60; go_must (refine (unhide HOf _ ?_).mono ?_); go_must (exact (Below.refl _ _).drew); rintro _ w5 ⟨a5, n5, c5, rfl, hs5, ho5, hf5, hb5, hq5⟩; have GB5 := hide ((unhide HGB).1.below hq5); have O5 := hide (unhide GB5).own; have z5 := below_cell hq5 z1; have z6 := below_cell ((Below.refl w5.heap.size w5).alloc (Nat.le_refl _) (.cells #[.int .i64 (n : Int), .slice a5 n5 c5] 35)) z5; have hl5 : wd.heap.size ≤ w5.heap.size := (unhide GB5).bel.size; have F5 := hide (And.intro hs5 (And.intro ho5 (And.intro hf5 hq5))); clear hs5 ho5 hf5 hb5 hq5))
          all_goals
            have HS2 := hide ((unhide HGB).1.step (t := ⟨(n : Int), a5, n5, c5, wordsL n (tuQ P k)⟩) (unhide F5).2.2.2 ⟨(unhide F5).1, (unhide F5).2.1⟩ (unhide F5).2.2.1 (unhide F6).2.1 (unhide F6).1 (unhide F6).2.2 rfl)
            have HK2 := hide (tabK_snoc (t := ⟨(n : Int), a5, n5, c5, wordsL n (tuQ P k)⟩) (unhide HKey).2 rfl)
            clear z1 F6 F5 GB5 O5 z5 z6 q5c q6c
            go_wp2_with fail
            exact ⟨⟨k + 1, _, _, by omega, by go_num, by rw [List.length_append, (unhide HKey).1]; rfl, unhide HK2, unhide HS2⟩, by simp [intOf]; omega⟩
    · have hlt' : ¬ (k : Int) < (sz : Int) := by omega
      obtain rfl : sz = k := by omega
      obtain ⟨a', c', rfl, hres⟩ := hst.res (R := wa.heap.size) (unhide HA1).2.2 hl hkey (by omega) (by omega)
      have R2 := (unhide HA1).2.1.keep hst.bel
      have r0 := R2.c0
      have r1 := R2.c1
      have f0 := R2.f0
      have f1 := R2.f1
      have T3 := R2.set (.int .i64 (n : Int)) (.slice a' sz c')
      have p0 := T3.c0
      have p1 := T3.c1
      have z0 := hst.two.c0
      have z1 := hst.two.c1
      have HRes := hide hres
      clear hst hkey hl A2 R2 T3 hres
      go_wp2_with fail
      refine bodyPost_ret (by simp [results, Tryd.results26, go_sem, p0, p1]; try rfl) rfl ?_
      exact unhide HRes
end Go.Proofs.YtbendkndnojihabDoor
