/-
  sloperef3.Product: its contract.
-/
import Derived.Test.YtbendkndnojihabDoorBxm
import Derived.Test.YtbendkndnojihabDoorBu2
import Derived.Test.YtbendkndnojihabDoorBxi
import Derived.Deep.RegionLaw
import Derived.Test.YtbendkndnojihabDoorBtc
import Derived.Test.YtbendkndnojihabDoorBtm
namespace Go.Proofs.YtbendkndnojihabDoor
open Go.RowKit Go.Deep
set_option linter.unusedVariables false

theorem any_succ (p : Nat → Bool) (e : Nat) : (List.range (e + 1)).any p = ((List.range e).any p || p e) := by
  rw [List.range_succ, List.any_append]
  simp

set_option maxHeartbeats 8000000 in
set_option maxRecDepth 100000 in
/-- sloperef3.Product. -/
theorem rproduct_good (sz n : Nat) (a : Option Addr) (c : Nat) (L : List SetC) (P : Nat → Nat → Bool) (sb : Nat) (a2 : Option Addr) (c2 : Nat) (M : List SetC) (Q : Nat → Nat → Bool) (w : World) (h : SlS w a n c L) (h2 : SlS w a2 sz c2 M) (g : GoodT sz n L P) (g2 : GoodT sb sz M Q) :
    Calls Tryd.prog 31 #[setV sz a n c, setV sb a2 sz c2] w fun r w' => ResN w w' sb n (tabK sb n (prG sz P Q)) 0 r := by
  have hle := h.le
  have hcap := h.cap
  unfold maxLen at hcap
  have hle2 := h2.le
  have hcap2 := h2.cap
  unfold maxLen at hcap2
  have hn := g.hn
  have hz4 := g.hs
  have hb4 := g2.hs
  obtain ⟨i24, hi, hz, hs, hb⟩ := info_parts Tryd.info_set
  have HInf := hide (And.intro hi (And.intro hz (And.intro hs hb)))
  clear hi hz hs hb
  obtain ⟨wa, hwa⟩ : ∃ x, w.alloc (.cells #[.int .i64 (sz : Int), .slice a n c] 24) = x := ⟨_, rfl⟩
  obtain ⟨wa2, hwa2⟩ : ∃ x, wa.alloc (.cells #[.int .i64 (sb : Int), .slice a2 sz c2] 24) = x := ⟨_, rfl⟩
  obtain ⟨wb, hwb⟩ : ∃ x, wa2.alloc (.cells #[.int .i64 0, .slice none 0 0] 24) = x := ⟨_, rfl⟩
  have ba : Below w.heap.size w wa := by rw [← hwa]; exact (Below.refl _ _).alloc (Nat.le_refl _) _
  have ba2 : Below wa.heap.size wa wa2 := by rw [← hwa2]; exact (Below.refl _ _).alloc (Nat.le_refl _) _
  have bb : Below wa2.heap.size wa2 wb := by rw [← hwb]; exact (Below.refl _ _).alloc (Nat.le_refl _) _
  have la : w.heap.size < wa.heap.size := by rw [← hwa]; simp
  have la2 : wa.heap.size < wa2.heap.size := by rw [← hwa2]; simp
  have lb : wa2.heap.size < wb.heap.size := by rw [← hwb]; simp
  have A0 : Two wb w.heap.size (.int .i64 (sz : Int)) (.slice a n c) := by
    refine Two.keep (w := wa2) (Two.keep (w := wa) ?_ ba2) bb
    rw [← hwa]; exact Two.made _ _ _ _
  have B0 : Two wb wa.heap.size (.int .i64 (sb : Int)) (.slice a2 sz c2) := by
    refine Two.keep (w := wa2) ?_ bb
    rw [← hwa2]; exact Two.made _ _ _ _
  have R0 : Two wb wa2.heap.size (.int .i64 0) (.slice none 0 0) := by rw [← hwb]; exact Two.made _ _ _ _
  have hB00 := ba.trans (ba2.mono ba.size)
  have hB0 := hB00.trans (bb.mono hB00.size)
  have K := rmayT_any sz a n c L wb (h.below hB0)
  rw [g.may] at K
  have HA := hide (And.intro A0 (And.intro B0 (And.intro R0 hB0)))
  have a0 := A0.c0
  have a1 := A0.c1
  have HG := hide g
  have HG2 := hide g2
  have HSl := hide h
  have HSl2 := hide h2
  unfold setV at K ⊢
  have HK := hide K
  clear A0 B0 R0 h h2 ba bb ba2 hB0 hB00 K g g2
  go_enter Tryd.func31, Tryd.ntmps31
  go_wp2_with fail
  refine (unhide HK).mono ?_
  rintro _ wc ⟨rfl, hbd⟩
  have A1 := (unhide HA).1.keep hbd
  have B1 := (unhide HA).2.1.keep hbd
  have R1 := (unhide HA).2.2.1.keep hbd
  have hB1 := (unhide HA).2.2.2.trans (hbd.mono (unhide HA).2.2.2.size)
  have K := rmayT_any sb a2 sz c2 M wc ((unhide HSl2).below hB1)
  rw [(unhide HG2).may] at K
  unfold setV at K
  have HK2 := hide K
  clear a0 a1
  have b0 := A1.c0
  have b1 := A1.c1
  have y0 := B1.c0
  have y1 := B1.c1
  have ld := hbd.size
  have HA1 := hide (And.intro A1 (And.intro B1 (And.intro R1 hB1)))
  clear A1 B1 R1 hB1 hbd HA HK hwa hwb hwa2 K
  go_wp2_with fail
  refine (unhide HK2).mono ?_
  rintro _ wd ⟨rfl, hbd⟩
  have A1 := (unhide HA1).1.keep hbd
  have B1 := (unhide HA1).2.1.keep hbd
  have R1 := (unhide HA1).2.2.1.keep hbd
  have hB1 := (unhide HA1).2.2.2.trans (hbd.mono (unhide HA1).2.2.2.size)
  clear b0 b1 y0 y1
  have b0 := A1.c0
  have b1 := A1.c1
  have y0 := B1.c0
  have y1 := B1.c1
  have ld2 := hbd.size
  have HG0 := hide (GrB.start (w := wd) (Two.made wd (.int .i64 (sb : Int)) (.slice none 0 0) 24) (Nat.le_refl _) ((Below.refl _ _).alloc (Nat.le_refl _) _))
  have HA2 := hide (And.intro A1 (And.intro B1 (And.intro R1 hB1)))
  clear A1 B1 R1 hB1 hbd HA1 HK2
  go_wp2_with fail
  clear b0 b1 y0 y1
  have hlz : wd.heap.size < (wd.alloc (.cells #[.int .i64 (sb : Int), .slice none 0 0] 24)).heap.size := by simp
  generalize wd.alloc (.cells #[.int .i64 (sb : Int), .slice none 0 0] 24) = wz at *
  go_loopw [7, 8, 9] (fun i _ _ wr => ∃ (k : Nat) (T : List SetC) (v : Value), k ≤ n ∧ i = .int .i64 k ∧ T.length = k ∧ T.map SetC.key = tabK sb k (prG sz P Q) ∧ GrB wd wr wd.heap.size sb T v) (fun i _ _ _ => n - (intOf i).toNat)
  case atStart => exact ⟨0, [], _, Nat.zero_le _, rfl, rfl, rfl, unhide HG0⟩
  case round =>
    obtain ⟨k, T, v, hk, rfl, hl, hkey, hst⟩ := hrel
    obtain ⟨W1, hW1⟩ : ∃ W1, W1 = wr := ⟨_, rfl⟩
    subst hW1
    have A2 := (unhide HA2).1.keep hst.bel
    have B2 := (unhide HA2).2.1.keep hst.bel
    have b1 := A2.c1
    have y0 := B2.c0
    by_cases hlt : k < n
    · have hlt' : (k : Int) < (n : Int) := by omega
      have hm := make_bools sb (by omega)
      have HS := hide hst
      have HKey := hide (And.intro hl hkey)
      obtain ⟨b, off, rfl, hcells⟩ := (unhide HSl).at (by omega)
      have HC := hide hcells
      have hBW := (unhide HA2).2.2.2.trans (hst.bel.mono (unhide HA2).2.2.2.size)
      have hal : Below W1.heap.size W1 (W1.alloc (.cells (madeCells #[.bool false] sb) 4)) := (Below.refl _ _).alloc (Nat.le_refl _) _
      have HI0 := hide (And.intro (show FnB (W1.alloc (.cells (madeCells #[.bool false] sb) 4)) W1.heap.size 0 sb (prG 0 P Q k) from (FnG.made W1 sb 4 false rfl : FnB _ _ _ _ _).congr (fun x _ => by simp [prG])) (And.intro hal (show W1.heap.size < (W1.alloc (.cells (madeCells #[.bool false] sb) 4)).heap.size by simp)))
      have hwW : w.heap.size ≤ W1.heap.size := hBW.size
      have HB := hide (And.intro hBW (And.intro A2 B2))
      clear hst hkey hl A2 B2 hcells hal hBW
      go_wp2_with fail
      clear hm b1 y0
      generalize W1.alloc (.cells (madeCells #[.bool false] sb) 4) = wi at *
      go_loopw [9] (fun i wr => ∃ e : Nat, e ≤ sz ∧ i = .int .i64 e ∧ FnB wr W1.heap.size 0 sb (prG e P Q k) ∧ Below W1.heap.size W1 wr ∧ W1.heap.size < wr.heap.size) (fun i _ => sz - (intOf i).toNat)
      case atStart => exact ⟨0, Nat.zero_le _, rfl, (unhide HI0).1, (unhide HI0).2.1, (unhide HI0).2.2⟩
      case round =>
        obtain ⟨e, he, rfl, hf, hbl, hsz⟩ := hrel
        have hBr := (unhide HB).1.trans (hbl.mono (unhide HB).1.size)
        have A3 := (unhide HB).2.1.keep hbl
        have B3 := (unhide HB).2.2.keep hbl
        have c0 := A3.c0
        have c1 := A3.c1
        have d1 := B3.c1
        by_cases het : e < sz
        · have het' : (e : Int) < (sz : Int) := by omega
          have he0 : (0 : Int) ≤ (e : Int) := by omega
          have hk0 : (0 : Int) ≤ (k : Int) := by omega
          obtain ⟨bm, om, rfl, hcm⟩ := (unhide HSl2).at (by omega)
          have g1 := below_cell hBr (unhide HC k hlt).1
          have g2 := below_cell hBr (unhide HC k hlt).2
          have g3 := below_cell hBr (hcm e het).1
          have g4 := below_cell hBr (hcm e het).2
          have i1 := ((unhide HSl).get k hlt).1.below hBr
          have i2w := ((unhide HSl2).get e het).1
          have gg1 := (unhide HG).get k hlt
          have gg2 := (unhide HG2).get e het
          have Gk : Good sz (wordsL sz (P k)) (P k) := Good.mk' (fun x hx => (unhide HG).zero k x hx) hz4
          generalize L.getD k .nul = x1 at *
          generalize M.getD e .nul = x2 at *
          obtain ⟨s1, ea1, en1, ec1, ex1⟩ := x1
          obtain ⟨s2, ea2, en2, ec2, ex2⟩ := x2
          simp only at g1 g2 g3 g4 gg1 gg2
          obtain ⟨rfl, rfl⟩ := gg1
          obtain ⟨rfl, rfl⟩ := gg2
          have hn1 : en1 = nW sz := by have := i1.len; simp only [wordsL_len] at this; omega
          have K1 := in_any (sz : Int) ea1 en1 ec1 (wordsL sz (P k)) e wr i1 (by rw [hn1]; unfold nW; omega) (by omega)
          rw [show hasB (fun i => (wordsL sz (P k)).getD i 0) e = P k e from Gk.has e (by unfold nW; omega)] at K1
          unfold setV at K1
          have HK1 := hide K1
          have HR := hide (And.intro hf (And.intro hbl (And.intro hBr hsz)))
          have HI2 := hide i2w
          clear K1 i1 i2w Gk hn1 hf hbl A3 B3 hBr hcm
          cases hv : P k e
          · rw [hv] at HK1
            go_wp2_with fail
            refine (unhide HK1).mono ?_
            rintro _ w2 ⟨rfl, hb2⟩
            have HF := hide (And.intro (((unhide HR).1.below hb2).congr (fun x _ => by unfold prG; rw [any_succ]; simp [hv]) : FnB w2 W1.heap.size 0 sb (prG (e + 1) P Q k)) (And.intro ((unhide HR).2.1.trans (hb2.mono (unhide HR).2.1.size)) (Nat.lt_of_lt_of_le (unhide HR).2.2.2 hb2.size)))
            clear hb2 hv c0 c1 d1 g1 g2 g3 g4
            go_wp2_with fail
            exact ⟨⟨e + 1, by omega, by go_num, (unhide HF).1, (unhide HF).2.1, (unhide HF).2.2⟩, by simp [intOf]; omega⟩
          · rw [hv] at HK1
            go_wp2_with fail
            refine (unhide HK1).mono ?_
            rintro _ w2 ⟨rfl, hb2⟩
            have hB2 := (unhide HR).2.2.1.trans (hb2.mono (unhide HR).2.2.1.size)
            have y1 := below_cell hb2 d1
            have y2 := below_cell hb2 g3
            have y3 := below_cell hb2 g4
            have K3 := add_any sb W1.heap.size (prG e P Q k) ea2 en2 ec2 (Q e) w2 ((unhide HR).1.below hb2) (Nat.lt_of_lt_of_le (unhide HR).2.2.2 hb2.size) ((unhide HI2).below hB2) (fun x hx => (unhide HG2).zero e x hx) hb4 (fun h0 x hx => by
              obtain ⟨b9, o9, e9, k9⟩ := (unhide HI2).at h0
              have e9' : ea2 = some ⟨b9, o9, none⟩ := e9
              rw [e9'] at hx
              cases hx
              have h9 : b9 < w.heap.size := World.block_lt_of_cell? _ _ (k9 0 h0)
              show ¬ b9 = W1.heap.size
              omega)
            unfold setV at K3
            have HK3 := hide K3
            have HB2 := hide hb2
            have HV := hide hv
            clear hb2 K3 hv c0 c1 d1 g1 g2 g3 g4 hB2
            go_wp2_with fail
            refine (unhide HK3).mono ?_
            rintro _ w3 ⟨rfl, hf3, hc3⟩
            have hb12 := (unhide HR).2.1.trans ((unhide HB2).mono (unhide HR).2.1.size)
            have HF := hide (And.intro (hf3.congr (fun x _ => by unfold prG; rw [any_succ, unhide HV]; simp) : FnB w3 W1.heap.size 0 sb (prG (e + 1) P Q k)) (And.intro (hb12.trans (hc3.below hb12.size (fun j hj => by omega))) (Nat.lt_of_lt_of_le (Nat.lt_of_lt_of_le (unhide HR).2.2.2 (unhide HB2).size) hc3.size)))
            clear hf3 hc3 hb12 y1 y2 y3
            go_wp2_with fail
            exact ⟨⟨e + 1, by omega, by go_num, (unhide HF).1, (unhide HF).2.1, (unhide HF).2.2⟩, by simp [intOf]; omega⟩
        · have het' : ¬ (e : Int) < (sz : Int) := by omega
          obtain rfl : sz = e := by omega
          have GB := (unhide HS).below hbl
          have z1 := GB.two.c1
          have HGB := hide (And.intro GB hbl)
          have HOf := hide (fun (w' : World) (hb : Below wr.heap.size wr w') => of_row hf hb hb4 (fun x hx => prG_zero (.inr fun e => (unhide HG2).zero e x hx)))
          have hmx : T.length + 1 ≤ maxLen := by rw [(unhide HKey).1]; unfold maxLen; omega
          have hby : (T.length + 1) * 32 ≤ 140737488355328 := by rw [(unhide HKey).1]; omega
          have hbs := GB.bel.size
          clear hf hbl A3 B3 hBr GB c1 d1
          go_wp2_with fail
          go_region_law (first
            | (refine step_append_lies _ rfl _ _ 22 rfl wd.heap.size 35 i24 (.agg #[.int .i64 0, .slice none 0 0]) 2 32 Tryd.underlying22 (unhide HInf).1 (unhide HInf).2.1 (unhide HInf).2.2.1 (unhide HInf).2.2.2 rfl (by decide) v T.length (flatS T) rfl ((unhide O5).alloc _) ⟨w5.heap.size, 0, none⟩ 1 1 [.int .i64 (sb : Int), .slice a5 n5 c5] rfl rfl (World.news_of_block (alloc_block _ _)) (two_ones _ _ _ _) (by decide) hmx hby (by simp; omega) (w5.heap.size + 1) (by simp) ?_; intro g3 c3 w6 hown6 hgrow6 hat6 hlt6; have L6 := (unhide GB5).app hgrow6; have q5c := L6.1; have q6c := L6.2; have F6 := hide (And.intro hown6 (And.intro hgrow6 hat6)); clear hown6 hgrow6 hat6 hlt6 L6)
            | (go_simp; go_at_call 60; go_must (refine (unhide HOf _ ?_).mono ?_); go_must (exact (Below.refl _ _).drew); rintro _ w5 ⟨a5, n5, c5, rfl, hs5, ho5, hf5, hb5, hq5⟩; have GB5 := hide ((unhide HGB).1.below hq5); have O5 := hide (unhide GB5).own; have z5 := below_cell hq5 z1; have z6 := below_cell ((Below.refl w5.heap.size w5).alloc (Nat.le_refl _) (.cells #[.int .i64 (sb : Int), .slice a5 n5 c5] 35)) z5; have hl5 : wd.heap.size ≤ w5.heap.size := (unhide GB5).bel.size; have F5 := hide (And.intro hs5 (And.intro ho5 (And.intro hf5 hq5))); clear hs5 ho5 hf5 hb5 hq5))
          all_goals
            have HS2 := hide ((unhide HGB).1.step (t := ⟨(sb : Int), a5, n5, c5, wordsL sb (prG sz P Q k)⟩) (unhide F5).2.2.2 ⟨(unhide F5).1, (unhide F5).2.1⟩ (unhide F5).2.2.1 (unhide F6).2.1 (unhide F6).1 (unhide F6).2.2 rfl)
            have HK2 := hide (tabK_snoc (t := ⟨(sb : Int), a5, n5, c5, wordsL sb (prG sz P Q k)⟩) (unhide HKey).2 rfl)
            clear z1 F6 F5 GB5 O5 z5 z6 q5c q6c
            go_wp2_with fail
            exact ⟨⟨k + 1, _, _, by omega, by go_num, by rw [List.length_append, (unhide HKey).1]; rfl, unhide HK2, unhide HS2⟩, by simp [intOf]; omega⟩
    · have hlt' : ¬ (k : Int) < (n : Int) := by omega
      obtain rfl : n = k := by omega
      obtain ⟨a', c', rfl, hres⟩ := hst.res (R := wa2.heap.size) (unhide HA2).2.2.2 hl hkey (by omega) (by omega)
      have R2 := (unhide HA2).2.2.1.keep hst.bel
      have r0 := R2.c0
      have r1 := R2.c1
      have f0 := R2.f0
      have f1 := R2.f1
      have T3 := R2.set (.int .i64 (sb : Int)) (.slice a' n c')
      have p0 := T3.c0
      have p1 := T3.c1
      have z0 := hst.two.c0
      have z1 := hst.two.c1
      have HRes := hide hres
      clear hst hkey hl A2 B2 R2 T3 hres
      go_wp2_with fail
      refine bodyPost_ret (by simp [results, Tryd.results31, go_sem, p0, p1]; try rfl) rfl ?_
      exact unhide HRes
end Go.Proofs.YtbendkndnojihabDoor

namespace Go.Proofs.YtbendkndnojihabDoor
open Go.RowKit Go.Deep
set_option linter.unusedVariables false

/-- What putting says. -/
def putE (s : Int) (xs : List Nat) (e : Int) : Int := if MayS s xs then (if 0 ≤ e ∧ e < s then 0 else 62) else 61
def putR (s : Int) (xs : List Nat) (e : Int) (yes : Bool) : Int × List Nat × Int :=
  if putE s xs e = 0 then (s, wordsL s.toNat (fun x => if (x : Int) = e then yes else hasB (fun i => xs.getD i 0) x), 0) else (0, [], putE s xs e)
theorem putE_zero {s : Int} {xs : List Nat} {e : Int} (h : putE s xs e = 0) : MayS s xs = true ∧ 0 ≤ e ∧ e < s := by
  unfold putE at h
  split at h
  · split at h
    · rename_i h1 h2; exact ⟨h1, h2⟩
    · cases h
  · cases h

end Go.Proofs.YtbendkndnojihabDoor

namespace Go.Proofs.YtbendkndnojihabDoor
open Go.RowKit Go.Deep
set_option linter.unusedVariables false

set_option maxHeartbeats 2000000 in
/-- sloperef3.List. -/
theorem list_any (sz : Nat) (a : Option Addr) (n c : Nat) (xs : List Nat) (w : World) (h : SlW w a n c xs) (hsz : sz ≤ 4096) (hn : n = nW sz) :
    Calls Tryd.prog 53 #[setV sz a n c] w fun r w' => ∃ b, r = .returned (.slice (some ⟨b, 0, none⟩) sz sz) ∧ w.heap.size ≤ b ∧ b < w'.heap.size ∧ FnB w' b 0 sz (hasB (fun i => xs.getD i 0)) ∧ Below w.heap.size w w' := by
  obtain ⟨wa, hwa⟩ : ∃ wa, w.alloc (.cells #[.int .i64 (sz : Int), .slice a n c] 35) = wa := ⟨_, rfl⟩
  have hb : Below w.heap.size w wa := by rw [← hwa]; exact (Below.refl _ _).alloc (Nat.le_refl _) _
  have tA : Two wa w.heap.size (.int .i64 sz) (.slice a n c) := by rw [← hwa]; exact Two.made _ _ _ _
  have hm := make_bools sz (by omega)
  have hq : ∀ k, k < sz → k / 64 < n := fun k hk => by rw [hn]; unfold nW; omega
  have a0 := tA.c0
  have a1 := tA.c1
  have hal : Below wa.heap.size wa (wa.alloc (.cells (madeCells #[.bool false] sz) 4)) := (Below.refl _ _).alloc (Nat.le_refl _) _
  have HT := hide (And.intro (tA.keep hal) (And.intro ((h.below hb).below hal) (And.intro (show FnB (wa.alloc (.cells (madeCells #[.bool false] sz) 4)) wa.heap.size 0 sz (fun _ => false) from FnG.made wa sz 4 false rfl) (hb.trans (hal.mono hb.size)))))
  have hwl : w.heap.size < wa.heap.size := tA.lt
  have HQ := hide hq
  have HSl := hide h
  clear tA hb h hal hn hq
  unfold setV
  go_enter Tryd.func53, Tryd.ntmps53
  go_wp2_with fail
  clear hwa a0 a1
  have hs0 : wa.heap.size < (wa.alloc (.cells (madeCells #[.bool false] sz) 4)).heap.size := by simp
  generalize wa.alloc (.cells (madeCells #[.bool false] sz) 4) = wc at *
  generalize wa.heap.size = b at *
  go_loopw [4] (fun i wr => ∃ k : Nat, k ≤ sz ∧ i = .int .i64 k ∧ Two wr w.heap.size (.int .i64 sz) (.slice a n c) ∧ SlW wr a n c xs ∧ FnB wr b 0 sz (fun x => decide (x < k) && hasB (fun i => xs.getD i 0) x) ∧ Below w.heap.size w wr ∧ b < wr.heap.size) (fun i _ => sz - (intOf i).toNat)
  case atStart =>
    obtain ⟨q1, q2, q3, q4⟩ := unhide HT
    exact ⟨0, Nat.zero_le _, rfl, q1, q2, q3.congr (fun x _ => by simp), q4, hs0⟩
  case round =>
    obtain ⟨k, hk, rfl, q1, q2, q3, q4, q5⟩ := hrel
    have v0 := q1.c0
    have v1 := q1.c1
    have HR := hide (And.intro q1 (And.intro q2 (And.intro q3 q4)))
    by_cases hlt : k < sz
    · have hlt' : (k : Int) < (sz : Int) := by omega
      have K := in_any sz a n c xs k wr q2 (unhide HQ k hlt) (by omega)
      unfold setV at K
      have HK := hide K
      clear q1 q2 q3 q4 K
      go_wp2_with fail
      refine (unhide HK).mono ?_
      rintro _ w2 ⟨rfl, hb2⟩
      obtain ⟨q1, q2, q3, q4⟩ := unhide HR
      have g3 := q3.below hb2
      have g1 := (g3 k hlt).1
      have g2 := (g3 k hlt).2
      rw [Nat.zero_add] at g1 g2
      unfold vB at g1
      generalize (decide (k < k) && hasB (fun i => xs.getD i 0) k) = old at g1
      have hsz2 := hb2.size
      have HS := hide (show Two (w2.setCell ⟨b, k, none⟩ (.bool (hasB (fun i => xs.getD i 0) k))) w.heap.size (.int .i64 sz) (.slice a n c) ∧ SlW (w2.setCell ⟨b, k, none⟩ (.bool (hasB (fun i => xs.getD i 0) k))) a n c xs ∧ FnB (w2.setCell ⟨b, k, none⟩ (.bool (hasB (fun i => xs.getD i 0) k))) b 0 sz (fun x => decide (x < k + 1) && hasB (fun i => xs.getD i 0) x) ∧ Below w.heap.size w (w2.setCell ⟨b, k, none⟩ (.bool (hasB (fun i => xs.getD i 0) k))) by
        have hBx := q4.trans (hb2.mono q4.size)
        refine ⟨(q1.keep hb2).other b k _ (by omega), ?_, ?_, hBx.setCell (p := ⟨b, k, none⟩) (by show w.heap.size ≤ b; omega) _⟩
        · exact (unhide HSl).below (hBx.setCell (p := ⟨b, k, none⟩) (by show w.heap.size ≤ b; omega) _)
        · have := g3.set k (hasB (fun i => xs.getD i 0) k) hlt
          rw [Nat.zero_add] at this
          refine this.congr (fun x hx => ?_)
          by_cases hxk : x = k
          · subst hxk; simp
          · by_cases hx2 : x < k
            · simp [hxk, hx2, show x < k + 1 from by omega]
            · simp [hxk, hx2, show ¬ x < k + 1 from by omega])
      generalize hasB (fun i => xs.getD i 0) k = bv at *
      clear q1 q2 q3 q4 g3 hb2 HK HR v0 v1
      go_wp2_with fail
      obtain ⟨e1, e2, e3, e4⟩ := unhide HS
      exact ⟨⟨k + 1, by omega, by go_num, e1, e2, e3, e4, by simp; omega⟩, by simp [intOf]; omega⟩
    · have hlt' : ¬ (k : Int) < (sz : Int) := by omega
      have hkn : k = sz := by omega
      subst hkn
      clear q1 q2 q3 q4
      go_wp2_with fail
      go_ret
      obtain ⟨q1, q2, q3, q4⟩ := unhide HR
      exact ⟨b, rfl, by omega, q5, q3.congr (fun x hx => by simp [hx]), q4⟩

end Go.Proofs.YtbendkndnojihabDoor
