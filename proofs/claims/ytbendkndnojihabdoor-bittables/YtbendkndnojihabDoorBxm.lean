/-
  sloperef3.Both: its contract.
-/
import Derived.Test.YtbendkndnojihabDoorBxk
import Derived.Test.YtbendkndnojihabDoorBu2
import Derived.Test.YtbendkndnojihabDoorBxi
import Derived.Deep.RegionLaw
namespace Go.Proofs.YtbendkndnojihabDoor
open Go.RowKit Go.Deep
set_option linter.unusedVariables false

set_option maxHeartbeats 8000000 in
set_option maxRecDepth 100000 in
/-- sloperef3.Both. -/
theorem rboth_good (n : Nat) (a : Option Addr) (c : Nat) (L : List SetC) (P : Nat → Nat → Bool) (w : World) (h : SlS w a n c L) (g : GoodT n n L P) :
    Calls Tryd.prog 33 #[setV n a n c] w fun r w' => ResN w w' n n (tabK n n (boQ P)) 0 r := by
  have hle := h.le
  have hcap := h.cap
  unfold maxLen at hcap
  have hn := g.hn
  obtain ⟨i24, hi, hz, hs, hb⟩ := info_parts Tryd.info_set
  have HInf := hide (And.intro hi (And.intro hz (And.intro hs hb)))
  clear hi hz hs hb
  obtain ⟨wa, hwa⟩ : ∃ x, w.alloc (.cells #[.int .i64 (n : Int), .slice a n c] 24) = x := ⟨_, rfl⟩
  obtain ⟨wb, hwb⟩ : ∃ x, wa.alloc (.cells #[.int .i64 0, .slice none 0 0] 24) = x := ⟨_, rfl⟩
  have ba : Below w.heap.size w wa := by rw [← hwa]; exact (Below.refl _ _).alloc (Nat.le_refl _) _
  have bb : Below wa.heap.size wa wb := by rw [← hwb]; exact (Below.refl _ _).alloc (Nat.le_refl _) _
  have la : w.heap.size < wa.heap.size := by rw [← hwa]; simp
  have lb : wa.heap.size < wb.heap.size := by rw [← hwb]; simp
  have A0 : Two wb w.heap.size (.int .i64 (n : Int)) (.slice a n c) := by
    refine Two.keep (w := wa) ?_ bb
    rw [← hwa]; exact Two.made _ _ _ _
  have R0 : Two wb wa.heap.size (.int .i64 0) (.slice none 0 0) := by rw [← hwb]; exact Two.made _ _ _ _
  have hB0 := ba.trans (bb.mono ba.size)
  have K := rmayT_any n a n c L wb (h.below hB0)
  rw [g.may] at K
  have HA := hide (And.intro A0 (And.intro R0 hB0))
  have a0 := A0.c0
  have a1 := A0.c1
  have HG := hide g
  have HSl := hide h
  unfold setV at K ⊢
  have HK := hide K
  clear A0 R0 h ba bb hB0 K g
  go_enter Tryd.func33, Tryd.ntmps33
  go_wp2_with fail
  refine (unhide HK).mono ?_
  rintro _ wd ⟨rfl, hbd⟩
  have A1 := (unhide HA).1.keep hbd
  have R1 := (unhide HA).2.1.keep hbd
  have hB1 := (unhide HA).2.2.trans (hbd.mono (unhide HA).2.2.size)
  clear a0 a1
  have b0 := A1.c0
  have b1 := A1.c1
  have ld := hbd.size
  have HG0 := hide (And.intro (GrB.start (w := wd) (Two.made wd (.int .i64 (n : Int)) (.slice none 0 0) 24) (Nat.le_refl _) ((Below.refl _ _).alloc (Nat.le_refl _) _)) ((Below.refl wd.heap.size wd).alloc (Nat.le_refl _) (.cells #[.int .i64 (n : Int), .slice none 0 0] 24)))
  have HA1 := hide (And.intro A1 (And.intro R1 hB1))
  clear A1 R1 hB1 hbd HA HK hwa hwb
  go_wp2_with fail
  clear b0 b1
  have hlz : wd.heap.size < (wd.alloc (.cells #[.int .i64 (n : Int), .slice none 0 0] 24)).heap.size := by simp
  generalize wd.alloc (.cells #[.int .i64 (n : Int), .slice none 0 0] 24) = wz at *
  go_loopw [5, 6, 7] (fun i _ _ wr => ∃ (k : Nat) (T : List SetC) (v : Value), k ≤ n ∧ i = .int .i64 k ∧ T.length = k ∧ T.map SetC.key = tabK n k (boQ P) ∧ GrB wd wr wd.heap.size n T v) (fun i _ _ _ => n - (intOf i).toNat)
  case atStart => exact ⟨0, [], _, Nat.zero_le _, rfl, rfl, rfl, (unhide HG0).1⟩
  case round =>
    obtain ⟨k, T, v, hk, rfl, hl, hkey, hst⟩ := hrel
    obtain ⟨W1, hW1⟩ : ∃ W1, W1 = wr := ⟨_, rfl⟩
    subst hW1
    have A2 := (unhide HA1).1.keep hst.bel
    have b0 := A2.c0
    by_cases hlt : k < n
    · have hlt' : (k : Int) < (n : Int) := by omega
      have hm := make_bools n (by omega)
      have HS := hide hst
      have HKey := hide (And.intro hl hkey)
      obtain ⟨b, off, rfl, hcells⟩ := (unhide HSl).at (by omega)
      have HC := hide hcells
      have hBW := (unhide HA1).2.2.trans (hst.bel.mono (unhide HA1).2.2.size)
      have hal : Below W1.heap.size W1 (W1.alloc (.cells (madeCells #[.bool false] n) 4)) := (Below.refl _ _).alloc (Nat.le_refl _) _
      have HI0 := hide (And.intro (show FnB (W1.alloc (.cells (madeCells #[.bool false] n) 4)) W1.heap.size 0 n (fun x => decide (x < 0) && boQ P k x) from (FnG.made W1 n 4 false rfl : FnB _ _ _ _ _).congr (fun x _ => by simp)) (And.intro hal (show W1.heap.size < (W1.alloc (.cells (madeCells #[.bool false] n) 4)).heap.size by simp)))
      have HB := hide (And.intro hBW (A2))
      clear hst hkey hl A2 hcells hal hBW
      go_wp2_with fail
      clear hm b0
      generalize W1.alloc (.cells (madeCells #[.bool false] n) 4) = wi at *
      go_loopw [7] (fun i wr => ∃ e : Nat, e ≤ n ∧ i = .int .i64 e ∧ FnB wr W1.heap.size 0 n (fun x => decide (x < e) && boQ P k x) ∧ Below W1.heap.size W1 wr ∧ W1.heap.size < wr.heap.size) (fun i _ => n - (intOf i).toNat)
      case atStart => exact ⟨0, Nat.zero_le _, rfl, (unhide HI0).1, (unhide HI0).2.1, (unhide HI0).2.2⟩
      case round =>
        obtain ⟨e, he, rfl, hf, hbl, hsz⟩ := hrel
        have hBr := (unhide HB).1.trans (hbl.mono (unhide HB).1.size)
        have A3 := (unhide HB).2.keep hbl
        have c0 := A3.c0
        have c1 := A3.c1
        by_cases het : e < n
        · have het' : (e : Int) < (n : Int) := by omega
          have he0 : (0 : Int) ≤ (e : Int) := by omega
          have hk0 : (0 : Int) ≤ (k : Int) := by omega
          have g1 := below_cell hBr (unhide HC k hlt).1
          have g2 := below_cell hBr (unhide HC k hlt).2
          have g3 := below_cell hBr (unhide HC e het).1
          have g4 := below_cell hBr (unhide HC e het).2
          have i1 := ((unhide HSl).get k hlt).1.below hBr
          have i2 := ((unhide HSl).get e het).1.below hBr
          have gg1 := (unhide HG).get k hlt
          have gg2 := (unhide HG).get e het
          have Gk : Good n (wordsL n (P k)) (P k) := Good.mk' (fun x hx => (unhide HG).zero k x hx) hn
          have Ge : Good n (wordsL n (P e)) (P e) := Good.mk' (fun x hx => (unhide HG).zero e x hx) hn
          generalize L.getD k .nul = x1 at *
          generalize L.getD e .nul = x2 at *
          obtain ⟨s1, ea1, en1, ec1, ex1⟩ := x1
          obtain ⟨s2, ea2, en2, ec2, ex2⟩ := x2
          simp only at g1 g2 g3 g4 gg1 gg2
          obtain ⟨rfl, rfl⟩ := gg1
          obtain ⟨rfl, rfl⟩ := gg2
          have hn1 : en1 = nW n := by have := i1.len; simp only [wordsL_len] at this; omega
          have hn2 : en2 = nW n := by have := i2.len; simp only [wordsL_len] at this; omega
          have K1 := in_any (n : Int) ea1 en1 ec1 (wordsL n (P k)) e wr i1 (by rw [hn1]; unfold nW; omega) (by omega)
          rw [show hasB (fun i => (wordsL n (P k)).getD i 0) e = P k e from Gk.has e (by unfold nW; omega)] at K1
          have K2 := fun (w' : World) (hb : Below wr.heap.size wr w') => in_any (n : Int) ea2 en2 ec2 (wordsL n (P e)) k w' (i2.below hb) (by rw [hn2]; unfold nW; omega) (by omega)
          rw [show hasB (fun i => (wordsL n (P e)).getD i 0) k = P e k from Ge.has k (by unfold nW; omega)] at K2
          unfold setV at K1 K2
          have HK1 := hide K1
          have HK2 := hide K2
          have HR := hide (And.intro hf (And.intro hbl hsz))
          have HFin := hide (fun (w2 : World) (hb2 : Below wr.heap.size wr w2) (bv : Bool) (hv : bv = boQ P k e) => (show FnB (w2.setCell ⟨W1.heap.size, e, none⟩ (.bool bv)) W1.heap.size 0 n (fun x => decide (x < e + 1) && boQ P k x) ∧ Below W1.heap.size W1 (w2.setCell ⟨W1.heap.size, e, none⟩ (.bool bv)) ∧ W1.heap.size < (w2.setCell ⟨W1.heap.size, e, none⟩ (.bool bv)).heap.size from by
            have hBx := hbl.trans (hb2.mono hbl.size)
            have h2 := hb2.size
            refine ⟨?_, hBx.setCell (p := ⟨W1.heap.size, e, none⟩) (Nat.le_refl _) _, by simp; omega⟩
            have := (hf.below hb2).set e bv het
            rw [Nat.zero_add] at this
            refine this.congr (fun x hx => ?_)
            by_cases hxk : x = e
            · subst hxk; simp [hv]
            · by_cases hx2 : x < e
              · simp [hxk, hx2, show x < e + 1 from by omega]
              · simp [hxk, hx2, show ¬ x < e + 1 from by omega]))
          clear K1 K2 i1 i2 Gk Ge hn1 hn2 hf hbl A3 hBr
          cases hv : P k e
          · rw [hv] at HK1
            go_wp2_with fail
            refine (unhide HK1).mono ?_
            rintro _ w2 ⟨rfl, hb2⟩
            have y1 := below_cell hb2 c1
            have y2 := below_cell hb2 g3
            have y3 := below_cell hb2 g4
            have K3 := unhide HK2 w2 hb2
            obtain ⟨bv, hbv⟩ : ∃ bv, P e k = bv := ⟨_, rfl⟩
            rw [hbv] at K3
            have HK3 := hide K3
            have HB2 := hide hb2
            have HV := hide (show bv = boQ P k e by rw [← hbv]; simp [boQ, hv])
            clear hb2 K3 hbv hv c0 c1 g1 g2 g3 g4
            go_wp2_with fail
            refine (unhide HK3).mono ?_
            rintro _ w3 ⟨rfl, hb3⟩
            have hb23 := (unhide HB2).trans (hb3.mono (unhide HB2).size)
            have f3 := (unhide HR).1.below hb23
            have z1 := (f3 e het).1
            have z2 := (f3 e het).2
            rw [Nat.zero_add] at z1 z2
            unfold vB at z1
            generalize (decide (e < e) && boQ P k e) = old at z1
            have HF := hide (unhide HFin w3 hb23 bv (unhide HV))
            clear f3 hb23 hb3
            go_wp2_with fail
            exact ⟨⟨e + 1, by omega, by go_num, (unhide HF).1, (unhide HF).2.1, (unhide HF).2.2⟩, by simp [intOf]; omega⟩
          · rw [hv] at HK1
            go_wp2_with fail
            refine (unhide HK1).mono ?_
            rintro _ w3 ⟨rfl, hb3⟩
            have f3 := (unhide HR).1.below hb3
            have z1 := (f3 e het).1
            have z2 := (f3 e het).2
            rw [Nat.zero_add] at z1 z2
            unfold vB at z1
            generalize (decide (e < e) && boQ P k e) = old at z1
            have HF := hide (unhide HFin w3 hb3 true (by simp [boQ, hv]))
            clear f3 hb3 hv c0 c1 g1 g2 g3 g4
            go_wp2_with fail
            exact ⟨⟨e + 1, by omega, by go_num, (unhide HF).1, (unhide HF).2.1, (unhide HF).2.2⟩, by simp [intOf]; omega⟩
        · have het' : ¬ (e : Int) < (n : Int) := by omega
          obtain rfl : n = e := by omega
          have hfr : FnB wr W1.heap.size 0 n (boQ P k) := hf.congr (fun x hx => by simp [hx])
          have GB := (unhide HS).below hbl
          have z1 := GB.two.c1
          have HGB := hide (And.intro GB hbl)
          have HOf := hide (fun (w' : World) (hb : Below wr.heap.size wr w') => of_row hfr hb hn (fun x hx => by unfold boQ; rw [(unhide HG).out x k hx, (unhide HG).zero k x hx]; rfl))
          have hmx : T.length + 1 ≤ maxLen := by rw [(unhide HKey).1]; unfold maxLen; omega
          have hby : (T.length + 1) * 32 ≤ 140737488355328 := by rw [(unhide HKey).1]; omega
          have hbs := GB.bel.size
          clear hf hfr hbl A3 hBr GB c1
          go_wp2_with fail
          go_region_law (first
            | (refine step_append_lies _ rfl _ _ 22 rfl wd.heap.size 35 i24 (.agg #[.int .i64 0, .slice none 0 0]) 2 32 Tryd.underlying22 (unhide HInf).1 (unhide HInf).2.1 (unhide HInf).2.2.1 (unhide HInf).2.2.2 rfl (by decide) v T.length (flatS T) rfl ((unhide O5).alloc _) ⟨w5.heap.size, 0, none⟩ 1 1 [.int .i64 (n : Int), .slice a5 n5 c5] rfl rfl (World.news_of_block (alloc_block _ _)) (two_ones _ _ _ _) (by decide) hmx hby (by simp; omega) (w5.heap.size + 1) (by simp) ?_; intro g3 c3 w6 hown6 hgrow6 hat6 hlt6; have L6 := (unhide GB5).app hgrow6; have q5c := L6.1; have q6c := L6.2; have F6 := hide (And.intro hown6 (And.intro hgrow6 hat6)); clear hown6 hgrow6 hat6 hlt6 L6)
            | (go_simp; go_at_call 60; go_must (refine (unhide HOf _ ?_).mono ?_); go_must (exact (Below.refl _ _).drew); rintro _ w5 ⟨a5, n5, c5, rfl, hs5, ho5, hf5, hb5, hq5⟩; have GB5 := hide ((unhide HGB).1.below hq5); have O5 := hide (unhide GB5).own; have z5 := below_cell hq5 z1; have z6 := below_cell ((Below.refl w5.heap.size w5).alloc (Nat.le_refl _) (.cells #[.int .i64 (n : Int), .slice a5 n5 c5] 35)) z5; have hl5 : wd.heap.size ≤ w5.heap.size := (unhide GB5).bel.size; have F5 := hide (And.intro hs5 (And.intro ho5 (And.intro hf5 hq5))); clear hs5 ho5 hf5 hb5 hq5))
          all_goals
            have HS2 := hide ((unhide HGB).1.step (t := ⟨(n : Int), a5, n5, c5, wordsL n (boQ P k)⟩) (unhide F5).2.2.2 ⟨(unhide F5).1, (unhide F5).2.1⟩ (unhide F5).2.2.1 (unhide F6).2.1 (unhide F6).1 (unhide F6).2.2 rfl)
            have HK2 := hide (tabK_snoc (t := ⟨(n : Int), a5, n5, c5, wordsL n (boQ P k)⟩) (unhide HKey).2 rfl)
            clear z1 F6 F5 GB5 O5 z5 z6 q5c q6c
            go_wp2_with fail
            exact ⟨⟨k + 1, _, _, by omega, by go_num, by rw [List.length_append, (unhide HKey).1]; rfl, unhide HK2, unhide HS2⟩, by simp [intOf]; omega⟩
    · have hlt' : ¬ (k : Int) < (n : Int) := by omega
      obtain rfl : n = k := by omega
      obtain ⟨a', c', rfl, hres⟩ := hst.res (R := wa.heap.size) (unhide HA1).2.2 hl hkey (by omega) (by omega)
      have R2 := (unhide HA1).2.1.keep hst.bel
      have r0 := R2.c0
      have r1 := R2.c1
      have f0 := R2.f0
      have f1 := R2.f1
      have T3 := R2.set (.int .i64 (n : Int)) (.slice a' n c')
      have p0 := T3.c0
      have p1 := T3.c1
      have z0 := hst.two.c0
      have z1 := hst.two.c1
      have HRes := hide hres
      clear hst hkey hl A2 R2 T3 hres
      go_wp2_with fail
      refine bodyPost_ret (by simp [results, Tryd.results33, go_sem, p0, p1]; try rfl) rfl ?_
      exact unhide HRes
end Go.Proofs.YtbendkndnojihabDoor

namespace Go.Proofs.YtbendkndnojihabDoor
open Go.RowKit Go.Deep
set_option linter.unusedVariables false

structure AdLp (w wr : World) (b n : Nat) (ea : Option Addr) (en ec : Nat) (g : Nat → Bool) : Prop where
  row : FnB wr b 0 n g
  two : Two wr w.heap.size (.int .i64 (n : Int)) (.slice ea en ec)
  chg : Chg (fun j => j = b) w wr
theorem AdLp.below {w wr w2 : World} {b n : Nat} {ea : Option Addr} {en ec : Nat} {g : Nat → Bool} (h : AdLp w wr b n ea en ec g) (hb : Below wr.heap.size wr w2) : AdLp w w2 b n ea en ec g :=
  ⟨h.row.below hb, h.two.keep hb, h.chg.trans (Chg.of_below hb)⟩
theorem AdLp.set {w wr : World} {b n : Nat} {ea : Option Addr} {en ec : Nat} {g : Nat → Bool} (h : AdLp w wr b n ea en ec g) (hb : b < w.heap.size) (k : Nat) (hk : k < n) : AdLp w (wr.setCell ⟨b, k, none⟩ (.bool true)) b n ea en ec (fun x => if x = k then true else g x) := by
  refine ⟨?_, h.two.other b k _ (by omega), h.chg.trans (Chg.of_set (S := fun j => j = b) _ _ _ _ rfl)⟩
  have := h.row.set k true hk
  rw [Nat.zero_add] at this
  exact this
theorem AdLp.congr {w wr : World} {b n : Nat} {ea : Option Addr} {en ec : Nat} {g g' : Nat → Bool} (h : AdLp w wr b n ea en ec g) (e : ∀ x, x < n → g x = g' x) : AdLp w wr b n ea en ec g' := ⟨h.row.congr e, h.two, h.chg⟩

set_option maxHeartbeats 4000000 in
/-- sloperef3.add. -/
theorem add_any (n b : Nat) (g : Nat → Bool) (ea : Option Addr) (en ec : Nat) (Q : Nat → Bool) (w : World) (hf : FnB w b 0 n g) (hbl : b < w.heap.size) (hs : SlW w ea en ec (wordsL n Q)) (hQ : ∀ x, n ≤ x → Q x = false) (hn : n ≤ 4096) (hne : 0 < en → ∀ x, ea = some x → x.block ≠ b) :
    Calls Tryd.prog 63 #[.slice (some ⟨b, 0, none⟩) n n, setV n ea en ec] w fun r w' => r = .returned (.tuple #[]) ∧ FnB w' b 0 n (fun x => g x || Q x) ∧ Chg (fun j => j = b) w w' := by
  have hen : en = nW n := by have := hs.len; rw [wordsL_len] at this; omega
  obtain ⟨wa, hwa⟩ : ∃ x, w.alloc (.cells #[.int .i64 (n : Int), .slice ea en ec] 35) = x := ⟨_, rfl⟩
  have ba : Below w.heap.size w wa := by rw [← hwa]; exact (Below.refl _ _).alloc (Nat.le_refl _) _
  have tA : Two wa w.heap.size (.int .i64 (n : Int)) (.slice ea en ec) := by rw [← hwa]; exact Two.made _ _ _ _
  have HI := hide (show AdLp w wa b n ea en ec (fun x => g x || (decide (x < 0) && Q x)) from ⟨(hf.below ba).congr (fun x _ => by simp), tA, Chg.of_below ba⟩)
  have HSl := hide hs
  have HNe := hide hne
  have HEn := hide hen
  have a0 := tA.c0
  unfold setV
  clear hf hs ba tA hne hen
  go_enter Tryd.func63, Tryd.ntmps63
  go_wp2_with fail
  clear a0 hwa
  go_loopw [4] (fun i wr => ∃ e : Nat, e ≤ n ∧ i = .int .i64 e ∧ AdLp w wr b n ea en ec (fun x => g x || (decide (x < e) && Q x))) (fun i _ => n - (intOf i).toNat)
  case atStart => exact ⟨0, Nat.zero_le _, rfl, unhide HI⟩
  case round =>
    obtain ⟨e, he, rfl, hst⟩ := hrel
    have v0 := hst.two.c0
    have v1 := hst.two.c1
    by_cases hlt : e < n
    · have hlt' : (e : Int) < (n : Int) := by omega
      have he0 : (0 : Int) ≤ (e : Int) := by omega
      have hSr : SlW wr ea en ec (wordsL n Q) := by
        by_cases h0 : 0 < en
        · exact (unhide HSl).chg hst.chg (fun x hx _ => unhide HNe h0 x hx)
        · have h1 := unhide HSl
          have e0 : wordsL n Q = [] := List.length_eq_zero_iff.1 (by rw [h1.len]; omega)
          exact ⟨h1.len, h1.le, h1.cap, .inl e0⟩
      have K := in_any (n : Int) ea en ec (wordsL n Q) e wr hSr (by rw [unhide HEn]; unfold nW; omega) (by omega)
      rw [show hasB (fun i => (wordsL n Q).getD i 0) e = Q e from (Good.mk' hQ hn).has e (by unfold nW; omega)] at K
      unfold setV at K
      have HK := hide K
      have HS := hide hst
      clear K hSr hst
      cases hv : Q e
      · rw [hv] at HK
        go_wp2_with fail
        refine (unhide HK).mono ?_
        rintro _ w2 ⟨rfl, hb2⟩
        have HS2 := hide (((unhide HS).below hb2).congr (g' := fun x => g x || (decide (x < e + 1) && Q x)) (fun x _ => by
          by_cases c : x = e
          · subst c; simp [hv]
          · by_cases c2 : x < e
            · simp [c2, show x < e + 1 from by omega]
            · simp [c2, show ¬ x < e + 1 from by omega]))
        clear hb2 hv v0 v1
        go_wp2_with fail
        exact ⟨⟨e + 1, by omega, by go_num, unhide HS2⟩, by simp [intOf]; omega⟩
      · rw [hv] at HK
        go_wp2_with fail
        refine (unhide HK).mono ?_
        rintro _ w2 ⟨rfl, hb2⟩
        have h2 := (unhide HS).below hb2
        have z1 := (h2.row e hlt).1
        have z2 := (h2.row e hlt).2
        rw [Nat.zero_add] at z1 z2
        unfold vB at z1
        generalize (g e || (decide (e < e) && Q e)) = old at z1
        have HS2 := hide ((h2.set hbl e hlt).congr (g' := fun x => g x || (decide (x < e + 1) && Q x)) (fun x _ => by
          by_cases c : x = e
          · subst c; simp [hv]
          · by_cases c2 : x < e
            · simp [c, c2, show x < e + 1 from by omega]
            · simp [c, c2, show ¬ x < e + 1 from by omega]))
        clear hb2 hv h2 v0 v1
        go_wp2_with fail
        exact ⟨⟨e + 1, by omega, by go_num, unhide HS2⟩, by simp [intOf]; omega⟩
    · have hlt' : ¬ (e : Int) < (n : Int) := by omega
      obtain rfl : n = e := by omega
      have HS := hide (And.intro (hst.row.congr (fun x hx => by simp [hx]) : FnB wr b 0 n (fun x => g x || Q x)) hst.chg)
      clear hst
      go_wp2_with fail
      refine bodyPost_end (results_none rfl _ _ _) rfl ?_
      exact ⟨rfl, (unhide HS).1, (unhide HS).2⟩
end Go.Proofs.YtbendkndnojihabDoor
