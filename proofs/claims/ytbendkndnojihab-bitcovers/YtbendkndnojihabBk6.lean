/-
  sloperef3.Cover: its contract.
-/
import Derived.Test.YtbendkndnojihabBk4
import Derived.Test.YtbendkndnojihabBk5
import Derived.Test.YtbendkndnojihabBu2
import Derived.Test.YtbendkndnojihabBtg
namespace Go.Proofs.Ytbendkndnojihab
open Go.RowKit Go.Deep
set_option linter.unusedVariables false

set_option maxHeartbeats 4000000 in
/-- sloperef3.Cover, refused. -/
theorem rcover_no (t : Int) (aT : Option Addr) (n cT : Nat) (L : List SetC) (s : Int) (a : Option Addr) (ns c : Nat) (xs : List Nat) (w : World) (hS : SlS w aT n cT L) (h : SlW w a ns c xs) (er : Int)
    (hz : (MayT t L = false ∧ er = 61) ∨ (MayT t L = true ∧ MayS s xs = false ∧ er = 61) ∨ (MayT t L = true ∧ MayS s xs = true ∧ t ≠ s ∧ er = 60)) :
    Calls Try.prog 23 #[setV t aT n cT, setV s a ns c] w fun e w' => ResI w w' ([], er) e := by
  obtain ⟨wa, hwa⟩ : ∃ x, w.alloc (.cells #[.int .i64 t, .slice aT n cT] 41) = x := ⟨_, rfl⟩
  obtain ⟨wb, hwb⟩ : ∃ x, wa.alloc (.cells #[.int .i64 s, .slice a ns c] 26) = x := ⟨_, rfl⟩
  have hba : Below w.heap.size w wa := by rw [← hwa]; exact (Below.refl _ _).alloc (Nat.le_refl _) _
  have hbb : Below wa.heap.size wa wb := by rw [← hwb]; exact (Below.refl _ _).alloc (Nat.le_refl _) _
  have tA : Two wb w.heap.size (.int .i64 t) (.slice aT n cT) := Two.keep (w := wa) (by rw [← hwa]; exact Two.made _ _ _ _) hbb
  have tB : Two wb wa.heap.size (.int .i64 s) (.slice a ns c) := by rw [← hwb]; exact Two.made _ _ _ _
  have hB := hba.trans (hbb.mono hba.size)
  have K1 := rmayT_any t aT n cT L wb (hS.below hB)
  have HA := hide (And.intro tA (And.intro tB hB))
  have HS := hide h
  have a0 := tA.c0
  have a1 := tA.c1
  clear tA tB hB hba hbb hS h
  unfold setV at K1 ⊢
  rcases hz with ⟨m1, rfl⟩ | ⟨m1, m2, rfl⟩ | ⟨m1, m2, hne, rfl⟩
  · rw [m1] at K1
    have HK1 := hide K1
    clear K1 m1
    go_enter Try.func23, Try.ntmps23
    go_wp2_with fail
    refine (unhide HK1).mono ?_
    rintro _ wc ⟨rfl, hbc⟩
    have HB := hide ((unhide HA).2.2.trans (hbc.mono (unhide HA).2.2.size))
    clear hbc HK1
    go_wp2_with fail
    go_ret2
    exact ⟨none, 0, 0, rfl, SlG.nil _, unhide HB⟩
  · rw [m1] at K1
    have HK1 := hide K1
    have HM2 := hide m2
    clear K1 m1 m2
    go_enter Try.func23, Try.ntmps23
    go_wp2_with fail
    refine (unhide HK1).mono ?_
    rintro _ wc ⟨rfl, hbc⟩
    have hB2 := (unhide HA).2.2.trans (hbc.mono (unhide HA).2.2.size)
    have tB := (unhide HA).2.1.keep hbc
    have K2 := rmay_any s a ns c xs wc ((unhide HS).below hB2)
    rw [unhide HM2] at K2
    unfold setV at K2
    have HK2 := hide K2
    have HB2 := hide hB2
    have b0 := tB.c0
    have b1 := tB.c1
    clear hbc HK1 K2 tB hB2 a0 a1
    go_wp2_with fail
    refine (unhide HK2).mono ?_
    rintro _ wd ⟨rfl, hbd⟩
    have HB := hide ((unhide HB2).trans (hbd.mono (unhide HB2).size))
    clear hbd HK2
    go_wp2_with fail
    go_ret2
    exact ⟨none, 0, 0, rfl, SlG.nil _, unhide HB⟩
  · rw [m1] at K1
    have HK1 := hide K1
    have HM2 := hide m2
    have hne1 : (t == s) = false := by simpa using hne
    have hne2 : (t != s) = true := by simpa using hne
    clear K1 m1 m2 hne
    go_enter Try.func23, Try.ntmps23
    go_wp2_with fail
    refine (unhide HK1).mono ?_
    rintro _ wc ⟨rfl, hbc⟩
    have hB2 := (unhide HA).2.2.trans (hbc.mono (unhide HA).2.2.size)
    have tA := (unhide HA).1.keep hbc
    have tB := (unhide HA).2.1.keep hbc
    have K2 := rmay_any s a ns c xs wc ((unhide HS).below hB2)
    rw [unhide HM2] at K2
    unfold setV at K2
    have HK2 := hide K2
    have HB2 := hide (And.intro tA (And.intro tB hB2))
    have b0 := tB.c0
    have b1 := tB.c1
    clear hbc HK1 K2 tA tB hB2 a0 a1
    go_wp2_with fail
    refine (unhide HK2).mono ?_
    rintro _ wd ⟨rfl, hbd⟩
    have HB := hide ((unhide HB2).2.2.trans (hbd.mono (unhide HB2).2.2.size))
    have e0 := ((unhide HB2).1.keep hbd).c0
    have e1 := ((unhide HB2).2.1.keep hbd).c0
    clear hbd HK2 b0 b1
    go_wp2_with fail
    go_ret2
    exact ⟨none, 0, 0, rfl, SlG.nil _, unhide HB⟩

/-- What the loop of picks holds. -/
structure RcSt (w wr : World) (T b base n : Nat) (sz : Nat) (aT : Option Addr) (cT : Nat) (L : List SetC) (R : Option (List Int)) (v : Value) (P : Nat → Bool) (acc : List Int) (fu : Nat) : Prop where
  tab : Two wr T (.int .i64 sz) (.slice aT n cT)
  row : FnB wr b 0 sz P
  bel : Below w.heap.size w wr
  lt : base ≤ wr.heap.size
  own : wr.ownsRow base 3 1 v acc.length (acc.map vI)
  res : covR sz n (setP L) fu P acc = R
  fuel : cntB P sz ≤ fu
  room : acc.length + cntB P sz ≤ 4096
theorem RcSt.keep {w wr w' : World} {T b base n sz : Nat} {aT : Option Addr} {cT : Nat} {L : List SetC} {R : Option (List Int)} {v : Value} {P : Nat → Bool} {acc : List Int} {fu : Nat} (h : RcSt w wr T b base n sz aT cT L R v P acc fu) (k : Below wr.heap.size wr w') : RcSt w w' T b base n sz aT cT L R v P acc fu :=
  ⟨h.tab.keep k, h.row.below k, h.bel.trans (k.mono h.bel.size), Nat.le_trans h.lt k.size, own_chg (S := fun _ => False) h.own (Chg.of_below k) (fun _ _ h => h), h.res, h.fuel, h.room⟩

set_option maxHeartbeats 32000000 in
/-- sloperef3.Cover. -/
theorem rcover_yes (sz : Nat) (aT : Option Addr) (n cT : Nat) (L : List SetC) (a : Option Addr) (ns c : Nat) (xs : List Nat) (w : World) (hS : SlS w aT n cT L) (h : SlW w a ns c xs) (m1 : MayT sz L = true) (m2 : MayS sz xs = true) :
    Calls Try.prog 23 #[setV sz aT n cT, setV sz a ns c] w fun e w' => ResI w w' (covA (covR sz n (setP L) 4096 (hasB (gW xs)) [])) e := by
  have hle := hS.le
  have hcap := hS.cap
  unfold maxLen at hcap
  have hnL : n ≤ 4096 := by rw [← hS.len]; exact MayT.len m1
  have hsz : sz ≤ 4096 := by have := MayS.fits m2; simp [fitsI] at this; omega
  have hns : ns = nW sz := by rw [← h.len, MayS.len m2]; simp
  obtain ⟨wa, hwa⟩ : ∃ x, w.alloc (.cells #[.int .i64 (sz : Int), .slice aT n cT] 41) = x := ⟨_, rfl⟩
  obtain ⟨wb, hwb⟩ : ∃ x, wa.alloc (.cells #[.int .i64 (sz : Int), .slice a ns c] 26) = x := ⟨_, rfl⟩
  have hba : Below w.heap.size w wa := by rw [← hwa]; exact (Below.refl _ _).alloc (Nat.le_refl _) _
  have hbb : Below wa.heap.size wa wb := by rw [← hwb]; exact (Below.refl _ _).alloc (Nat.le_refl _) _
  have tA : Two wb w.heap.size (.int .i64 sz) (.slice aT n cT) := Two.keep (w := wa) (by rw [← hwa]; exact Two.made _ _ _ _) hbb
  have tB : Two wb wa.heap.size (.int .i64 sz) (.slice a ns c) := by rw [← hwb]; exact Two.made _ _ _ _
  have hl1 : w.heap.size < wa.heap.size := by rw [← hwa]; simp
  have hB := hba.trans (hbb.mono hba.size)
  have K1 := rmayT_any sz aT n cT L wb (hS.below hB)
  rw [m1] at K1
  have HA := hide (And.intro tA (And.intro tB hB))
  have HS := hide hS
  have HW := hide h
  have HM2 := hide m2
  have HNs := hide hns
  have HEl := hide (show elsR sz xs = elsL (hasB (gW xs)) sz by simp [elsR, m2])
  have HAllen := hide (show ∀ e ∈ L, e.n = nW sz ∧ e.s = sz from fun e he => by
    have hm := MayT.all m1 e he
    have hin := hS.all e he
    refine ⟨?_, hm.2⟩
    rw [← hin.1.len, MayS.len hm.1, hm.2]
    simp)
  have a0 := tA.c0
  have a1 := tA.c1
  clear tA tB hB hba hbb hS h m1 m2 hns
  unfold setV at K1 ⊢
  have HK1 := hide K1
  obtain ⟨R, hR⟩ : ∃ R, covR sz n (setP L) 4096 (hasB (gW xs)) [] = R := ⟨_, rfl⟩
  rw [hR]
  have HR := hide hR
  clear K1 hR
  go_enter Try.func23, Try.ntmps23
  go_wp2_with fail
  refine (unhide HK1).mono ?_
  rintro _ wc ⟨rfl, hbc⟩
  have hB2 := (unhide HA).2.2.trans (hbc.mono (unhide HA).2.2.size)
  have tA := (unhide HA).1.keep hbc
  have tB := (unhide HA).2.1.keep hbc
  have K2 := rmay_any sz a ns c xs wc ((unhide HW).below hB2)
  rw [unhide HM2] at K2
  unfold setV at K2
  have HK2 := hide K2
  have HB2 := hide (And.intro tA (And.intro tB hB2))
  have b0 := tB.c0
  have b1 := tB.c1
  clear hbc HK1 K2 tA tB hB2 a0 a1 HA
  go_wp2_with fail
  refine (unhide HK2).mono ?_
  rintro _ wd ⟨rfl, hbd⟩
  have tA := (unhide HB2).1.keep hbd
  have tB := (unhide HB2).2.1.keep hbd
  have hB3 := (unhide HB2).2.2.trans (hbd.mono (unhide HB2).2.2.size)
  have HB3 := hide (And.intro tA (And.intro tB hB3))
  have e0 := tA.c0
  have e1 := tB.c0
  have e2 := tB.c1
  have K3 := list_any sz a ns c xs wd ((unhide HW).below hB3) hsz (unhide HNs)
  unfold setV at K3
  have HK3 := hide K3
  clear hbd HK2 b0 b1 tA tB hB3 K3 HB2
  go_wp2_with fail
  refine (unhide HK3).mono ?_
  rintro _ we ⟨b, rfl, hb1, hb2, hfn, hbel⟩
  have tA := (unhide HB3).1.keep hbel
  have tB := (unhide HB3).2.1.keep hbel
  have hB4 := ((unhide HB3).2.2.trans (hbel.mono (unhide HB3).2.2.size))
  have HB4 := hide (And.intro tA (And.intro tB (And.intro hB4 (show FnB we b 0 sz (hasB (gW xs)) from hfn))))
  have f0 := tB.c0
  have f1 := tB.c1
  have hwd := (unhide HB3).2.2.size
  have hAl := (unhide HB3).1.lt
  have K4 := elements_any sz a ns c xs we ((unhide HW).below hB4)
  rw [unhide HEl] at K4
  have hel := elsL_len (hasB (gW xs)) sz
  rw [hel] at K4
  unfold setV at K4
  have HK4 := hide K4
  have hcl := cntB_le (hasB (gW xs)) sz
  clear hfn hbel hB4 tA tB K4 HK3 HB3 e0 e1 e2 hel
  obtain ⟨c0, hc0⟩ : ∃ x, cntB (hasB (gW xs)) sz = x := ⟨_, rfl⟩
  rw [hc0] at HK4 hcl
  have HC0 := hide hc0
  clear hc0
  go_wp2_with fail
  refine (unhide HK4).mono ?_
  rintro _ wf ⟨a4, c4, rfl, hs4, hb4⟩
  have hb4s := hb4.size
  obtain ⟨base, hbase⟩ : ∃ x, wf.heap.size = x := ⟨_, rfl⟩
  have HP0 := hide (show RcSt w wf w.heap.size b base n sz aT cT L R (.slice none 0 0) (hasB (gW xs)) [] 4096 from by
    obtain ⟨q1, q2, q3, q4⟩ := unhide HB4
    exact ⟨q1.keep hb4, q4.below hb4, q3.trans (hb4.mono q3.size), by omega, World.ownsRow_nil _ _ _ _, unhide HR, by rw [unhide HC0]; omega, by rw [unhide HC0]; simp; omega⟩)
  have hle4 := hs4.le
  have hcap4 := hs4.cap
  unfold maxLen at hcap4
  have hbb2 : b < base := by omega
  have hbw : w.heap.size < b := by omega
  obtain ⟨i64, hi, hz, hs, hb⟩ := info_parts Try.info_int
  have HI := hide (And.intro hi (And.intro hz (And.intro hs hb)))
  clear hs4 hb4 HK4 HB4 f0 f1 hwa hwb hi hz hs hb hbase
  go_wp2_with fail
  go_loopg [6, 8, 9, 10, 11, 12, 13] c0 (fun gk v lf _ _ _ _ _ wr => ∃ P acc fu, lf = .int .i64 (gk : Nat) ∧ cntB P sz = gk ∧ RcSt w wr w.heap.size b base n sz aT cT L R v P acc fu)
  case atStart => exact ⟨_, _, _, rfl, unhide HC0, unhide HP0⟩
  case round =>
    obtain ⟨P, acc, fu, rfl, hcnt, hst⟩ := hrel
    clear HP0
    have HSt := hide hst
    have HCn := hide hcnt
    have hgk : gk ≤ 4096 := by have := hst.room; omega
    clear hst hcnt
    by_cases h0 : gk = 0
    · have HE := hide (show R = some acc by rw [← (unhide HSt).res]; exact covR_end ((unhide HCn).trans h0) _)
      subst h0
      go_wp2_with fail
      go_ret2
      rw [unhide HE]
      obtain ⟨av, cv, rfl, hsv⟩ := own_any (g := vI) (0 : Int) (unhide HSt).own
      exact ⟨av, _, cv, rfl, hsv, (unhide HSt).bel⟩
    · have hpos : (0 : Int) < (gk : Int) := by omega
      have hpd : decide (0 < gk) = true := by simp; omega
      obtain ⟨C, hC⟩ : ∃ C, covC sz (setP L) P = C := ⟨_, rfl⟩
      have HC := hide hC
      have HCb := hide (show ∀ i, C i ≤ 4096 from fun i => by rw [← hC]; unfold covC; have := cntB_le (fun e => P e && setP L i e) sz; omega)
      clear hC
      go_wp2_with fail
      go_loopw [11, 9, 10, 12] (fun i p q _ wr => ∃ k : Nat, k ≤ n ∧ i = .int .i64 k ∧ p = .int .i64 (pkR C k).1 ∧ q = .int .i64 ((pkR C k).2 : Nat) ∧ RcSt w wr w.heap.size b base n sz aT cT L R u6 P acc fu) (fun i _ _ _ _ => n - (intOf i).toNat)
      case atStart => exact ⟨0, Nat.zero_le _, rfl, rfl, rfl, unhide HSt⟩
      case round =>
        obtain ⟨k, hk, rfl, rfl, rfl, hst⟩ := hrel
        have t1 := hst.tab.c1
        have HS2 := hide hst
        by_cases hlt : k < n
        · have hlt' : (k : Int) < (n : Int) := by omega
          have hkl : k < L.length := by rw [(unhide HS).len]; exact hlt
          have hS3 := (unhide HS).below hst.bel
          obtain ⟨bl, off, rfl, hcells⟩ := hS3.at (by omega)
          have g1 := (hcells k hlt).1
          have g3 := (hcells k hlt).2
          have hin := hS3.get k hlt
          have hmem : L.getD k .nul ∈ L := by
            have : L.getD k .nul = L[k] := by simp [List.getD, hkl]
            rw [this]; exact List.getElem_mem hkl
          have hall := unhide HAllen _ hmem
          have hck : C k = cntB (fun e => P e && hasB (gW (L.getD k .nul).xs) e) sz := by rw [← unhide HC]; rfl
          obtain ⟨e, he⟩ : ∃ e, L.getD k .nul = e := ⟨_, rfl⟩
          rw [he] at g1 g3 hin hall hck
          obtain ⟨es, ea, en, ec, exs⟩ := e
          simp only at g1 g3 hall hck
          obtain ⟨hen, hes⟩ := hall
          subst hes
          have K := fresh_any sz ea en ec exs b P wr hin.1 hen hsz hst.row
          rw [← hck] at K
          unfold setV at K
          have HP1 := hide (fun h => pkR_skip (c := C) (n := k) h)
          have HP2 := hide (fun h => pkR_take (c := C) (n := k) h)
          have hcb4 := unhide HCb k
          have hpk := pkR_at C k
          have hp2 : (pkR C k).2 ≤ 4096 := by
            rcases hpk with h | ⟨i, h1, h2, h3, h4⟩
            · omega
            · have := unhide HCb i; omega
          generalize pkR C k = pp at *
          obtain ⟨p1, p2⟩ := pp
          simp only at hp2
          obtain ⟨ck, hckk⟩ : ∃ z, C k = z := ⟨_, rfl⟩
          rw [hckk] at K HP1 HP2 hcb4
          have HK := hide K
          clear K hst hS3 hcells hin hmem he hck hpk hckk hen
          by_cases htake : p2 < ck
          · have htake' : (p2 : Int) < (ck : Int) := by omega
            have HN := hide (unhide HP2 (by simpa using htake))
            go_wp2_with fail
            refine (unhide HK).mono ?_
            rintro _ w2 ⟨rfl, hb2⟩
            have HS3 := hide ((unhide HS2).keep hb2)
            clear hb2 HK t1 g1 g3
            go_wp2_with fail
            go_roundw
            case rel => exact ⟨k + 1, by omega, by go_num, by rw [unhide HN], by rw [unhide HN], unhide HS3⟩
            case measure => simp [intOf]; omega
          · have htake' : ¬ (p2 : Int) < (ck : Int) := by omega
            have HN := hide (unhide HP1 (by simp only; omega))
            go_wp2_with fail
            refine (unhide HK).mono ?_
            rintro _ w2 ⟨rfl, hb2⟩
            have HS3 := hide ((unhide HS2).keep hb2)
            clear hb2 HK t1 g1 g3
            go_wp2_with fail
            go_roundw
            case rel => exact ⟨k + 1, by omega, by go_num, by rw [unhide HN], by rw [unhide HN], unhide HS3⟩
            case measure => simp [intOf]; omega
        · have hlt' : ¬ (k : Int) < (n : Int) := by omega
          have hkn : k = n := by omega
          subst hkn
          clear hst
          rcases pkR_at C k with ⟨hp1, hp2⟩ | ⟨i, hp1, hp2, hp3, hp4⟩
          · have HE := hide (show R = none by rw [← (unhide HS2).res]; exact covR_none (by rw [unhide HCn]; exact h0) (unhide HS2).fuel (by rw [unhide HC, hp1]; decide))
            rw [hp1, hp2]
            clear hp1 hp2
            go_wp2_with fail
            go_ret2
            rw [unhide HE]
            exact ⟨none, 0, 0, rfl, SlG.nil _, (unhide HS2).bel⟩
          · have HE := hide (show covR sz k (setP L) (fu - 1) (fun e => P e && !setP L i e) (acc ++ [(i : Int)]) = R by rw [← (unhide HS2).res]; exact (covR_step (by rw [unhide HCn]; exact h0) (unhide HS2).fuel (by rw [unhide HC]; exact hp1)).symm)
            have hci := unhide HCb i
            have HLess := hide (show cntB (fun e => P e && !setP L i e) sz < cntB P sz from cov_less (by rw [unhide HC]; exact hp4))
            have HLeft := hide (show cntB (fun e => P e && !setP L i e) sz = gk - C i by rw [← unhide HC, ← unhide HCn]; exact cov_left)
            have hcle : C i ≤ gk := by
              have h1 := cnt_split P (setP L i) sz
              have h2 : C i = cntB (fun e => P e && setP L i e) sz := by rw [← unhide HC]; rfl
              have h3 := unhide HCn
              omega
            have hik : (i : Int) < (k : Int) := by omega
            have hi0 : (0 : Int) ≤ (i : Int) := by omega
            have hi1 : ¬ ((i : Int) < 0) := by omega
            have hroom : acc.length + 1 ≤ 5000 := by have := (unhide HS2).room; omega
            rw [hp1, hp3]
            obtain ⟨ci, hcii⟩ : ∃ z, C i = z := ⟨_, rfl⟩
            rw [hcii] at hci HLeft hcle ⊢
            have HOw := hide (unhide HS2).own
            clear hp1 hp3 hp4 hcii
            go_wp2_with (at_builtin; refine wpList_append_lies _ rfl _ _ 22 rfl base 3 i64 (.int .i64 0) 1 8 Try.underlying22 (unhide HI).1 (unhide HI).2.1 (unhide HI).2.2.1 (unhide HI).2.2.2 rfl (by decide) _ acc.length (acc.map vI) rfl ((unhide HOw).alloc _) ⟨wr.heap.size, 0, none⟩ 1 1 [.int .i64 (i : Int)] rfl rfl (World.news_of_block (alloc_block _ _)) ?c21 (by decide) ?c31 ?c41 ?c51 (wr.heap.size + 1) (by simp) ?_)
            case c21 => first | rfl | (intro u hu; simp at hu; rcases hu with rfl; rfl)
            case c31 => unfold maxLen; omega
            case c41 => omega
            case c51 => have := (unhide HS2).lt; simp; omega
            intro gb cap w3 hown hg hat hlt4
            have hst := unhide HS2
            have hB3 : Below base wr w3 := Below.grown ((Below.refl base wr).alloc hst.lt _) hg (by have := hst.lt; simp; omega) (fun j hj => (own_ge hst.own j hj).1)
            have hcg := Below.toChg hB3
            have HO3 := hide (show w3.ownsRow base 3 1 (.slice (some ⟨gb, 0, none⟩) (acc.length + 1) cap) (acc ++ [(i : Int)]).length ((acc ++ [(i : Int)]).map vI) by simpa [vI] using hown)
            have HT3 := hide (show Two w3 w.heap.size (.int .i64 sz) (.slice aT k cT) ∧ FnB w3 b 0 sz P ∧ Below w.heap.size w w3 ∧ base ≤ w3.heap.size from ⟨hst.tab.chg hcg (by omega), hst.row.chg hcg (by omega), hst.bel.trans (hB3.mono (by omega)), Nat.le_trans hst.lt hB3.size⟩)
            clear hst hown hg hat hlt4 hB3 hcg
            go_wp2_with fail
            go_loopw [13] (fun j wq => ∃ q : Nat, q ≤ sz ∧ j = .int .i64 q ∧ Two wq w.heap.size (.int .i64 sz) (.slice aT k cT) ∧ FnB wq b 0 sz (fun e => P e && !(decide (e < q) && setP L i e)) ∧ Below w.heap.size w wq ∧ base ≤ wq.heap.size ∧ wq.ownsRow base 3 1 (.slice (some ⟨gb, 0, none⟩) (acc.length + 1) cap) (acc ++ [(i : Int)]).length ((acc ++ [(i : Int)]).map vI)) (fun j _ => sz - (intOf j).toNat)
            case atStart => exact ⟨0, Nat.zero_le _, rfl, (unhide HT3).1, (unhide HT3).2.1.congr (fun e _ => by simp), (unhide HT3).2.2.1, (unhide HT3).2.2.2, unhide HO3⟩
            case round =>
              obtain ⟨q, hq, rfl, r1, r2, r3, r4, r5⟩ := hrel
              have e0 := r1.c0
              have e1 := r1.c1
              by_cases hltq : q < sz
              · have hltq' : (q : Int) < (sz : Int) := by omega
                have hS3 := (unhide HS).below r3
                obtain ⟨bl, off, rfl, hcells⟩ := hS3.at (by omega)
                have g1 := (hcells i hp2).1
                have g3 := (hcells i hp2).2
                have hin := hS3.get i hp2
                have hmem : L.getD i .nul ∈ L := by
                  have hil : i < L.length := by rw [(unhide HS).len]; exact hp2
                  have : L.getD i .nul = L[i] := by simp [List.getD, hil]
                  rw [this]; exact List.getElem_mem hil
                have hall := unhide HAllen _ hmem
                have hSP : setP L i q = hasB (fun j => (L.getD i .nul).xs.getD j 0) q := rfl
                obtain ⟨e, he⟩ : ∃ e, L.getD i .nul = e := ⟨_, rfl⟩
                rw [he] at g1 g3 hin hall hSP
                obtain ⟨es, ea, en, ec, exs⟩ := e
                simp only at g1 g3 hall hSP
                obtain ⟨hen, hes⟩ := hall
                subst hes
                have K := in_any sz ea en ec exs q wr hin.1 (by rw [hen]; unfold nW; omega) (by omega)
                rw [← hSP] at K
                unfold setV at K
                have HQ := hide (And.intro r1 (And.intro r2 (And.intro r3 (And.intro r4 r5))))
                cases hv : setP L i q
                · rw [hv] at K
                  have HK := hide K
                  have HV := hide hv
                  clear K hv hSP hen hS3 hcells hin hmem he r1 r2 r3 r4 r5
                  go_wp2_with fail
                  refine (unhide HK).mono ?_
                  rintro _ w5 ⟨rfl, hb5⟩
                  have HQ2 := hide (show Two w5 w.heap.size (.int .i64 sz) (.slice (some ⟨bl, off, none⟩) k cT) ∧ FnB w5 b 0 sz (fun e => P e && !(decide (e < q + 1) && setP L i e)) ∧ Below w.heap.size w w5 ∧ base ≤ w5.heap.size ∧ w5.ownsRow base 3 1 (.slice (some ⟨gb, 0, none⟩) (acc.length + 1) cap) (acc ++ [(i : Int)]).length ((acc ++ [(i : Int)]).map vI) from by
                    obtain ⟨r1, r2, r3, r4, r5⟩ := unhide HQ
                    refine ⟨r1.keep hb5, (r2.below hb5).congr (fun e _ => ?_), r3.trans (hb5.mono r3.size), Nat.le_trans r4 hb5.size, own_chg (S := fun _ => False) r5 (Chg.of_below hb5) (fun _ _ h => h)⟩
                    by_cases eq : e = q
                    · subst eq; rw [unhide HV]; simp
                    · by_cases el : e < q
                      · simp [el, show e < q + 1 from by omega]
                      · simp [el, show ¬ e < q + 1 from by omega])
                  clear hb5 HK e0 e1 g1 g3
                  go_wp2_with fail
                  go_roundw
                  case rel => exact ⟨q + 1, by omega, by go_num, (unhide HQ2).1, (unhide HQ2).2.1, (unhide HQ2).2.2.1, (unhide HQ2).2.2.2.1, (unhide HQ2).2.2.2.2⟩
                  case measure => simp [intOf]; omega
                · rw [hv] at K
                  have HK := hide K
                  have HV := hide hv
                  clear K hv hSP hen hS3 hcells hin hmem he r1 r2 r3 r4 r5
                  go_wp2_with fail
                  refine (unhide HK).mono ?_
                  rintro _ w5 ⟨rfl, hb5⟩
                  have r2 := (unhide HQ).2.1.below hb5
                  have i1 := (r2 q hltq).1
                  have i2 := (r2 q hltq).2
                  rw [Nat.zero_add] at i1 i2
                  unfold vB at i1
                  generalize (P q && !(decide (q < q) && setP L i q)) = old at i1
                  have HQ2 := hide (show Two (w5.setCell ⟨b, q, none⟩ (.bool false)) w.heap.size (.int .i64 sz) (.slice (some ⟨bl, off, none⟩) k cT) ∧ FnB (w5.setCell ⟨b, q, none⟩ (.bool false)) b 0 sz (fun e => P e && !(decide (e < q + 1) && setP L i e)) ∧ Below w.heap.size w (w5.setCell ⟨b, q, none⟩ (.bool false)) ∧ base ≤ (w5.setCell ⟨b, q, none⟩ (.bool false)).heap.size ∧ (w5.setCell ⟨b, q, none⟩ (.bool false)).ownsRow base 3 1 (.slice (some ⟨gb, 0, none⟩) (acc.length + 1) cap) (acc ++ [(i : Int)]).length ((acc ++ [(i : Int)]).map vI) from by
                    obtain ⟨r1, r2', r3, r4, r5⟩ := unhide HQ
                    have hcg : Chg (fun j => j = b) w5 (w5.setCell ⟨b, q, none⟩ (.bool false)) := Chg.of_set (S := fun j => j = b) _ _ _ _ rfl
                    have r3' := r3.trans (hb5.mono r3.size)
                    refine ⟨(r1.keep hb5).chg hcg (by omega), ?_, r3'.trans (hcg.below r3'.size (fun j hj => by omega)), Nat.le_trans r4 (Nat.le_trans hb5.size hcg.size), own_chg (own_chg (S := fun _ => False) r5 (Chg.of_below hb5) (fun _ _ h => h)) hcg (fun j hj => by omega)⟩
                    have := r2.set q false hltq
                    rw [Nat.zero_add] at this
                    refine this.congr (fun e _ => ?_)
                    by_cases eq : e = q
                    · subst eq; rw [unhide HV]; simp
                    · by_cases el : e < q
                      · simp [eq, el, show e < q + 1 from by omega]
                      · simp [eq, el, show ¬ e < q + 1 from by omega])
                  clear hb5 HK e0 e1 g1 g3 r2
                  go_wp2_with fail
                  go_roundw
                  case rel => exact ⟨q + 1, by omega, by go_num, (unhide HQ2).1, (unhide HQ2).2.1, (unhide HQ2).2.2.1, (unhide HQ2).2.2.2.1, (unhide HQ2).2.2.2.2⟩
                  case measure => simp [intOf]; omega
              · have hltq' : ¬ (q : Int) < (sz : Int) := by omega
                have hqn : q = sz := by omega
                subst hqn
                have HD := hide (show RcSt w wr w.heap.size b base k q aT cT L R (.slice (some ⟨gb, 0, none⟩) (acc.length + 1) cap) (fun e => P e && !setP L i e) (acc ++ [(i : Int)]) (fu - 1) from by
                  have hs2 := unhide HS2
                  have hless := unhide HLess
                  have hfu := hs2.fuel
                  have hro := hs2.room
                  exact ⟨r1, r2.congr (fun e he => by simp [he]), r3, r4, r5, unhide HE, by omega, by simp; omega⟩)
                have hci2 : ((gk : Nat) : Int) - (ci : Nat) = ((gk - ci : Nat) : Int) := by omega
                have HCI := hide hci2
                clear r1 r2 r3 r4 r5 hci2
                go_wp2_with fail
                go_roundg (gk - ci)
                case measure =>
                  have h1 := unhide HLess
                  have h2 := unhide HLeft
                  have h3 := unhide HCn
                  omega
                case rel =>
                  refine ⟨_, _, _, ?_, unhide HLeft, unhide HD⟩
                  rw [← unhide HCI]
end Go.Proofs.Ytbendkndnojihab
