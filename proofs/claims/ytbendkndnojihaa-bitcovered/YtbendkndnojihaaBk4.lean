/-
  bitset.Cover, of sets that may be: its contract.
-/
import Derived.Test.YtbendkndnojihaaBk3
import Derived.Deep.LoopGhost
import Derived.Deep.RegionHeld3
namespace Go.Proofs.Ytbendkndnojihaa
open Go.RowKit Go.Deep
set_option linter.unusedVariables false

/-- What the loop of picks holds. -/
structure PkSt (w wr : World) (T Z b m base N n cb : Nat) (sz : Nat) (aT : Option Addr) (cT : Nat) (L : List SetC) (R : Option (List Int)) (v : Value) (f : Nat → Nat) (g : Nat → Int) (P : Nat → Bool) (acc : List Int) (fu gk : Nat) : Prop where
  cnt : cntB P sz = gk
  lp : CvLp w wr T Z b m base N n cb sz aT cT f g
  rep : RepB N f P
  zero : ∀ x, sz ≤ x → P x = false
  most : ∀ i, i < n → ((covC sz (setP L) P i : Nat) : Int) ≤ g i ∧ g i ≤ 1000000
  own : wr.ownsRow base 3 1 v acc.length (acc.map vI)
  res : covR sz n (setP L) fu P acc = R
  fuel : cntB P sz ≤ fu
  room : acc.length + cntB P sz ≤ 4096
theorem has_beyond {xs : List Nat} {x : Nat} (h : xs.length ≤ x / 64) : hasB (gW xs) x = false := by
  unfold hasB gW
  simp [List.getD, List.getElem?_eq_none h]

set_option maxHeartbeats 32000000 in
/-- bitset.Cover. -/
theorem cover_yes (sz : Nat) (aT : Option Addr) (n cT : Nat) (L : List SetC) (a : Option Addr) (ns c : Nat) (xs : List Nat) (w : World) (hS : SlS w aT n cT L) (h : SlW w a ns c xs) (o : OkW xs) (m1 : MayT sz L = true) (m2 : MayS sz xs = true) :
    Calls Try.prog 38 #[setV sz aT n cT, setV sz a ns c] w fun e w' => ResI w w' (covA (covR sz n (setP L) 4096 (hasB (gW xs)) [])) e := by
  have hle := hS.le
  have hcap := hS.cap
  unfold maxLen at hcap
  have hnL : n ≤ 4096 := by rw [← hS.len]; exact MayT.len m1
  have hsz : sz ≤ 4096 := by have := MayS.fits m2; simp [fitsI] at this; omega
  have hns : ns = nW sz := by rw [← h.len, MayS.len m2]; simp
  obtain ⟨wa, hwa⟩ : ∃ x, w.alloc (.cells #[.int .i64 (sz : Int), .slice aT n cT] 27) = x := ⟨_, rfl⟩
  obtain ⟨wb, hwb⟩ : ∃ x, wa.alloc (.cells #[.int .i64 (sz : Int), .slice a ns c] 24) = x := ⟨_, rfl⟩
  have hba : Below w.heap.size w wa := by rw [← hwa]; exact (Below.refl _ _).alloc (Nat.le_refl _) _
  have hbb : Below wa.heap.size wa wb := by rw [← hwb]; exact (Below.refl _ _).alloc (Nat.le_refl _) _
  have tA : Two wb w.heap.size (.int .i64 sz) (.slice aT n cT) := Two.keep (w := wa) (by rw [← hwa]; exact Two.made _ _ _ _) hbb
  have tB : Two wb wa.heap.size (.int .i64 sz) (.slice a ns c) := by rw [← hwb]; exact Two.made _ _ _ _
  have hl1 : w.heap.size < wa.heap.size := by rw [← hwa]; simp
  have hB := hba.trans (hbb.mono hba.size)
  have K1 := mayT_any sz aT n cT L wb (hS.below hB)
  rw [m1] at K1
  have HA := hide (And.intro tA (And.intro tB hB))
  have HS := hide hS
  have HW := hide (And.intro h o)
  have HM1 := hide m1
  have HM2 := hide m2
  have HNs := hide hns
  have a0 := tA.c0
  have a1 := tA.c1
  have hmk := make_ints n (by omega)
  clear tA tB hB hba hbb hS h o m1 m2 hns
  unfold setV at K1 ⊢
  have HK1 := hide K1
  obtain ⟨R, hR⟩ : ∃ R, covR sz n (setP L) 4096 (hasB (gW xs)) [] = R := ⟨_, rfl⟩
  rw [hR]
  have HR := hide hR
  clear K1 hR
  go_enter Try.func38, Try.ntmps38
  go_wp2_with fail
  refine (unhide HK1).mono ?_
  rintro _ wc ⟨rfl, hbc⟩
  have hB2 := (unhide HA).2.2.trans (hbc.mono (unhide HA).2.2.size)
  have tA := (unhide HA).1.keep hbc
  have tB := (unhide HA).2.1.keep hbc
  have K2 := may_any sz a ns c xs wc ((unhide HW).1.below hB2) (unhide HW).2
  rw [unhide HM2] at K2
  unfold setV at K2
  have HK2 := hide K2
  have HB2 := hide (And.intro tA (And.intro tB hB2))
  have b0 := tB.c0
  have b1 := tB.c1
  clear hbc HK1 K2 tA tB hB2 a0 a1 HA
  go_wp2_with fail
  refine (unhide HK2).mono ?_
  rintro _ wd ⟨rfl, hbd⟩
  have tA := (unhide HB2).1.keep hbd
  have tB := (unhide HB2).2.1.keep hbd
  have hB3 := (unhide HB2).2.2.trans (hbd.mono (unhide HB2).2.2.size)
  have HB3 := hide (And.intro tA (And.intro tB hB3))
  have e0 := tA.c0
  have e1 := tB.c0
  have e2 := tB.c1
  have K3 := clone_any sz a ns c xs wd ((unhide HW).1.below hB3) hsz (unhide HNs)
  unfold setV at K3
  have HK3 := hide K3
  clear hbd HK2 b0 b1 tA tB hB3 K3 HB2
  go_wp2_with fail
  refine (unhide HK3).mono ?_
  rintro _ we ⟨v, rfl, b, cb, rfl, hc1, hc2, hb1, hb2, hfn, hbel⟩
  unfold setV
  obtain ⟨wf, hwf⟩ : ∃ x, we.alloc (.cells #[.int .i64 sz, .slice (some ⟨b, 0, none⟩) (nW sz) cb] 24) = x := ⟨_, rfl⟩
  have hbf : Below we.heap.size we wf := by rw [← hwf]; exact (Below.refl _ _).alloc (Nat.le_refl _) _
  have tZ : Two wf we.heap.size (.int .i64 sz) (.slice (some ⟨b, 0, none⟩) (nW sz) cb) := by rw [← hwf]; exact Two.made _ _ _ _
  have tA := ((unhide HB3).1.keep hbel).keep hbf
  have tB := ((unhide HB3).2.1.keep hbel).keep hbf
  have hB4 := ((unhide HB3).2.2.trans (hbel.mono (unhide HB3).2.2.size))
  have hB5 := hB4.trans (hbf.mono hB4.size)
  have hlt1 : we.heap.size < wf.heap.size := by rw [← hwf]; simp
  have hwd := (unhide HB3).2.2.size
  have hAl := (unhide HB3).1.lt
  have hBl := (unhide HB3).2.1.lt
  have e3 := tA.c1
  have e4 := tB.c0
  have HF := hide (And.intro tA (And.intro tB (And.intro tZ (And.intro (hfn.below hbf) hB5))))
  have HC := hide (And.intro hc1 hc2)
  have hcb : cb ≤ 9223372036854775807 := by unfold maxLen at hc2; omega
  have hbel2 := hbel.size
  clear tA tB tZ hfn hbel hbf hB4 hB5 hc1 hc2 HK3 e0 e1 e2 HB3
  go_wp2_with fail
  -- the row of the most that each had
  have HT := hide (And.intro (show FnI (wf.alloc (.cells (madeCells #[.int .i64 0] n) 3)) wf.heap.size 0 n (fun i => if i < 0 then (sz : Int) else 0) from (FnG.made wf n 3 (0 : Int) rfl).congr (fun i _ => by simp)) (And.intro (show Below wf.heap.size wf (wf.alloc (.cells (madeCells #[.int .i64 0] n) 3)) from (Below.refl _ _).alloc (Nat.le_refl _) _) (show wf.heap.size < (wf.alloc (.cells (madeCells #[.int .i64 0] n) 3)).heap.size from by simp)))
  generalize wf.alloc (.cells (madeCells #[.int .i64 0] n) 3) = wg at *
  clear hwa hwb hwf e3 e4
  go_loopw [32, 8] (fun i _ wr => ∃ k : Nat, k ≤ n ∧ i = .int .i64 k ∧ FnI wr wf.heap.size 0 n (fun i => if i < k then (sz : Int) else 0) ∧ Below wf.heap.size wf wr ∧ wf.heap.size < wr.heap.size) (fun i _ _ => n - (intOf i).toNat)
  case atStart => exact ⟨0, Nat.zero_le _, rfl, (unhide HT).1, (unhide HT).2.1, (unhide HT).2.2⟩
  case round =>
    obtain ⟨k, hk, rfl, hrow, hbl, hlt2⟩ := hrel
    by_cases hlt : k < n
    · have hlt' : (k : Int) < (n : Int) := by omega
      have e4 := ((unhide HF).2.1.keep hbl).c0
      have g1 := (hrow k hlt).1
      have g2 := (hrow k hlt).2
      rw [Nat.zero_add] at g1 g2
      unfold vI at g1
      generalize (if k < k then (sz : Int) else 0) = old at g1
      have HR := hide (show FnI (wr.setCell ⟨wf.heap.size, k, none⟩ (.int .i64 (sz : Int))) wf.heap.size 0 n (fun i => if i < k + 1 then (sz : Int) else 0) ∧ Below wf.heap.size wf (wr.setCell ⟨wf.heap.size, k, none⟩ (.int .i64 (sz : Int))) ∧ wf.heap.size < (wr.setCell ⟨wf.heap.size, k, none⟩ (.int .i64 (sz : Int))).heap.size from by
        refine ⟨?_, hbl.setCell (p := ⟨wf.heap.size, k, none⟩) (Nat.le_refl _) _, by simpa using hlt2⟩
        have := hrow.set k (sz : Int) hlt
        rw [Nat.zero_add] at this
        refine this.congr (fun i _ => ?_)
        by_cases e : i = k
        · subst e; simp
        · by_cases e2 : i < k
          · simp [e, e2, show i < k + 1 from by omega]
          · simp [e, e2, show ¬ i < k + 1 from by omega])
      clear hrow hbl
      go_wp2_with fail
      exact ⟨⟨k + 1, by omega, by go_num, (unhide HR).1, (unhide HR).2.1, (unhide HR).2.2⟩, by simp [intOf]; omega⟩
    · have hlt' : ¬ (k : Int) < (n : Int) := by omega
      have hkn : k = n := by omega
      subst hkn
      -- the loop of picks
      obtain ⟨qA, qB, qZ, qR, qW⟩ := unhide HF
      have hT0 : w.heap.size < wf.heap.size := by omega
      obtain ⟨N, hN⟩ : ∃ N, nW sz = N := ⟨_, rfl⟩
      have hN64 : N ≤ 64 := by rw [← hN]; unfold nW; omega
      obtain ⟨base, hbase⟩ : ∃ x, wr.heap.size = x := ⟨_, rfl⟩
      rw [hN] at HC qZ qR ⊢
      have HNN := hide hN.symm
      have hf0 : ∀ i, i < N → (fun i => xs.getD i 0) i < 18446744073709551616 := fun i _ => gW_ok (unhide HW).2 i
      have HInit := hide (show CvLp w wr w.heap.size we.heap.size b wf.heap.size base N k cb sz aT cT (fun i => xs.getD i 0) (fun i => if i < k then (sz : Int) else 0) from
        ⟨qA.keep hbl, qZ.keep hbl, qR.below hbl, hrow, qW.trans (hbl.mono qW.size), by omega⟩)
      have HRep := hide (show RepB N (fun i => xs.getD i 0) (hasB (gW xs)) from RepB.self hf0)
      have HZ := hide (show ∀ x, sz ≤ x → x < 64 * N → hasB (gW xs) x = false from fun x h1 h2 => MayS.zero (unhide HM2) x (by simpa using h1) (by rw [MayS.len (unhide HM2)]; simpa [hN] using h2))
      have HP0 := hide (show PkSt w wr w.heap.size we.heap.size b wf.heap.size base N k cb sz aT cT L (covR sz k (setP L) 4096 (hasB (gW xs)) []) (.slice none 0 0) (fun i => xs.getD i 0) (fun i => if i < k then (sz : Int) else 0) (hasB (gW xs)) [] 4096 (cntB (hasB (gW xs)) sz) from by
        have hc := cntB_le (hasB (gW xs)) sz
        refine ⟨rfl, unhide HInit, unhide HRep, fun x hx => ?_, fun i hi => ?_, World.ownsRow_nil _ _ _ _, rfl, by omega, by simp; omega⟩
        · by_cases h2 : x < 64 * N
          · exact unhide HZ x hx h2
          · refine has_beyond ?_
            rw [MayS.len (unhide HM2)]
            have := unhide HNN
            simp
            omega
        · simp only [if_pos hi]
          have := cntB_le (fun e => hasB (gW xs) e && setP L i e) sz
          unfold covC
          omega)
      have hbb2 : b < wf.heap.size := by omega
      have hbw : w.heap.size ≤ b := by omega
      have hlt3 : wf.heap.size < base := by omega
      have HAllen := hide (show ∀ e ∈ L, e.n = N ∧ MayS e.s e.xs = true ∧ e.s = sz from fun e he => by
        have hm := MayT.all (unhide HM1) e he
        have hin := (unhide HS).all e he
        refine ⟨?_, hm.1, hm.2⟩
        rw [← hin.1.len, MayS.len hm.1, hm.2]
        simpa using (unhide HNN).symm)
      obtain ⟨i64, hi, hz, hs, hb⟩ := info_parts Try.info_int
      have HI := hide (And.intro hi (And.intro hz (And.intro hs hb)))
      rw [unhide HR] at HP0
      generalize hP0 : cntB (hasB (gW xs)) sz = c0 at *
      have hwab : wa.heap.size < wf.heap.size := by omega
      have hwab2 : we.heap.size < wf.heap.size := hlt1
      have hbZ : we.heap.size ≠ b := by omega
      have hbT : w.heap.size ≠ b := by have := (unhide HF).1.lt; omega
      clear HInit HRep HZ qA qB qZ qR qW hrow hbl HF HT hP0 hf0 hi hz hs hb hN
      go_wp2_with fail
      go_loopg [9, 10] c0 (fun gk v _ wr => ∃ f g P acc fu, PkSt w wr w.heap.size we.heap.size b wf.heap.size base N k cb sz aT cT L R v f g P acc fu gk)
      case atStart => exact ⟨_, _, _, _, _, unhide HP0⟩
      case round =>
        obtain ⟨f, g, P, acc, fu, hst⟩ := hrel
        clear HP0
        have hcN := unhide HNN
        have hgk : gk ≤ 4096 := by have := hst.room; have := hst.cnt; omega
        have l1 := hst.lp.lef.c1
        have hsl : SlW wr (some ⟨b, 0, none⟩) N cb (lstG f N) := hst.lp.row.sl (unhide HC).1 (unhide HC).2
        have okf : OkW (lstG f N) := by
          intro x hx
          obtain ⟨i, hi, rfl⟩ := List.mem_map.1 hx
          exact (hst.rep i (List.mem_range.1 hi)).1
        have K := count_any (some ⟨b, 0, none⟩) N cb (lstG f N) wr hsl okf (by omega)
        rw [rep_count hst.rep hcN hst.zero, hst.cnt] at K
        have HK := hide K
        have HSt := hide hst
        clear K hsl okf hst hcN
        by_cases h0 : gk = 0
        · have HE := hide (show R = some acc by rw [← (unhide HSt).res]; exact covR_end ((unhide HSt).cnt.trans h0) _)
          subst h0
          go_wp2_with fail
          refine (unhide HK).mono ?_
          rintro _ w' ⟨rfl, hw⟩
          obtain rfl := hw.symm
          go_wp2_with fail
          go_ret2
          rw [unhide HE]
          obtain ⟨av, cv, rfl, hsv⟩ := own_any (g := vI) (0 : Int) (unhide HSt).own
          exact ⟨av, _, cv, rfl, hsv, (unhide HSt).lp.bel⟩
        · have hpos : (0 : Int) < (gk : Int) := by omega
          have hst := unhide HSt
          have t0 := hst.lp.tab.c0
          have t1 := hst.lp.tab.c1
          have l0 := hst.lp.lef.c0
          have hcong : pkR (shC N (hasB f) L) k = pkR (covC sz (setP L) P) k := pkR_congr (fun i _ => rep_shared hst.rep (unhide HNN) hst.zero i)
          have KP := pick_any sz aT k cT L b N cb wf.heap.size k f w wr (unhide HS) hst.lp.bel (by omega) (by omega) (by have := hst.lp.lt; omega) hN64 (fun e he => (unhide HAllen e he).1) hst.lp.row (fun i hi => (hst.rep i hi).1) (unhide HC).1 (unhide HC).2 (by unfold maxLen; omega) (Nat.le_refl _) g hst.lp.most (fun i hi => by rw [rep_shared hst.rep (unhide HNN) hst.zero i]; exact hst.most i hi)
          rw [hcong] at KP
          have HMs := hide (fun i => rep_shared (L := L) hst.rep (unhide HNN) hst.zero i)
          unfold setV at KP
          have hpk := pkR_at (covC sz (setP L) P) k
          have HKP := hide KP
          clear KP hst hcong
          rcases hpk with ⟨hp1, hp2⟩ | ⟨i, hp1, hp2, hp3, hp4⟩
          · have HE := hide (show R = none by rw [← (unhide HSt).res]; exact covR_none (by rw [(unhide HSt).cnt]; exact h0) (unhide HSt).fuel (by rw [hp1]; decide))
            rw [hp1] at HKP
            clear hp1 hp2
            go_wp2_with fail
            refine (unhide HK).mono ?_
            rintro _ w' ⟨rfl, hw⟩
            obtain rfl := hw.symm
            go_wp2_with fail
            refine (unhide HKP).mono ?_
            rintro _ w2 ⟨rfl, _, hcg⟩
            have HB := hide ((unhide HSt).lp.bel.trans (hcg.below (unhide HSt).lp.bel.size (fun j hj => by omega)))
            clear hcg HKP
            go_wp2_with fail
            go_ret2
            rw [unhide HE]
            exact ⟨none, 0, 0, rfl, SlG.nil _, unhide HB⟩
          · rw [hp1] at HKP
            have HE := hide (show covR sz k (setP L) (fu - 1) (fun e => P e && !setP L i e) (acc ++ [(i : Int)]) = R by rw [← (unhide HSt).res]; exact (covR_step (by rw [(unhide HSt).cnt]; exact h0) (unhide HSt).fuel hp1).symm)
            have HLess := hide (cov_less hp4)
            have hik : (i : Int) < (k : Int) := by omega
            have hi0 : (0 : Int) ≤ (i : Int) := by omega
            clear hp1 hp3 hp4
            go_wp2_with fail
            refine (unhide HK).mono ?_
            rintro _ w' ⟨rfl, hw⟩
            obtain rfl := hw.symm
            go_wp2_with fail
            refine (unhide HKP).mono ?_
            rintro _ w2 ⟨rfl, ⟨g2, hg2, hgc2⟩, hcg⟩
            have hst := unhide HSt
            have hCv : CvLp w w2 w.heap.size we.heap.size b wf.heap.size base N k cb sz aT cT f g2 := ⟨hst.lp.tab.chg hcg (by omega), hst.lp.lef.chg hcg (by omega), hst.lp.row.chg hcg (by omega), hg2, hst.lp.bel.trans (hcg.below hst.lp.bel.size (fun j hj => by omega)), Nat.le_trans hst.lp.lt hcg.size⟩
            have hOw := own_chg hst.own hcg (fun j hj => by omega)
            have hroom : acc.length + 1 ≤ 5000 := by have := hst.room; omega
            have HCv := hide hCv
            have HOw := hide hOw
            have HG2 := hide hgc2
            clear hcg HKP hst hCv hOw hg2 hgc2 t0 t1 l0 l1 HK
            go_wp2_with (at_builtin; refine wpList_append_lies _ rfl _ _ 42 rfl base 3 i64 (.int .i64 0) 1 8 Try.underlying42 (unhide HI).1 (unhide HI).2.1 (unhide HI).2.2.1 (unhide HI).2.2.2 rfl (by decide) _ acc.length (acc.map vI) rfl ((unhide HOw).alloc _) ⟨w2.heap.size, 0, none⟩ 1 1 [.int .i64 (i : Int)] rfl rfl (World.news_of_block (alloc_block _ _)) ?c21 (by decide) ?c31 ?c41 ?c51 (w2.heap.size + 1) (by simp) ?_)
            case c21 => intro u hu; simp at hu; rcases hu with rfl; rfl
            case c31 => unfold maxLen; omega
            case c41 => omega
            case c51 => have := (unhide HCv).lt; simp; omega
            intro gb cap w3 hown hg hat hlt4
            have hB3 : Below base w2 w3 := Below.grown ((Below.refl base w2).alloc (unhide HCv).lt _) hg (by have := (unhide HCv).lt; simp; omega) (fun j hj => (own_ge (unhide HOw) j hj).1)
            have hCv3 := (unhide HCv).chg (Below.toChg hB3) (by omega) (by omega) (by omega) (by omega) (fun j hj => by omega)
            have hown' : w3.ownsRow base 3 1 (.slice (some ⟨gb, 0, none⟩) (acc.length + 1) cap) (acc ++ [(i : Int)]).length ((acc ++ [(i : Int)]).map vI) := by
              simpa [vI] using hown
            have HOw3 := hide hown'
            have hS3 := (unhide HS).below hCv3.bel
            obtain ⟨bl, off, rfl, hcells⟩ := hS3.at (by omega)
            have g1 := (hcells i hp2).1
            have g3 := (hcells i hp2).2
            have hin0 := (unhide HS).get i hp2
            have hin := hS3.get i hp2
            have hmem : L.getD i .nul ∈ L := by
              have hil : i < L.length := by rw [(unhide HS).len]; exact hp2
              have : L.getD i .nul = L[i] := by simp [List.getD, hil]
              rw [this]; exact List.getElem_mem hil
            have hall := unhide HAllen _ hmem
            have hSP : setP L i = hasB (gW (L.getD i .nul).xs) := rfl
            obtain ⟨e, he⟩ : ∃ e, L.getD i .nul = e := ⟨_, rfl⟩
            rw [he] at g1 g3 hin hin0 hall hSP
            obtain ⟨es, ea, en, ec, exs⟩ := e
            simp only at g1 g3 hall hSP
            obtain ⟨hen, hmy, hes⟩ := hall
            subst hen
            subst hes
            have hdr : Below w3.heap.size w3 w3.drew := (Below.refl _ _).drew
            have hblw : bl < w.heap.size := by
              obtain ⟨bl', off', e', k'⟩ := (unhide HS).at (by omega)
              cases e'
              exact World.block_lt_of_cell? _ _ (k' i hp2).1
            have hblb : bl ≠ b := by omega
            have KJ := join_andNot (sz : Int) (sz : Int) b en cb f ea en ec exs w3.drew (hCv3.row.below hdr) (fun i hi => ((unhide HSt).rep i hi).1) (hin.1.below hdr) hin.2 (Nat.le_refl _) hN64 (fun h0 x hx => by
              obtain ⟨b9, o9, e9, k9⟩ := SlG.at hin0.1 h0
              have e9' : ea = some ⟨b9, o9, none⟩ := e9
              rw [e9'] at hx
              cases hx
              have := World.block_lt_of_cell? _ _ (k9 0 h0)
              have h9 : b9 < w.heap.size := this
              show b9 ≠ b
              omega) (unhide HC).2 (unhide HC).1
            unfold setV at KJ
            have HKJ := hide KJ
            have HCv3 := hide hCv3
            have l0 := hCv3.lef.c0
            have l1 := hCv3.lef.c1
            have t1 := hCv3.tab.c1
            have HIn := hide hin.2
            have HLen := hide (hin.1.len)
            have HSP := hide hSP
            clear hown hg hat hlt4 hB3 hCv3 hown' hS3 hcells hin0 hin hmem he hSP hmy hdr KJ HOw
            go_wp2_with fail
            go_region_held3 (fun w' => w'.cell? ⟨we.heap.size, 0, none⟩ = some (.int .i64 (sz : Int)) ∧ w'.cell? ⟨we.heap.size, 1, none⟩ = some (.slice (some ⟨b, 0, none⟩) en cb) ∧ w'.cell? ⟨w.heap.size, 1, none⟩ = some (.slice (some ⟨bl, off, none⟩) k cT) ∧ w'.cell? ⟨bl, off + i * 2, none⟩ = some (.int .i64 (sz : Int)) ∧ w'.cell? ⟨bl, off + i * 2 + 1, none⟩ = some (.slice ea en ec)) (go_keep)
              (first | (go_at_call 72; refine (unhide HKJ).mono ?_; rintro _ w5 ⟨rfl, hf5, hc5⟩; have z1 := hc5.cell (by omega) (show w3.drew.cell? ⟨we.heap.size, 0, none⟩ = some (.int .i64 (sz : Int)) from l0); have z2 := hc5.cell (by omega) (show w3.drew.cell? ⟨we.heap.size, 1, none⟩ = some (.slice (some ⟨b, 0, none⟩) en cb) from l1); have z3 := hc5.cell (by omega) (show w3.drew.cell? ⟨w.heap.size, 1, none⟩ = some (.slice (some ⟨bl, off, none⟩) k cT) from t1); have z4 := hc5.cell hblb (show w3.drew.cell? ⟨bl, off + i * 2, none⟩ = some (.int .i64 (sz : Int)) from g1); have z5 := hc5.cell hblb (show w3.drew.cell? ⟨bl, off + i * 2 + 1, none⟩ = some (.slice ea en ec) from g3); have HW5 := hide (And.intro hf5 hc5); clear hf5 hc5))
            all_goals
              have HD := hide (show PkSt w w5 w.heap.size we.heap.size b wf.heap.size base en k cb sz (some ⟨bl, off, none⟩) cT L R (.slice (some ⟨gb, 0, none⟩) (acc.length + 1) cap) (jnF jAndNot f exs en) g2 (fun e => P e && !setP L i e) (acc ++ [(i : Int)]) (fu - 1) (cntB (fun e => P e && !setP L i e) sz) from by
                obtain ⟨hf5, hc5⟩ := unhide HW5
                have hst := unhide HSt
                have c3 := unhide HCv3
                have hdr : Below w3.heap.size w3 w3.drew := (Below.refl _ _).drew
                have hd1 : Below w.heap.size w w3.drew := c3.bel.drew
                have hless := unhide HLess
                have hfu := hst.fuel
                have hro := hst.room
                refine ⟨rfl, ⟨(c3.tab.keep hdr).chg hc5 (by omega), (c3.lef.keep hdr).chg hc5 (by omega), hf5, (c3.most.below hdr).chg hc5 (by omega), hd1.trans (hc5.below hd1.size (fun j hj => by omega)), Nat.le_trans c3.lt hc5.size⟩, ?_, fun x hx => by rw [hst.zero x hx]; rfl, fun i' hi' => ?_, own_chg (own_chg (S := fun _ => False) (unhide HOw3) (Chg.of_below hdr) (fun _ _ h => h)) hc5 (fun j hj => by omega), unhide HE, by omega, by simp; omega⟩
                · have := jn_rep (op := fun x y => x && !y) (fun x y hx hy => jAndNot_bits x y hx hy) hst.rep (unhide HLen) (unhide HIn)
                  rw [unhide HSP]
                  exact this
                · have h1 := unhide HG2 i' hi'
                  have h2 := unhide HMs i'
                  have h3 := cov_mono (sz := sz) (S := setP L) (P := P) (i := i) (j := i')
                  rw [h2] at h1
                  omega)
              clear z1 z2 z3 z4 z5
              go_wp2_with fail
              go_roundg (cntB (fun e => P e && !setP L i e) sz)
              case measure => have h1 := unhide HLess; have h2 := (unhide HSt).cnt; omega
              case rel => exact ⟨_, _, _, _, _, unhide HD⟩
end Go.Proofs.Ytbendkndnojihaa
