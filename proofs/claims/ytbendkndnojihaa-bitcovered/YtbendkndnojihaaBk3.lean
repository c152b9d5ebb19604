/-
  bitset.Cover: its contract.
-/
import Derived.Test.YtbendkndnojihaaBk1
import Derived.Test.YtbendkndnojihaaBn2
import Derived.Test.YtbendkndnojihaaBti
import Derived.Test.YtbendkndnojihaaBu1
import Derived.Test.YtbendkndnojihaaBtm
import Derived.Test.YtbendkndnojihaaBto
import Derived.Test.YtbendkndnojihaaBtc
import Derived.Test.YtbendkndnojihaaBp0
namespace Go.Proofs.Ytbendkndnojihaa
open Go.RowKit Go.Deep
set_option linter.unusedVariables false

def andP (P Q : Nat → Bool) (e : Nat) : Bool := P e && Q e
theorem and_words (x1 x2 : List Nat) (n : Nat) : cntB (andP (hasB (gW x1)) (hasB (gW x2))) (64 * (n + 1)) = cntB (andP (hasB (gW x1)) (hasB (gW x2))) (64 * n) + pc64 (gW x1 n &&& gW x2 n) := by
  rw [show 64 * (n + 1) = 64 * n + 64 from by omega, cntB_add]
  congr 1
  unfold pc64
  apply cntB_congr
  intro x hx
  unfold andP hasB
  rw [show (64 * n + x) / 64 = n from by omega, show (64 * n + x) % 64 = x from by omega, Nat.testBit_and]

set_option maxHeartbeats 2000000 in
/-- bitset.shared. -/
theorem shared_any (a1 : Option Addr) (n1 c1 : Nat) (x1 : List Nat) (a2 : Option Addr) (n2 c2 : Nat) (x2 : List Nat) (w : World) (h1 : SlW w a1 n1 c1 x1) (h2 : SlW w a2 n2 c2 x2) (o1 : OkW x1) (o2 : OkW x2) (hn : n2 ≤ n1) (hm : n1 ≤ 1000000) :
    Calls Try.prog 85 #[.slice a1 n1 c1, .slice a2 n2 c2] w fun e w' => e = .returned (.int .i64 (cntB (andP (hasB (gW x1)) (hasB (gW x2))) (64 * n2) : Nat)) ∧ w' = w := by
  have hle1 := h1.le
  have hle := h2.le
  have hcap := h2.cap
  have hcap1 := h1.cap
  unfold maxLen at hcap hcap1
  have HS := hide (And.intro h1 h2)
  have HO := hide (And.intro o1 o2)
  clear h1 h2 o1 o2
  go_enter Try.func85, Try.ntmps85
  go_wp2_with fail
  go_loopw [10, 5, 6, 7] (fun i v _ _ wr => ∃ k : Nat, k ≤ n2 ∧ i = .int .i64 k ∧ v = .int .i64 (cntB (andP (hasB (gW x1)) (hasB (gW x2))) (64 * k) : Nat) ∧ wr = w) (fun i _ _ _ _ => n2 - (intOf i).toNat)
  case atStart => exact ⟨0, Nat.zero_le _, rfl, rfl, rfl⟩
  case round =>
    obtain ⟨k, hk, rfl, rfl, rfl⟩ := hrel
    by_cases hlt : k < n2
    · have hlt' : (k : Int) < (n2 : Int) := by omega
      have hlt1 : (k : Int) < (n1 : Int) := by omega
      obtain ⟨b, off, rfl, hc⟩ := (unhide HS).2.at (by omega)
      obtain ⟨b1, off1, rfl, hc1⟩ := (unhide HS).1.at (by omega)
      have g := hc k hlt
      have g1 := hc1 k (by omega)
      have e1 : x1.getD k 0 = gW x1 k := rfl
      have e2 : x2.getD k 0 = gW x2 k := rfl
      rw [e2] at g
      rw [e1] at g1
      have hx := gW_ok (unhide HO).1 k
      have hy := gW_ok (unhide HO).2 k
      have HE := hide (and_words x1 x2 k)
      have hb := cntB_le (andP (hasB (gW x1)) (hasB (gW x2))) (64 * k)
      have hp := pc64_le (gW x1 k &&& gW x2 k)
      have ha := u64_and_nat (gW x1 k) (gW x2 k) hx hy
      have K := ones64_any (gW x1 k &&& gW x2 k) wr (and_lt64 hx)
      unfold vU at g g1
      generalize cntB (andP (hasB (gW x1)) (hasB (gW x2))) (64 * k) = u at *
      generalize gW x1 k = x at *
      generalize gW x2 k = y at *
      generalize (x &&& y) = z at *
      generalize pc64 z = v at *
      have HK := hide K
      clear hc hc1 K hx hy e1 e2
      go_wp2_with fail
      refine (unhide HK).mono ?_
      rintro _ w' ⟨rfl, hw⟩
      obtain rfl := hw.symm
      go_wp2_with fail
      refine ⟨⟨k + 1, by omega, by go_num, ?_, by first | trivial | rfl⟩, by simp [intOf]; omega⟩
      rw [unhide HE]
      go_num
    · have hlt' : ¬ (k : Int) < (n2 : Int) := by omega
      have hkn : k = n2 := by omega
      subst hkn
      obtain ⟨u, hu⟩ : ∃ u, cntB (andP (hasB (gW x1)) (hasB (gW x2))) (64 * k) = u := ⟨_, rfl⟩
      rw [hu]
      have HU := hide hu
      clear hu
      go_wp2_with fail
      go_ret
      rw [unhide HU]
      exact ⟨rfl, rfl⟩

/-- The sets of a list. -/
def setP (L : List SetC) (i : Nat) : Nat → Bool := hasB (gW (L.getD i .nul).xs)
/-- How many are shared, by the words. -/
def shC (N : Nat) (f : Nat → Bool) (L : List SetC) (i : Nat) : Nat := cntB (andP f (setP L i)) (64 * N)
theorem shC_le (N : Nat) (f : Nat → Bool) (L : List SetC) (i : Nat) : shC N f L i ≤ 64 * N := cntB_le _ _

/-- In the loop of pick. -/
structure PkLp (w0 w wr : World) (T Z : Nat) (vt : Value) (sz : Int) (s : Int) (b N cb m n : Nat) (aT : Option Addr) (cT : Nat) (f : Nat → Nat) (c : Nat → Nat) : Prop where
  tab : Two wr T (.int .i64 sz) (.slice aT n cT)
  lef : Two wr Z (.int .i64 s) (.slice (some ⟨b, 0, none⟩) N cb)
  row : FnW wr b 0 N f
  most : ∃ g : Nat → Int, FnI wr m 0 n g ∧ ∀ i, i < n → (c i : Int) ≤ g i ∧ g i ≤ 1000000
  bel : Below w0.heap.size w0 wr
  chg : Chg (fun j => j = m) w wr
  mlt : m < wr.heap.size
theorem PkLp.keep {w0 w wr w' : World} {T Z : Nat} {vt : Value} {sz s : Int} {b N cb m n : Nat} {aT : Option Addr} {cT : Nat} {f : Nat → Nat} {c : Nat → Nat} (h : PkLp w0 w wr T Z vt sz s b N cb m n aT cT f c) (k : Below wr.heap.size wr w') : PkLp w0 w w' T Z vt sz s b N cb m n aT cT f c :=
  ⟨h.tab.keep k, h.lef.keep k, h.row.below k, by obtain ⟨g, h1, h2⟩ := h.most; exact ⟨g, h1.below k, h2⟩, h.bel.trans (k.mono h.bel.size), h.chg.trans (Chg.of_below k), Nat.lt_of_lt_of_le h.mlt k.size⟩
theorem PkLp.put {w0 w wr : World} {T Z : Nat} {vt : Value} {sz s : Int} {b N cb m n : Nat} {aT : Option Addr} {cT : Nat} {f : Nat → Nat} {c : Nat → Nat} (h : PkLp w0 w wr T Z vt sz s b N cb m n aT cT f c) (k : Nat) (hk : k < n) (hc : c k ≤ 1000000) (hT : T ≠ m) (hZ : Z ≠ m) (hb : b ≠ m) (hm : w0.heap.size ≤ m) :
    PkLp w0 w (wr.setCell ⟨m, k, none⟩ (.int .i64 (c k : Nat))) T Z vt sz s b N cb m n aT cT f c := by
  obtain ⟨g, h1, h2⟩ := h.most
  refine ⟨h.tab.other m k _ (fun e => hT e.symm), h.lef.other m k _ (fun e => hZ e.symm), h.row.other m k _ (fun e => hb e.symm), ⟨fun i => if i = k then (c k : Nat) else g i, ?_, fun i hi => ?_⟩, h.bel.setCell (p := ⟨m, k, none⟩) hm _, h.chg.trans (Chg.of_set (S := fun j => j = m) _ _ _ _ rfl), by simpa using h.mlt⟩
  · have := h1.set k ((c k : Nat) : Int) hk
    rw [Nat.zero_add] at this
    exact this
  · by_cases e : i = k
    · subst e; simp; omega
    · simp [e]; exact h2 i hi

set_option maxHeartbeats 8000000 in
/-- bitset.pick. -/
theorem pick_any (sz : Nat) (aT : Option Addr) (n cT : Nat) (L : List SetC) (b N cb m cm : Nat) (f : Nat → Nat) (w0 w : World) (hS : SlS w0 aT n cT L) (hw0 : Below w0.heap.size w0 w) (hm : w0.heap.size ≤ m) (hbm : b ≠ m) (hmw : m < w.heap.size) (hN : N ≤ 64)
    (hlen : ∀ e ∈ L, e.n = N) (hf : FnW w b 0 N f) (hflt : ∀ i, i < N → f i < 18446744073709551616) (hNc : N ≤ cb) (hcb : cb ≤ maxLen) (hcm : cm ≤ maxLen) (hnm : n ≤ cm)
    (g : Nat → Int) (hg : FnI w m 0 n g) (hgc : ∀ i, i < n → ((shC N (hasB f) L i : Nat) : Int) ≤ g i ∧ g i ≤ 1000000) :
    Calls Try.prog 71 #[setV sz aT n cT, setV sz (some ⟨b, 0, none⟩) N cb, .slice (some ⟨m, 0, none⟩) n cm] w fun e w' => e = .returned (.int .i64 (pkR (shC N (hasB f) L) n).1) ∧
      (∃ g' : Nat → Int, FnI w' m 0 n g' ∧ ∀ i, i < n → ((shC N (hasB f) L i : Nat) : Int) ≤ g' i ∧ g' i ≤ 1000000) ∧ Chg (fun j => j = m) w w' := by
  have hle := hS.le
  have hcap := hS.cap
  unfold maxLen at hcap hcb hcm
  obtain ⟨wa, hwa⟩ : ∃ x, w.alloc (.cells #[.int .i64 (sz : Int), .slice aT n cT] 27) = x := ⟨_, rfl⟩
  obtain ⟨wb, hwb⟩ : ∃ x, wa.alloc (.cells #[.int .i64 (sz : Int), .slice (some ⟨b, 0, none⟩) N cb] 24) = x := ⟨_, rfl⟩
  have hba : Below w.heap.size w wa := by rw [← hwa]; exact (Below.refl _ _).alloc (Nat.le_refl _) _
  have hbb : Below wa.heap.size wa wb := by rw [← hwb]; exact (Below.refl _ _).alloc (Nat.le_refl _) _
  have tA : Two wb w.heap.size (.int .i64 sz) (.slice aT n cT) := Two.keep (w := wa) (by rw [← hwa]; exact Two.made _ _ _ _) hbb
  have tB : Two wb wa.heap.size (.int .i64 sz) (.slice (some ⟨b, 0, none⟩) N cb) := by rw [← hwb]; exact Two.made _ _ _ _
  have hl1 : w.heap.size < wa.heap.size := by rw [← hwa]; simp
  have hB := hba.trans (hbb.mono hba.size)
  have HL := hide (show PkLp w0 w wb w.heap.size wa.heap.size undef sz sz b N cb m n aT cT f (shC N (hasB f) L) from
    ⟨tA, tB, hf.below hB, ⟨g, hg.below hB, hgc⟩, hw0.trans (hB.mono hw0.size), Chg.of_below hB, Nat.lt_of_lt_of_le hmw hB.size⟩)
  have HS := hide hS
  have HLen := hide hlen
  have HFl := hide (show ∀ i, i < N → f i < 18446744073709551616 from hflt)
  have HSn := hide hS.len
  have hT : w.heap.size ≠ m := by omega
  have hZ : wa.heap.size ≠ m := by omega
  have a0 := tA.c0
  have a1 := tA.c1
  obtain ⟨c, hcc⟩ : ∃ c, shC N (hasB f) L = c := ⟨_, rfl⟩
  rw [hcc] at HL ⊢
  have HC := hide hcc
  have HCb := hide (show ∀ i, c i ≤ 4096 from fun i => by rw [← hcc]; have := shC_le N (hasB f) L i; omega)
  clear tA tB hB hba hbb hS hlen hflt hf hg hgc hcc hw0
  unfold setV
  go_enter Try.func71, Try.ntmps71
  go_wp2_with fail
  clear a0 a1 hwa hwb
  go_loopw [14, 7, 8, 9, 10] (fun i p q _ _ wr => ∃ k : Nat, k ≤ n ∧ i = .int .i64 k ∧ p = .int .i64 (pkR c k).1 ∧ q = .int .i64 ((pkR c k).2 : Nat) ∧ PkLp w0 w wr w.heap.size wa.heap.size undef sz sz b N cb m n aT cT f c) (fun i _ _ _ _ _ => n - (intOf i).toNat)
  case atStart => exact ⟨0, Nat.zero_le _, rfl, rfl, rfl, unhide HL⟩
  case round =>
    obtain ⟨k, hk, rfl, rfl, rfl, hst⟩ := hrel
    by_cases hlt : k < n
    · have hlt' : (k : Int) < (n : Int) := by omega
      have hkl : k < L.length := by rw [unhide HSn]; exact hlt
      have hS2 := (unhide HS).below hst.bel
      obtain ⟨bl, off, rfl, hcells⟩ := hS2.at (by omega)
      have g1 := (hcells k hlt).1
      have g2 := (hcells k hlt).2
      have hin := hS2.get k hlt
      have hmem : L.getD k .nul ∈ L := by
        have : L.getD k .nul = L[k] := by simp [List.getD, hkl]
        rw [this]; exact List.getElem_mem hkl
      have hen := unhide HLen _ hmem
      have hck : c k = cntB (andP (hasB f) (hasB (gW (L.getD k .nul).xs))) (64 * N) := by rw [← unhide HC]; rfl
      obtain ⟨e, he⟩ : ∃ e, L.getD k .nul = e := ⟨_, rfl⟩
      rw [he] at g1 g2 hin hen hck
      obtain ⟨es, ea, en, ec, exs⟩ := e
      simp only at g1 g2 hen hck
      subst hen
      obtain ⟨g, hg, hgc⟩ := hst.most
      have gm := (hg k hlt).1
      have gf := (hg k hlt).2
      rw [Nat.zero_add] at gm gf
      have hgk := hgc k hlt
      unfold vI at gm
      have hcb4 := unhide HCb k
      have hpk := pkR_at c k
      have hp2 : (pkR c k).2 ≤ 4096 := by
        rcases hpk with h | ⟨i, h1, h2, h3, h4⟩
        · omega
        · have := unhide HCb i; omega
      generalize g k = mk at *
      have hal : Below wr.heap.size wr (wr.alloc (.cells #[.int .i64 es, .slice ea en ec] 24)) := (Below.refl _ _).alloc (Nat.le_refl _) _
      have hst2 := hst.keep hal
      have tS : Two (wr.alloc (.cells #[.int .i64 es, .slice ea en ec] 24)) wr.heap.size (.int .i64 es) (.slice ea en ec) := Two.made _ _ _ _
      have gm2 := below_cell hal gm
      have gf2 : (wr.alloc (.cells #[.int .i64 es, .slice ea en ec] 24)).frozen? ⟨m, k, none⟩ = false := by rw [hal.frozen hst.mlt]; exact gf
      have hin2 := hin.1.below hal
      obtain ⟨ws, hws⟩ : ∃ x, wr.alloc (.cells #[.int .i64 es, .slice ea en ec] 24) = x := ⟨_, rfl⟩
      rw [hws] at hst2 tS gm2 gf2 hin2
      have HP1 := hide (fun h => pkR_skip (c := c) (n := k) h)
      have HP2 := hide (fun h => pkR_take (c := c) (n := k) h)
      generalize hpp : pkR c k = pp at *
      obtain ⟨p1, p2⟩ := pp
      simp only at hp2
      have HPP := hide hpp
      have HS2 := hide hst2
      have HOk := hide hin.2
      clear hcells hin he hst hS2 hg hgc hal hmem hpp hpk gm gf
      by_cases hskip : mk ≤ (p2 : Int)
      · have HN := hide (unhide HP1 (by simp only; omega))
        have hst3 := unhide HS2
        clear tS hin2 hst2 hst3 gf2
        go_wp2_with fail
        refine ⟨⟨k + 1, by omega, by go_num, by rw [unhide HN], by rw [unhide HN], unhide HS2⟩, by simp [intOf]; omega⟩
      · have hskip' : (p2 : Int) < mk := by omega
        have hrow := hst2.row
        have l1 := hst2.lef.c1
        have s1 := tS.c1
        have hsl : SlW ws (some ⟨b, 0, none⟩) en cb (lstG f en) := hrow.sl hNc (by unfold maxLen; omega)
        have okf : OkW (lstG f en) := by
          intro x hx
          obtain ⟨i, hi, rfl⟩ := List.mem_map.1 hx
          exact unhide HFl i (List.mem_range.1 hi)
        have K := shared_any (some ⟨b, 0, none⟩) en cb (lstG f en) ea en ec exs ws hsl hin2 okf (unhide HOk) (Nat.le_refl _) (by omega)
        have hval : cntB (andP (hasB (gW (lstG f en))) (hasB (gW exs))) (64 * en) = c k := by
          rw [hck]
          apply cntB_congr
          intro x hx
          unfold andP
          congr 1
          unfold hasB gW
          rw [lstG_getD f en (x / 64) 0 (by omega)]
        rw [hval] at K
        have hst3 := hst2.put k hlt (by omega) hT hZ hbm hm
        have gm3 := World.cell?_setCell_same' ws ⟨m, k, none⟩ (.int .i64 ((c k : Nat) : Int)) (by rw [gm2]; rfl)
        have HS3 := hide hst3
        have HK := hide K
        have HCK := hide hck
        obtain ⟨ck, hckk⟩ : ∃ z, c k = z := ⟨_, rfl⟩
        rw [hckk] at HK gm3 hgk hcb4
        have HKK := hide hckk
        rw [hckk] at HP1 HP2 HS3
        clear hck hval hckk K hst3 hsl okf hrow tS hin2 hst2 HCK
        by_cases htake : p2 < ck
        · have htake' : (p2 : Int) < (ck : Int) := by omega
          have HN := hide (unhide HP2 (by simpa using htake))
          go_wp2_with fail
          refine (unhide HK).mono ?_
          rintro _ w' ⟨rfl, hw⟩
          obtain rfl := hw.symm
          go_wp2_with fail
          go_quiet (fail)
          go_wp2_with fail
          refine ⟨⟨k + 1, by omega, by go_num, by rw [unhide HN], by rw [unhide HN], (unhide HS3).keep (bel_drewN (Below.refl _ _) _)⟩, by simp [intOf]; omega⟩
        · have htake' : ¬ (p2 : Int) < (ck : Int) := by omega
          have HN := hide (unhide HP1 (by simp only; omega))
          go_wp2_with fail
          refine (unhide HK).mono ?_
          rintro _ w' ⟨rfl, hw⟩
          obtain rfl := hw.symm
          go_wp2_with fail
          refine ⟨⟨k + 1, by omega, by go_num, by rw [unhide HN], by rw [unhide HN], unhide HS3⟩, by simp [intOf]; omega⟩
    · have hlt' : ¬ (k : Int) < (n : Int) := by omega
      have hkn : k = n := by omega
      subst hkn
      obtain ⟨v, hv⟩ : ∃ v, (pkR c k).1 = v := ⟨_, rfl⟩
      rw [hv]
      have HV := hide hv
      have HS2 := hide hst
      clear hv hst
      go_wp2_with fail
      go_ret
      rw [unhide HV]
      exact ⟨rfl, (unhide HS2).most, (unhide HS2).chg⟩
open Go.RowKit Go.Deep
set_option linter.unusedVariables false

theorem make_ints (n : Nat) (hn : n ≤ 17592186044000) (w : World) : (Instr.makeSlice 42 (.int .i64 (n : Int)) (.int .i64 (n : Int))).run Try.prog w = .ok (.slice (some ⟨w.heap.size, 0, none⟩) n n) (w.alloc (.cells (madeCells #[.int .i64 0] n) 3)) :=
  run_make_row' (P := Try.prog) 42 3 (.int .i64 0) 8 Try.underlying42 Try.info_int rfl .i64 .i64 n (by omega) (by omega) w

/-- A list and an error. -/
def ResI (w w' : World) (r : List Int × Int) (e : Ending) : Prop :=
  ∃ a n c, e = .returned (.tuple #[.slice a n c, .int .i64 r.2]) ∧ SlI w' a n c r.1 ∧ Below w.heap.size w w'
def covA : Option (List Int) → List Int × Int
  | some l => (l, 0)
  | none => ([], 321)
def coverR (t : Int) (L : List SetC) (s : Int) (xs : List Nat) : List Int × Int :=
  if MayT t L && MayS s xs then (if t = s then covA (covR s.toNat L.length (setP L) 4096 (hasB (gW xs)) []) else ([], 60)) else ([], 61)
theorem MayT.all {t : Int} {L : List SetC} (h : MayT t L = true) : ∀ e ∈ L, MayS e.s e.xs = true ∧ e.s = t := by
  intro e he
  simp only [MayT, Bool.and_eq_true, Bool.not_eq_true', List.any_eq_false] at h
  have := h.2 e he
  simp [badT] at this
  exact this
theorem MayT.len {t : Int} {L : List SetC} (h : MayT t L = true) : L.length ≤ 4096 := by
  simp only [MayT, Bool.and_eq_true, decide_eq_true_eq] at h
  exact h.1.2

theorem own_chg {S : Nat → Prop} {w w' : World} {base : Nat} {e : TypeId} {size : Nat} {v : Value} {n : Nat} {xs : List Value} (h : w.ownsRow base e size v n xs) (k : Chg S w w') (hs : ∀ j, base ≤ j → ¬ S j) : w'.ownsRow base e size v n xs := by
  refine ⟨h.1, h.2.imp id ?_⟩
  rintro ⟨g', cap, cur, h3, h4, h5, h6⟩
  have hlt : g' < w.heap.size := by
    rcases Nat.lt_or_ge g' w.heap.size with hh | hh
    · exact hh
    · rw [Array.getElem?_eq_none hh] at h5; cases h5
  exact ⟨g', cap, cur, h3, h4, (k.block g' hlt (hs _ h4)).trans h5, h6⟩
theorem own_any {α : Type} {g : α → Value} {w : World} {base n : Nat} {e : TypeId} {v : Value} {xs : List α} (d : α) (h : w.ownsRow base e 1 v n (xs.map g)) : ∃ a c, v = .slice a n c ∧ SlG g d w a n c xs := by
  rcases h.2 with ⟨rfl, rfl⟩ | ⟨b, cap, cur, rfl, h4⟩
  · have : xs = [] := by have := h.1; simp at this; exact this
    subst this
    exact ⟨none, 0, rfl, SlG.nil _⟩
  · exact ⟨_, _, rfl, own_sl d h⟩
theorem Below.toChg {B : Nat} {w w' : World} (h : Below B w w') : Chg (fun j => B ≤ j) w w' :=
  ⟨h.os, h.tape, h.output, h.size, fun k _ hk => h.block k (by omega)⟩

/-- In the loop of Cover. -/
structure CvLp (w wr : World) (T Z b m base N n cb : Nat) (sz : Nat) (aT : Option Addr) (cT : Nat) (f : Nat → Nat) (g : Nat → Int) : Prop where
  tab : Two wr T (.int .i64 sz) (.slice aT n cT)
  lef : Two wr Z (.int .i64 sz) (.slice (some ⟨b, 0, none⟩) N cb)
  row : FnW wr b 0 N f
  most : FnI wr m 0 n g
  bel : Below w.heap.size w wr
  lt : base ≤ wr.heap.size
theorem CvLp.chg {S : Nat → Prop} {w wr w' : World} {T Z b m base N n cb sz : Nat} {aT : Option Addr} {cT : Nat} {f : Nat → Nat} {g : Nat → Int} (h : CvLp w wr T Z b m base N n cb sz aT cT f g) (k : Chg S wr w') (hT : ¬ S T) (hZ : ¬ S Z) (hb : ¬ S b) (hm : ¬ S m) (hw : ∀ j, j < w.heap.size → ¬ S j) : CvLp w w' T Z b m base N n cb sz aT cT f g :=
  ⟨h.tab.chg k hT, h.lef.chg k hZ, h.row.chg k hb, h.most.chg k hm, h.bel.trans (k.below h.bel.size hw), Nat.le_trans h.lt k.size⟩

theorem rep_count {N sz : Nat} {f : Nat → Nat} {P : Nat → Bool} (hr : RepB N f P) (hN : N = nW sz) (hz : ∀ x, sz ≤ x → P x = false) : cntB (hasB (gW (lstG f N))) (64 * N) = cntB P sz := by
  have e1 : cntB (hasB (gW (lstG f N))) (64 * N) = cntB P (64 * N) := by
    apply cntB_congr
    intro x hx
    rw [← hr.has x hx]
    unfold hasB gW
    rw [lstG_getD f N (x / 64) 0 (by omega)]
  have hn : sz ≤ 64 * N := by rw [hN]; unfold nW; omega
  rw [e1]
  obtain ⟨m, hm⟩ : ∃ m, 64 * N = sz + m := ⟨64 * N - sz, by omega⟩
  rw [hm, cntB_add]
  have : cntB (fun x => P (sz + x)) m = cntB (fun _ => false) m := cntB_congr (fun x _ => hz _ (by omega))
  have z : ∀ k, cntB (fun _ => false) k = 0 := fun k => by induction k with
    | zero => rfl
    | succ k ih => simp only [cntB]; rw [ih]; rfl
  rw [this, z m]
  rfl
theorem rep_shared {N sz : Nat} {f : Nat → Nat} {P : Nat → Bool} {L : List SetC} (hr : RepB N f P) (hN : N = nW sz) (hz : ∀ x, sz ≤ x → P x = false) (i : Nat) : shC N (hasB f) L i = covC sz (setP L) P i := by
  unfold shC covC
  have e1 : cntB (andP (hasB f) (setP L i)) (64 * N) = cntB (fun e => P e && setP L i e) (64 * N) := by
    apply cntB_congr
    intro x hx
    unfold andP
    rw [hr.has x hx]
  have hn : sz ≤ 64 * N := by rw [hN]; unfold nW; omega
  rw [e1]
  obtain ⟨m, hm⟩ : ∃ m, 64 * N = sz + m := ⟨64 * N - sz, by omega⟩
  rw [hm, cntB_add]
  have : cntB (fun x => P (sz + x) && setP L i (sz + x)) m = cntB (fun _ => false) m := cntB_congr (fun x _ => by rw [hz _ (by omega)]; rfl)
  have z : ∀ k, cntB (fun _ => false) k = 0 := fun k => by induction k with
    | zero => rfl
    | succ k ih => simp only [cntB]; rw [ih]; rfl
  rw [this, z m]
  rfl

set_option maxHeartbeats 4000000 in
/-- bitset.Cover, refused. -/
theorem cover_no (t : Int) (aT : Option Addr) (n cT : Nat) (L : List SetC) (s : Int) (a : Option Addr) (ns c : Nat) (xs : List Nat) (w : World) (hS : SlS w aT n cT L) (h : SlW w a ns c xs) (o : OkW xs) (er : Int)
    (hz : (MayT t L = false ∧ er = 61) ∨ (MayT t L = true ∧ MayS s xs = false ∧ er = 61) ∨ (MayT t L = true ∧ MayS s xs = true ∧ t ≠ s ∧ er = 60)) :
    Calls Try.prog 38 #[setV t aT n cT, setV s a ns c] w fun e w' => ResI w w' ([], er) e := by
  obtain ⟨wa, hwa⟩ : ∃ x, w.alloc (.cells #[.int .i64 t, .slice aT n cT] 27) = x := ⟨_, rfl⟩
  obtain ⟨wb, hwb⟩ : ∃ x, wa.alloc (.cells #[.int .i64 s, .slice a ns c] 24) = x := ⟨_, rfl⟩
  have hba : Below w.heap.size w wa := by rw [← hwa]; exact (Below.refl _ _).alloc (Nat.le_refl _) _
  have hbb : Below wa.heap.size wa wb := by rw [← hwb]; exact (Below.refl _ _).alloc (Nat.le_refl _) _
  have tA : Two wb w.heap.size (.int .i64 t) (.slice aT n cT) := Two.keep (w := wa) (by rw [← hwa]; exact Two.made _ _ _ _) hbb
  have tB : Two wb wa.heap.size (.int .i64 s) (.slice a ns c) := by rw [← hwb]; exact Two.made _ _ _ _
  have hB := hba.trans (hbb.mono hba.size)
  have K1 := mayT_any t aT n cT L wb (hS.below hB)
  have HA := hide (And.intro tA (And.intro tB hB))
  have HS := hide (And.intro h o)
  have a0 := tA.c0
  have a1 := tA.c1
  clear tA tB hB hba hbb hS h o
  unfold setV at K1 ⊢
  rcases hz with ⟨m1, rfl⟩ | ⟨m1, m2, rfl⟩ | ⟨m1, m2, hne, rfl⟩
  · rw [m1] at K1
    have HK1 := hide K1
    clear K1 m1
    go_enter Try.func38, Try.ntmps38
    go_wp2_with fail
    refine (unhide HK1).mono ?_
    rintro _ wc ⟨rfl, hbc⟩
    have HB := hide ((unhide HA).2.2.trans (hbc.mono (unhide HA).2.2.size))
    clear hbc HK1
    go_wp2_with fail
    go_ret2
    exact ⟨none, 0, 0, rfl, SlG.nil _, unhide HB⟩
  · rw [m1] at K1
    have HK1 := hide K1
    have HM2 := hide m2
    clear K1 m1 m2
    go_enter Try.func38, Try.ntmps38
    go_wp2_with fail
    refine (unhide HK1).mono ?_
    rintro _ wc ⟨rfl, hbc⟩
    have hB2 := (unhide HA).2.2.trans (hbc.mono (unhide HA).2.2.size)
    have tB := (unhide HA).2.1.keep hbc
    have K2 := may_any s a ns c xs wc ((unhide HS).1.below hB2) (unhide HS).2
    rw [unhide HM2] at K2
    unfold setV at K2
    have HK2 := hide K2
    have HB2 := hide hB2
    have b0 := tB.c0
    have b1 := tB.c1
    clear hbc HK1 K2 tB hB2 a0 a1
    go_wp2_with fail
    refine (unhide HK2).mono ?_
    rintro _ wd ⟨rfl, hbd⟩
    have HB := hide ((unhide HB2).trans (hbd.mono (unhide HB2).size))
    clear hbd HK2
    go_wp2_with fail
    go_ret2
    exact ⟨none, 0, 0, rfl, SlG.nil _, unhide HB⟩
  · rw [m1] at K1
    have HK1 := hide K1
    have HM2 := hide m2
    have hne1 : (t == s) = false := by simpa using hne
    have hne2 : (t != s) = true := by simpa using hne
    clear K1 m1 m2 hne
    go_enter Try.func38, Try.ntmps38
    go_wp2_with fail
    refine (unhide HK1).mono ?_
    rintro _ wc ⟨rfl, hbc⟩
    have hB2 := (unhide HA).2.2.trans (hbc.mono (unhide HA).2.2.size)
    have tA := (unhide HA).1.keep hbc
    have tB := (unhide HA).2.1.keep hbc
    have K2 := may_any s a ns c xs wc ((unhide HS).1.below hB2) (unhide HS).2
    rw [unhide HM2] at K2
    unfold setV at K2
    have HK2 := hide K2
    have HB2 := hide (And.intro tA (And.intro tB hB2))
    have b0 := tB.c0
    have b1 := tB.c1
    clear hbc HK1 K2 tA tB hB2 a0 a1
    go_wp2_with fail
    refine (unhide HK2).mono ?_
    rintro _ wd ⟨rfl, hbd⟩
    have HB := hide ((unhide HB2).2.2.trans (hbd.mono (unhide HB2).2.2.size))
    have e0 := ((unhide HB2).1.keep hbd).c0
    have e1 := ((unhide HB2).2.1.keep hbd).c0
    clear hbd HK2 b0 b1
    go_wp2_with fail
    go_ret2
    exact ⟨none, 0, 0, rfl, SlG.nil _, unhide HB⟩
end Go.Proofs.Ytbendkndnojihaa
