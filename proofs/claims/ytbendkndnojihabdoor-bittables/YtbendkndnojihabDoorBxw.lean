/-
  bitset.MakeTable: its contract.
-/
import Derived.Test.YtbendkndnojihabDoorBz3
import Derived.Test.YtbendkndnojihabDoorBto
import Derived.Test.YtbendkndnojihabDoorBxk
import Derived.Test.YtbendkndnojihabDoorBtu
import Derived.Test.YtbendkndnojihabDoorBtb
import Derived.Deep.RegionLaw
namespace Go.Proofs.YtbendkndnojihabDoor
open Go.RowKit Go.Deep
set_option linter.unusedVariables false

/-- What MakeTable refuses. -/
def mtE (size : Int) (L : List SetC) : Int := if alikeE size L = 0 then (if 4096 < L.length then 1 else 0) else alikeE size L
set_option maxHeartbeats 4000000 in
/-- bitset.MakeTable, refused. -/
theorem makeTable_no (size : Int) (a : Option Addr) (n c : Nat) (L : List SetC) (w : World) (h : SlS w a n c L) (hno : mtE size L ≠ 0) :
    Calls Tryd.prog 23 #[.int .i64 size, .slice a n c] w fun r w' => r = .returned (.tuple #[setV 0 none 0 0, .int .i64 (mtE size L)]) ∧ Below w.heap.size w w' := by
  have hle := h.le
  have hcap := h.cap
  have hl := h.len
  unfold maxLen at hcap
  obtain ⟨wa, hwa⟩ : ∃ x, w.alloc (.cells #[.int .i64 0, .slice none 0 0] 24) = x := ⟨_, rfl⟩
  have ba : Below w.heap.size w wa := by rw [← hwa]; exact (Below.refl _ _).alloc (Nat.le_refl _) _
  have R0 : Two wa w.heap.size (.int .i64 0) (.slice none 0 0) := by rw [← hwa]; exact Two.made _ _ _ _
  have K := alike_any size a n c L wa (h.below ba)
  have HA := hide (And.intro R0 ba)
  have HSl := hide h
  unfold setV
  clear h R0 ba
  by_cases hal : alikeE size L = 0
  · have h4 : 4096 < n := by
      have h4 := hno
      unfold mtE at h4
      rw [if_pos hal, hl] at h4
      by_cases c : 4096 < n
      · exact c
      · rw [if_neg c] at h4; exact absurd rfl h4
    have e : mtE size L = 1 := by unfold mtE; rw [if_pos hal, hl, if_pos h4]
    rw [e]
    rw [hal] at K
    have HK := hide K
    have h4' : (4096 : Int) < (n : Int) := by omega
    clear K hal e hno
    go_enter Tryd.func23, Tryd.ntmps23
    go_wp2_with fail
    refine (unhide HK).mono ?_
    rintro _ wd ⟨rfl, hbd⟩
    have R1 := (unhide HA).1.keep hbd
    have r0 := R1.c0
    have r1 := R1.c1
    have f0 := R1.f0
    have f1 := R1.f1
    have T3 := R1.set (.int .i64 0) (.slice none 0 0)
    have p0 := T3.c0
    have p1 := T3.c1
    have HB := hide (two_below ((unhide HA).2.trans (hbd.mono (unhide HA).2.size)) w.heap.size (Nat.le_refl _) (.int .i64 0) (.slice none 0 0))
    clear hbd R1 T3 hwa
    go_wp2_with fail
    refine bodyPost_ret (by simp [results, Tryd.results23, go_sem, p0, p1]; try rfl) rfl ?_
    exact ⟨rfl, unhide HB⟩
  · have e : mtE size L = alikeE size L := by unfold mtE; rw [if_neg hal]
    rw [e]
    have hne : (alikeE size L == 0) = false := by simpa using hal
    have hd : decide (alikeE size L = 0) = false := by simpa using hal
    generalize alikeE size L = E at *
    have HK := hide K
    clear K e hno
    go_enter Tryd.func23, Tryd.ntmps23
    go_wp2_with fail
    refine (unhide HK).mono ?_
    rintro _ wd ⟨rfl, hbd⟩
    have R1 := (unhide HA).1.keep hbd
    have r0 := R1.c0
    have r1 := R1.c1
    have f0 := R1.f0
    have f1 := R1.f1
    have T3 := R1.set (.int .i64 0) (.slice none 0 0)
    have p0 := T3.c0
    have p1 := T3.c1
    have HB := hide (two_below ((unhide HA).2.trans (hbd.mono (unhide HA).2.size)) w.heap.size (Nat.le_refl _) (.int .i64 0) (.slice none 0 0))
    clear hbd R1 T3 hwa
    go_wp2_with fail
    refine bodyPost_ret (by simp [results, Tryd.results23, go_sem, p0, p1]; try rfl) rfl ?_
    exact ⟨rfl, unhide HB⟩

set_option maxHeartbeats 4000000 in
/-- bitset.MakeTable. -/
theorem makeTable_yes (sz : Nat) (a : Option Addr) (n c : Nat) (L : List SetC) (w : World) (h : SlS w a n c L) (hal : alikeE sz L = 0) (hn : n ≤ 4096) :
    Calls Tryd.prog 23 #[.int .i64 (sz : Int), .slice a n c] w fun r w' => ∃ v, r = .returned (.tuple #[v, .int .i64 0]) ∧ NewT w w' sz n (fun i j => (L.getD i .nul).xs.getD j 0) v := by
  have hle := h.le
  have hcap := h.cap
  have hl := h.len
  unfold maxLen at hcap
  obtain ⟨wa, hwa⟩ : ∃ x, w.alloc (.cells #[.int .i64 0, .slice none 0 0] 24) = x := ⟨_, rfl⟩
  have ba : Below w.heap.size w wa := by rw [← hwa]; exact (Below.refl _ _).alloc (Nat.le_refl _) _
  have R0 : Two wa w.heap.size (.int .i64 0) (.slice none 0 0) := by rw [← hwa]; exact Two.made _ _ _ _
  have K := alike_any sz a n c L wa (h.below ba)
  rw [hal] at K
  have hA := alike_zero hal
  obtain ⟨s9, hs9, hsz⟩ := fitsI_nat hA.1
  have hs9' : s9 = sz := by omega
  subst hs9'
  have hu : ∀ i, i < n → (L.getD i .nul).s = (s9 : Int) ∧ (L.getD i .nul).n = nW s9 := by
    intro i hi
    have hkl : i < L.length := by rw [hl]; exact hi
    have hmem : L.getD i .nul ∈ L := by
      have : L.getD i .nul = L[i] := by simp [List.getD, hkl]
      rw [this]; exact List.getElem_mem hkl
    have h1 := hA.2 _ hmem
    refine ⟨h1.2, ?_⟩
    have h2 := MayS.len h1.1
    rw [(h.get i hi).1.len, h1.2] at h2
    simpa using h2
  have HA := hide (And.intro R0 ba)
  have HSl := hide h
  have HK := hide K
  have HU := hide hu
  have h4' : ¬ (4096 : Int) < (n : Int) := by omega
  have la : w.heap.size < wa.heap.size := by rw [← hwa]; simp
  clear h R0 ba K hA hu hal hs9
  go_enter Tryd.func23, Tryd.ntmps23
  go_wp2_with fail
  refine (unhide HK).mono ?_
  rintro _ wd ⟨rfl, hbd⟩
  have R1 := (unhide HA).1.keep hbd
  have hB1 := (unhide HA).2.trans (hbd.mono (unhide HA).2.size)
  have HC := hide (copyTable_any s9 a n c L wd ((unhide HSl).below hB1) hsz hn (unhide HU))
  have HA1 := hide (And.intro R1 hB1)
  have ld := hbd.size
  clear hbd R1 hB1 HA HK hwa
  go_wp2_with fail
  refine (unhide HC).mono ?_
  rintro _ we ⟨v, rfl, T, bs, cs, rfl, hTb, hbe⟩
  unfold setV
  have R2 := (unhide HA1).1.keep hbe
  have r0 := R2.c0
  have r1 := R2.c1
  have f0 := R2.f0
  have f1 := R2.f1
  have T3 := R2.set (.int .i64 (s9 : Int)) (.slice (some ⟨T, 0, none⟩) n n)
  have p0 := T3.c0
  have p1 := T3.c1
  have hB2 := (unhide HA1).2.trans (hbe.mono (unhide HA1).2.size)
  have hgT := hTb.tge
  have HR := hide (show NewT w ((we.setCell ⟨w.heap.size, 0, none⟩ (.int .i64 (s9 : Int))).setCell ⟨w.heap.size, 1, none⟩ (.slice (some ⟨T, 0, none⟩) n n)) s9 n (fun i j => (L.getD i .nul).xs.getD j 0) (setV s9 (some ⟨T, 0, none⟩) n n) from
    ⟨T, bs, cs, rfl, (hTb.chg (two_chg _ _ _ _) (by omega) (fun i hi => by have := (hTb.ge i hi).1; omega)).mono (by omega), two_below hB2 _ (Nat.le_refl _) _ _⟩)
  clear R2 T3 hTb hbe hB2
  go_wp2_with fail
  refine bodyPost_ret (by simp [results, Tryd.results23, go_sem, p0, p1]; try rfl) rfl ?_
  exact ⟨_, rfl, unhide HR⟩
end Go.Proofs.YtbendkndnojihabDoor

namespace Go.Proofs.YtbendkndnojihabDoor
open Go.RowKit Go.Deep
set_option linter.unusedVariables false

theorem own_words {w : World} {base n : Nat} {v : Value} {xs : List Nat} (h : w.ownsRow base 65 1 v n (xs.map vU)) (hl : xs.length = n) : ∃ a c, v = .slice a n c ∧ SlW w a n c xs ∧ ∀ x, a = some x → base ≤ x.block := by
  rcases h.2 with ⟨e, hk⟩ | ⟨g, cap, cur, e, q1, q2, q3, q4, q5, q6⟩
  · have h0 : n = 0 := hk
    subst h0
    have hx : xs = [] := List.length_eq_zero_iff.1 hl
    subst hx
    exact ⟨none, 0, e, ⟨rfl, Nat.le_refl _, Nat.zero_le _, .inl rfl⟩, fun x hx => by cases hx⟩
  · subst e
    exact ⟨some ⟨g, 0, none⟩, cap, rfl, own_sl (xs := xs) 0 h, fun x hx => by cases hx; exact q1⟩

set_option maxHeartbeats 4000000 in
/-- sloperef3.Copied. -/
theorem copied_any (s : Int) (a : Option Addr) (n c : Nat) (xs : List Nat) (w : World) (h : SlW w a n c xs) (hn : n ≤ 17592186043904) (hnil : a = none → n = 0 ∧ c = 0) :
    Calls Tryd.prog 57 #[setV s a n c] w fun e w' => ∃ a' c', e = .returned (.agg #[.int .i64 s, .slice a' n c']) ∧ SlW w' a' n c' xs ∧ (∀ x, a' = some x → w.heap.size ≤ x.block) ∧ Below w.heap.size w w' := by
  have hle := h.le
  have hcap := h.cap
  unfold maxLen at hcap
  obtain ⟨i64, hi, hz, hs, hb⟩ := info_parts Tryd.info_u64
  have HI := hide (And.intro hi (And.intro hz (And.intro hs hb)))
  obtain ⟨wa, hwa⟩ : ∃ wa, w.alloc (.cells #[.int .i64 s, .slice a n c] 35) = wa := ⟨_, rfl⟩
  obtain ⟨wb, hwb⟩ : ∃ wb, wa.alloc (.cells #[.int .i64 0, .slice none 0 0] 35) = wb := ⟨_, rfl⟩
  have hba : Below w.heap.size w wa := by rw [← hwa]; exact (Below.refl _ _).alloc (Nat.le_refl _) _
  have hbb : Below wa.heap.size wa wb := by rw [← hwb]; exact (Below.refl _ _).alloc (Nat.le_refl _) _
  have hT : Two wb w.heap.size (.int .i64 s) (.slice a n c) := by
    refine Two.keep (w := wa) ?_ hbb
    rw [← hwa]; exact Two.made _ _ _ _
  have hR : Two wb wa.heap.size (.int .i64 0) (.slice none 0 0) := by rw [← hwb]; exact Two.made _ _ _ _
  have hBB := hba.trans (hbb.mono hba.size)
  have HA := hide (And.intro hT (And.intro hR (And.intro ((h.below hba).below hbb) hBB)))
  have t1 := hT.c1
  have hszw : w.heap.size < wa.heap.size := by rw [← hwa]; simp
  have HNil := hide hnil
  have HL := hide h.len
  clear h hnil hi hz hs hb hba hbb hT hR hBB
  unfold setV
  go_enter Tryd.func57, Tryd.ntmps57
  go_wp2_with (at_builtin; refine wpList_append_nil rfl _ _ 33 rfl wb.heap.size 65 i64 (.int .u64 0) 8 Tryd.underlying33 (unhide HI).1 (unhide HI).2.1 (unhide HI).2.2.1 (unhide HI).2.2.2 rfl rfl a n c (xs.map vU) rfl ?hl (unhide HNil) ?hnews ?hone ?h63 ?hby (Nat.le_refl _) ?_)
  case hl => simp [unhide HL]
  case hnews => exact (unhide HA).2.2.1.news
  case hone => intro u hu; simp at hu; obtain ⟨x, _, rfl⟩ := hu; rfl
  case h63 => unfold maxLen; omega
  case hby => omega
  intro v1 w1 hown hg
  have hB1 : Below wb.heap.size wb w1 := Below.grown (Below.refl _ _) hg (Nat.le_refl _) (fun k hk => by cases hk)
  obtain ⟨a', c', rfl, hs2, hfr⟩ := own_words hown (unhide HL)
  have hc2 := hs2.le
  have hc3 := hs2.cap
  unfold maxLen at hc3
  have T2 := (unhide HA).1.keep hB1
  have R2 := (unhide HA).2.1.keep hB1
  have a0 := T2.c0
  have a1 := T2.c1
  have r0 := R2.c0
  have r1 := R2.c1
  have f0 := R2.f0
  have f1 := R2.f1
  have R3 := R2.set (.int .i64 s) (.slice a' n c')
  have p0 := R3.c0
  have p1 := R3.c1
  have hRw := (unhide HA).2.1.lt
  have HE := hide (show SlW ((w1.setCell ⟨wa.heap.size, 0, none⟩ (.int .i64 s)).setCell ⟨wa.heap.size, 1, none⟩ (.slice a' n c')) a' n c' xs ∧ (∀ x, a' = some x → w.heap.size ≤ x.block) ∧ Below w.heap.size w ((w1.setCell ⟨wa.heap.size, 0, none⟩ (.int .i64 s)).setCell ⟨wa.heap.size, 1, none⟩ (.slice a' n c')) from
    ⟨hs2.chg (two_chg w1 wa.heap.size _ _) (fun x hx _ => by have := hfr x hx; omega), fun x hx => by have := hfr x hx; omega, two_below ((unhide HA).2.2.2.trans (hB1.mono (by omega))) _ (by omega) _ _⟩)
  clear hs2 hown hg T2 R2 R3 hB1 HA hfr
  go_wp2_with fail
  try go_region
  all_goals
    go_wp2_with fail
    refine bodyPost_ret (by simp [results, Tryd.results57, go_sem, p0, p1]; try rfl) rfl ?_
    first
      | exact ⟨_, _, rfl, (unhide HE).1, (unhide HE).2.1, (unhide HE).2.2⟩
      | exact ⟨_, _, rfl, (unhide HE).1.below (Below.refl _ _).drew, (unhide HE).2.1, (unhide HE).2.2.drew⟩
end Go.Proofs.YtbendkndnojihabDoor

namespace Go.Proofs.YtbendkndnojihabDoor
open Go.RowKit Go.Deep
set_option linter.unusedVariables false

/-- What has grown is answered: the answer's place R is written. -/
theorem GrB.resK {w0 w W : World} {Z R : Nat} {s : Int} {n : Nat} {T : List SetC} {v : Value} {K : List (Int × List Nat)} (h : GrB w W Z s T v) (h0 : Below w0.heap.size w0 w) (hl : T.length = n) (hk : T.map SetC.key = K) (hR : w0.heap.size ≤ R) (hRl : R < w.heap.size) :
    ∃ a c, v = .slice a n c ∧ ResN w0 ((W.setCell ⟨R, 0, none⟩ (.int .i64 s)).setCell ⟨R, 1, none⟩ v) s n K 0 (.returned (.tuple #[.agg #[.int .i64 s, v], .int .i64 0])) := by
  obtain ⟨a, c, e, hs⟩ := h.sl
  subst hl
  refine ⟨a, c, e, a, c, T, by rw [e]; rfl, ?_, hk, two_below (h0.trans (h.bel.mono h0.size)) R hR _ _⟩
  have hc := two_chg W R (.int .i64 s) v
  refine ⟨hs.len, hs.le, hs.cap, ?_, fun t ht => ?_⟩
  · rcases hs.cells with x | ⟨b, off, x, k⟩
    · exact .inl x
    · refine .inr ⟨b, off, x, fun i hi => ?_⟩
      have hb : b ≠ R := by
        have := (own_ge h.own b (by rw [e, x]; rfl)).1
        omega
      exact ⟨hc.cell hb (k i hi).1, hc.cell hb (k i hi).2⟩
  · refine ⟨?_, (hs.all t ht).2⟩
    by_cases hn : 0 < t.n
    · exact (hs.all t ht).1.chg hc (fun x hx _ => by have := (h.sep t ht x hx hn).2.2; omega)
    · have e0 : t.xs = [] := List.length_eq_zero_iff.1 (by rw [(hs.all t ht).1.len]; omega)
      exact ⟨(hs.all t ht).1.len, (hs.all t ht).1.le, (hs.all t ht).1.cap, .inl e0⟩

theorem take_key {L : List SetC} {k : Nat} (h : k < L.length) : (L.take (k + 1)).map SetC.key = (L.take k).map SetC.key ++ [(L.getD k .nul).key] := by
  rw [List.take_add_one, List.getElem?_eq_getElem h, List.map_append]
  simp [List.getD, h]

set_option maxHeartbeats 4000000 in
/-- sloperef3.MakeTable, refused. -/
theorem rmakeTable_no (size : Int) (a : Option Addr) (n c : Nat) (L : List SetC) (w : World) (h : SlS w a n c L) (hno : mtE size L ≠ 0) :
    Calls Tryd.prog 24 #[.int .i64 size, .slice a n c] w fun r w' => ResN w w' 0 0 [] (mtE size L) r := by
  have hle := h.le
  have hcap := h.cap
  have hl := h.len
  unfold maxLen at hcap
  obtain ⟨wa, hwa⟩ : ∃ x, w.alloc (.cells #[.int .i64 0, .slice none 0 0] 24) = x := ⟨_, rfl⟩
  have ba : Below w.heap.size w wa := by rw [← hwa]; exact (Below.refl _ _).alloc (Nat.le_refl _) _
  have R0 : Two wa w.heap.size (.int .i64 0) (.slice none 0 0) := by rw [← hwa]; exact Two.made _ _ _ _
  have K := fit_any size a n c L wa (h.below ba)
  have HA := hide (And.intro R0 ba)
  clear h R0 ba
  by_cases hal : alikeE size L = 0
  · have h4 : 4096 < n := by
      have h4 := hno
      unfold mtE at h4
      rw [if_pos hal, hl] at h4
      by_cases c : 4096 < n
      · exact c
      · rw [if_neg c] at h4; exact absurd rfl h4
    have e : mtE size L = 1 := by unfold mtE; rw [if_pos hal, hl, if_pos h4]
    rw [e]
    rw [hal] at K
    have HK := hide K
    have h4' : (4096 : Int) < (n : Int) := by omega
    clear K hal e hno
    go_enter Tryd.func24, Tryd.ntmps24
    go_wp2_with fail
    refine (unhide HK).mono ?_
    rintro _ wd ⟨rfl, hbd⟩
    have R1 := (unhide HA).1.keep hbd
    have r0 := R1.c0
    have r1 := R1.c1
    have f0 := R1.f0
    have f1 := R1.f1
    have T3 := R1.set (.int .i64 0) (.slice none 0 0)
    have p0 := T3.c0
    have p1 := T3.c1
    have HB := hide (two_below ((unhide HA).2.trans (hbd.mono (unhide HA).2.size)) w.heap.size (Nat.le_refl _) (.int .i64 0) (.slice none 0 0))
    clear hbd R1 T3 hwa
    go_wp2_with fail
    refine bodyPost_ret (by simp [results, Tryd.results24, go_sem, p0, p1]; try rfl) rfl ?_
    exact resN_zero (unhide HB)
  · have e : mtE size L = alikeE size L := by unfold mtE; rw [if_neg hal]
    rw [e]
    have hne : (alikeE size L == 0) = false := by simpa using hal
    have hd : decide (alikeE size L = 0) = false := by simpa using hal
    generalize alikeE size L = E at *
    have HK := hide K
    clear K e hno
    go_enter Tryd.func24, Tryd.ntmps24
    go_wp2_with fail
    refine (unhide HK).mono ?_
    rintro _ wd ⟨rfl, hbd⟩
    have R1 := (unhide HA).1.keep hbd
    have r0 := R1.c0
    have r1 := R1.c1
    have f0 := R1.f0
    have f1 := R1.f1
    have T3 := R1.set (.int .i64 0) (.slice none 0 0)
    have p0 := T3.c0
    have p1 := T3.c1
    have HB := hide (two_below ((unhide HA).2.trans (hbd.mono (unhide HA).2.size)) w.heap.size (Nat.le_refl _) (.int .i64 0) (.slice none 0 0))
    clear hbd R1 T3 hwa
    go_wp2_with fail
    refine bodyPost_ret (by simp [results, Tryd.results24, go_sem, p0, p1]; try rfl) rfl ?_
    exact resN_zero (unhide HB)

set_option maxHeartbeats 8000000 in
set_option maxRecDepth 100000 in
/-- sloperef3.MakeTable. -/
theorem rmakeTable_yes (size : Int) (a : Option Addr) (n c : Nat) (L : List SetC) (w : World) (h : SlS w a n c L) (hal : alikeE size L = 0) (hn : n ≤ 4096) (hargs : ∀ e ∈ L, e.Arg) :
    Calls Tryd.prog 24 #[.int .i64 size, .slice a n c] w fun r w' => ResN w w' size n (L.map SetC.key) 0 r := by
  have hle := h.le
  have hcap := h.cap
  have hlL := h.len
  unfold maxLen at hcap
  obtain ⟨i24, hi, hz, hs, hb⟩ := info_parts Tryd.info_set
  have HInf := hide (And.intro hi (And.intro hz (And.intro hs hb)))
  clear hi hz hs hb
  obtain ⟨wa, hwa⟩ : ∃ x, w.alloc (.cells #[.int .i64 0, .slice none 0 0] 24) = x := ⟨_, rfl⟩
  have ba : Below w.heap.size w wa := by rw [← hwa]; exact (Below.refl _ _).alloc (Nat.le_refl _) _
  have la : w.heap.size < wa.heap.size := by rw [← hwa]; simp
  have R0 : Two wa w.heap.size (.int .i64 0) (.slice none 0 0) := by rw [← hwa]; exact Two.made _ _ _ _
  have K := fit_any size a n c L wa (h.below ba)
  rw [hal] at K
  have HA := hide (And.intro R0 ba)
  have HK := hide K
  have HSl := hide h
  have HArg := hide hargs
  have h4' : ¬ (4096 : Int) < (n : Int) := by omega
  clear h R0 ba K hal hargs
  go_enter Tryd.func24, Tryd.ntmps24
  go_wp2_with fail
  refine (unhide HK).mono ?_
  rintro _ wd ⟨rfl, hbd⟩
  have R1 := (unhide HA).1.keep hbd
  have hB1 := (unhide HA).2.trans (hbd.mono (unhide HA).2.size)
  have ld := hbd.size
  have HG0 := hide (GrB.start (w := wd) (Two.made wd (.int .i64 size) (.slice none 0 0) 24) (Nat.le_refl _) ((Below.refl _ _).alloc (Nat.le_refl _) _))
  have HA1 := hide (And.intro R1 hB1)
  clear R1 hB1 hbd HA HK hwa
  go_wp2_with fail
  have hlz : wd.heap.size < (wd.alloc (.cells #[.int .i64 size, .slice none 0 0] 24)).heap.size := by simp
  generalize wd.alloc (.cells #[.int .i64 size, .slice none 0 0] 24) = wz at *
  go_loopw [8] (fun i wr => ∃ (k : Nat) (T : List SetC) (v : Value), k ≤ n ∧ i = .int .i64 k ∧ T.length = k ∧ T.map SetC.key = (L.take k).map SetC.key ∧ GrB wd wr wd.heap.size size T v) (fun i _ => n - (intOf i).toNat)
  case atStart => exact ⟨0, [], _, Nat.zero_le _, rfl, rfl, by simp, unhide HG0⟩
  case round =>
    obtain ⟨k, T, v, hk, rfl, hl, hkey, hst⟩ := hrel
    obtain ⟨W1, hW1⟩ : ∃ W1, W1 = wr := ⟨_, rfl⟩
    subst hW1
    by_cases hlt : k < n
    · have hlt' : (k : Int) < (n : Int) := by omega
      have hk0 : (0 : Int) ≤ (k : Int) := by omega
      have hkl : k < L.length := by omega
      have hBW := (unhide HA1).2.trans (hst.bel.mono (unhide HA1).2.size)
      obtain ⟨b, off, rfl, hcells⟩ := (unhide HSl).at (by omega)
      have g1 := below_cell hBW (hcells k hlt).1
      have g2 := below_cell hBW (hcells k hlt).2
      have i1 := ((unhide HSl).get k hlt)
      have hmem : L.getD k .nul ∈ L := by
        have : L.getD k .nul = L[k] := by simp [List.getD, hkl]
        rw [this]; exact List.getElem_mem hkl
      have harg := unhide HArg _ hmem
      have HTk := hide (take_key hkl)
      generalize L.getD k .nul = x1 at *
      obtain ⟨s1, ea1, en1, ec1, ex1⟩ := x1
      simp only at g1 g2
      have z1 := hst.two.c1
      have HOf := hide (fun (w' : World) (hb : Below W1.heap.size W1 w') => copied_any s1 ea1 en1 ec1 ex1 w' (i1.1.below (hBW.trans (hb.mono hBW.size))) harg.1 harg.2)
      unfold setV at HOf
      have HOk := hide i1.2
      have hmx : T.length + 1 ≤ maxLen := by rw [hl]; unfold maxLen; omega
      have hby : (T.length + 1) * 32 ≤ 140737488355328 := by rw [hl]; omega
      have hbs := hst.bel.size
      have HGB := hide hst
      have HKey := hide (And.intro hl hkey)
      clear hst hkey hl hBW hcells i1 hmem harg
      go_wp2_with fail
      go_region_law (first
            | (refine step_append_lies _ rfl _ _ 22 rfl wd.heap.size 35 i24 (.agg #[.int .i64 0, .slice none 0 0]) 2 32 Tryd.underlying22 (unhide HInf).1 (unhide HInf).2.1 (unhide HInf).2.2.1 (unhide HInf).2.2.2 rfl (by decide) v T.length (flatS T) rfl ((unhide O5).alloc _) ⟨w5.heap.size, 0, none⟩ 1 1 [.int .i64 s1, .slice a5 en1 c5] rfl rfl (World.news_of_block (alloc_block _ _)) (two_ones _ _ _ _) (by decide) hmx hby (by simp; omega) (w5.heap.size + 1) (by simp) ?_; intro g3 c3 w6 hown6 hgrow6 hat6 hlt6; have L6 := (unhide GB5).app hgrow6; have q5c := L6.1; have q6c := L6.2; have F6 := hide (And.intro hown6 (And.intro hgrow6 hat6)); clear hown6 hgrow6 hat6 hlt6 L6)
            | (go_simp; go_at_call 57; go_must (refine (unhide HOf _ ?_).mono ?_); go_must (exact (Below.refl _ _).drew); rintro _ w5 ⟨a5, c5, rfl, hs5, hf5, hb5⟩; have hq5 : Below W1.heap.size W1 w5 := ((Below.refl W1.heap.size W1).drew).trans hb5; have GB5 := hide ((unhide HGB).below hq5); have O5 := hide (unhide GB5).own; have z5 := below_cell hq5 z1; have z6 := below_cell ((Below.refl w5.heap.size w5).alloc (Nat.le_refl _) (.cells #[.int .i64 s1, .slice a5 en1 c5] 35)) z5; have hl5 : wd.heap.size ≤ w5.heap.size := (unhide GB5).bel.size; have F5 := hide (And.intro hs5 (And.intro hf5 hq5)); clear hs5 hf5 hb5 hq5))
      all_goals
            have HS2 := hide ((unhide HGB).step (t := ⟨s1, a5, en1, c5, ex1⟩) (unhide F5).2.2 ⟨(unhide F5).1, unhide HOk⟩ (unhide F5).2.1 (unhide F6).2.1 (unhide F6).1 (unhide F6).2.2 rfl)
            have HK2 := hide (show (T ++ [(⟨s1, a5, en1, c5, ex1⟩ : SetC)]).map SetC.key = (L.take (k + 1)).map SetC.key from by rw [unhide HTk, List.map_append, (unhide HKey).2]; rfl)
            clear z1 F6 F5 GB5 O5 z5 z6 q5c q6c g1 g2
            go_wp2_with fail
            exact ⟨⟨k + 1, _, _, by omega, by go_num, by rw [List.length_append, (unhide HKey).1]; rfl, unhide HK2, unhide HS2⟩, by simp [intOf]; omega⟩
    · have hlt' : ¬ (k : Int) < (n : Int) := by omega
      obtain rfl : n = k := by omega
      rw [show L.take n = L from List.take_of_length_le (by omega)] at hkey
      obtain ⟨a', c', rfl, hres⟩ := hst.resK (R := w.heap.size) (unhide HA1).2 hl hkey (Nat.le_refl _) (by omega)
      have R2 := (unhide HA1).1.keep hst.bel
      have r0 := R2.c0
      have r1 := R2.c1
      have f0 := R2.f0
      have f1 := R2.f1
      have T3 := R2.set (.int .i64 size) (.slice a' n c')
      have p0 := T3.c0
      have p1 := T3.c1
      have z0 := hst.two.c0
      have z1 := hst.two.c1
      have HRes := hide hres
      clear hst hkey hl R2 T3 hres
      go_wp2_with fail
      refine bodyPost_ret (by simp [results, Tryd.results24, go_sem, p0, p1]; try rfl) rfl ?_
      exact unhide HRes
end Go.Proofs.YtbendkndnojihabDoor
