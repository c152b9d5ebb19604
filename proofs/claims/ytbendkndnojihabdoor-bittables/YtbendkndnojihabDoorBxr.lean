/-
  WHAT Product KEEPS IN ITS LOOP (the contract itself: Bxp).
-/
import Derived.Test.YtbendkndnojihabDoorBx5
import Derived.Test.YtbendkndnojihabDoorBx4
namespace Go.Proofs.YtbendkndnojihabDoor
open Go.RowKit Go.Deep Go.Shelf
set_option linter.unusedVariables false
attribute [local go_sem] Oper.semAt_some

theorem jor_rep {n : Nat} {f : Nat → Nat} {P : Nat → Bool} {xs : List Nat} (h : RepB n f P) (ho : OkW xs) : RepB n (jnF jOr f xs n) (fun y => P y || hasB (gW xs) y) := by
  intro i hi
  have hx : jnF jOr f xs n i = f i ||| gW xs i := by simp [jnF, hi, jOr, gW]
  rw [hx]
  refine ⟨or_lt64 (h i hi).1 (gW_ok ho i), fun j hj => ?_⟩
  show _ = (P (64 * i + j) || hasB (gW xs) (64 * i + j))
  rw [Nat.testBit_or, (h i hi).2 j hj, hasB_word _ _ _ hj]
/-- The union of the sets of B whose numbers Q has. -/
def prQ (B : List SetC) (m : Nat) (Q : Nat → Bool) (y : Nat) : Bool := (List.range m).any (fun e => Q e && inT B e y)
/-- In the loop of Product. -/
def prP (A B : List SetC) (m k : Nat) (Q : Nat → Bool) (i y : Nat) : Bool := (decide (i < k) && prQ B m (inT A i) y) || (decide (i = k) && Q y)
theorem TnI.unite {w W W' : World} {B0 Rb Z T n sz : Nat} {bs cs : Nat → Nat} {P : Nat → Nat → Bool} {ds : List Nat} (h : TnI w W B0 Rb Z T n sz bs cs P ds) (hR : w.heap.size ≤ Rb) (hZ : ∀ i, i < sz → bs i ≠ Z) (hB : ∀ i, i < sz → bs i < B0) {e : Nat} (he : e < sz) {F : Nat → Nat → Nat} (h1 : TbM (Rb + 1) W T sz (nW n) n F sz bs cs) (h2 : ∀ i, i < sz → RepB (nW n) (F i) (P i))
    {xs : List Nat} (ho : OkW xs) (hc : Chg (fun j => j = bs e) W W') (hf : FnW W' (bs e) 0 (nW n) (jnF jOr (F e) xs (nW n))) : TnI w W' B0 Rb Z T n sz bs cs (fun i y => if i = e then (P e y || hasB (gW xs) y) else P i y) ds := by
  have g := h1.ge e he
  refine ⟨h.bel.trans (hc.below h.bel.size (fun j hj => by omega)), h.tr.chg hc (by omega), h.tz.chg hc (fun x => hZ e he x.symm), ⟨_, h1.upd he hc hf, fun i hi => ?_⟩, h.mks.chgB hc (fun k hk => by rw [hk]; exact hB e he), Nat.le_trans h.hs hc.size⟩
  by_cases c : i = e
  · subst c
    simp only [if_true]
    exact jor_rep (h2 i hi) ho
  · simp only [if_neg c]
    exact h2 i hi
/-- What has come so far. -/
def prE (B : List SetC) {m : Nat} {xs : List Nat} (pre : List (Elem m xs)) (y : Nat) : Bool := pre.any (fun z => inT B z.val y)
theorem prP_put (A B : List SetC) (mm k : Nat) {m : Nat} {xs : List Nat} (pre : List (Elem m xs)) (x : Elem m xs) {ys : List Nat} (hy : (B.getD x.val .nul).xs = ys) (i y : Nat) : (if i = k then (prP A B mm k (prE B pre) k y || hasB (gW ys) y) else prP A B mm k (prE B pre) i y) = prP A B mm k (prE B (pre ++ [x])) i y := by
  unfold prP
  by_cases c : i = k
  · subst c
    simp [prE, inT]
    rw [← hy]
    rfl
  · rw [if_neg c]
    simp [c]
theorem prP_done (A B : List SetC) (mm k : Nat) {m : Nat} (xs : List Nat) (hx : (A.getD k .nul).xs = xs) {ys : List (Elem m xs)} (h : ys.map (·.val) = elN (hasB (gW xs)) (64 * m)) (hz : ∀ y, mm ≤ y → y < 64 * m → hasB (gW xs) y = false) (hm : mm ≤ 64 * m) (i y : Nat) : prP A B mm k (prE B ys) i y = prP A B mm (k + 1) (fun _ => false) i y := by
  have e : prE B ys y = prQ B mm (hasB (gW xs)) y := by
    have e1 : prE B ys y = (ys.map (·.val)).any (fun z => inT B z y) := by unfold prE; rw [List.any_map]; rfl
    rw [e1, h, Bool.eq_iff_iff]
    unfold prQ
    simp only [List.any_eq_true, elN_mem, List.mem_range, Bool.and_eq_true]
    constructor
    · rintro ⟨z, ⟨h1, h2⟩, h3⟩
      refine ⟨z, ?_, h2, h3⟩
      rcases Nat.lt_or_ge z mm with c | c
      · exact c
      · rw [hz z c h1] at h2; cases h2
    · rintro ⟨z, h1, h2, h3⟩
      exact ⟨z, ⟨by omega, h2⟩, h3⟩
  have e2 : prQ B mm (inT A k) y = prQ B mm (hasB (gW xs)) y := by
    unfold prQ inT
    rw [hx]
  unfold prP
  by_cases d : i = k
  · subst d
    rw [e, ← e2]
    simp
  · by_cases d2 : i < k
    · simp [d, d2, show i < k + 1 from by omega]
    · simp [d, d2, show ¬ i < k + 1 from by omega]
end Go.Proofs.YtbendkndnojihabDoor

namespace Go.Proofs.YtbendkndnojihabDoor
open Go.RowKit Go.Deep
set_option linter.unusedVariables false

def sqE (s : Int) (L : List SetC) : Int := if MayT s L then (if (L.length : Int) = s then 0 else 60) else 61
set_option maxHeartbeats 4000000 in
/-- bitset.square. -/
theorem square_any (s : Int) (a : Option Addr) (n c : Nat) (L : List SetC) (w : World) (h : SlS w a n c L) :
    Calls Tryd.prog 38 #[setV s a n c] w fun r w' => r = .returned (.int .i64 (sqE s L)) ∧ Below w.heap.size w w' := by
  have hl := h.len
  have hle := h.le
  have hcap := h.cap
  unfold maxLen at hcap
  obtain ⟨wa, hwa⟩ : ∃ x, w.alloc (.cells #[.int .i64 s, .slice a n c] 24) = x := ⟨_, rfl⟩
  have ba : Below w.heap.size w wa := by rw [← hwa]; exact (Below.refl _ _).alloc (Nat.le_refl _) _
  have A0 : Two wa w.heap.size (.int .i64 s) (.slice a n c) := by rw [← hwa]; exact Two.made _ _ _ _
  have K := mayT_any s a n c L wa (h.below ba)
  have HA := hide (And.intro A0 ba)
  have a0 := A0.c0
  have a1 := A0.c1
  unfold setV at K ⊢
  clear h A0 ba
  cases m : MayT s L
  · rw [m] at K
    have e : sqE s L = 61 := by simp [sqE, m]
    rw [e]
    have HK := hide K
    clear K m e
    go_enter Tryd.func38, Tryd.ntmps38
    go_wp2_with fail
    refine (unhide HK).mono ?_
    rintro _ wd ⟨rfl, hbd⟩
    have HB := hide ((unhide HA).2.trans (hbd.mono (unhide HA).2.size))
    clear hbd a0 a1
    go_wp2_with fail
    go_ret
    exact ⟨rfl, unhide HB⟩
  · rw [m] at K
    have HK := hide K
    by_cases hs : (n : Int) = s
    · have e : sqE s L = 0 := by simp [sqE, m, hl, hs]
      rw [e]
      subst hs
      clear K m e
      go_enter Tryd.func38, Tryd.ntmps38
      go_wp2_with fail
      refine (unhide HK).mono ?_
      rintro _ wd ⟨rfl, hbd⟩
      have HB := hide ((unhide HA).2.trans (hbd.mono (unhide HA).2.size))
      have A1 := (unhide HA).1.keep hbd
      clear a0 a1
      have a0 := A1.c0
      have a1 := A1.c1
      clear hbd A1
      go_wp2_with fail
      go_ret
      exact ⟨rfl, unhide HB⟩
    · have e : sqE s L = 60 := by simp [sqE, m, hl, hs]
      rw [e]
      have hs' : ((n : Int) == s) = false := by simpa using hs
      clear K m e
      go_enter Tryd.func38, Tryd.ntmps38
      go_wp2_with fail
      refine (unhide HK).mono ?_
      rintro _ wd ⟨rfl, hbd⟩
      have HB := hide ((unhide HA).2.trans (hbd.mono (unhide HA).2.size))
      have A1 := (unhide HA).1.keep hbd
      clear a0 a1
      have a0 := A1.c0
      have a1 := A1.c1
      clear hbd A1
      go_wp2_with fail
      go_ret
      exact ⟨rfl, unhide HB⟩

set_option maxHeartbeats 4000000 in
/-- bitset.Turn, refused. -/
theorem turn_no (s : Int) (a : Option Addr) (n c : Nat) (L : List SetC) (w : World) (h : SlS w a n c L) (hm : MayT s L = false) :
    Calls Tryd.prog 25 #[setV s a n c] w fun r w' => r = .returned (.tuple #[setV 0 none 0 0, .int .i64 61]) ∧ Below w.heap.size w w' := by
  have hle := h.le
  have hcap := h.cap
  unfold maxLen at hcap
  obtain ⟨wa, hwa⟩ : ∃ x, w.alloc (.cells #[.int .i64 s, .slice a n c] 24) = x := ⟨_, rfl⟩
  obtain ⟨wb, hwb⟩ : ∃ x, wa.alloc (.cells #[.int .i64 0, .slice none 0 0] 24) = x := ⟨_, rfl⟩
  have ba : Below w.heap.size w wa := by rw [← hwa]; exact (Below.refl _ _).alloc (Nat.le_refl _) _
  have bb : Below wa.heap.size wa wb := by rw [← hwb]; exact (Below.refl _ _).alloc (Nat.le_refl _) _
  have A0 : Two wb w.heap.size (.int .i64 s) (.slice a n c) := by
    refine Two.keep (w := wa) ?_ bb
    rw [← hwa]; exact Two.made _ _ _ _
  have R0 : Two wb wa.heap.size (.int .i64 0) (.slice none 0 0) := by rw [← hwb]; exact Two.made _ _ _ _
  have hB0 := ba.trans (bb.mono ba.size)
  have K := mayT_any s a n c L wb ((h.below ba).below bb)
  have la := ba.size
  have HA := hide (And.intro R0 hB0)
  have a0 := A0.c0
  have a1 := A0.c1
  unfold setV at K ⊢
  rw [hm] at K
  have HK := hide K
  clear hm A0 R0 h ba bb hB0 K
  go_enter Tryd.func25, Tryd.ntmps25
  go_wp2_with fail
  refine (unhide HK).mono ?_
  rintro _ wd ⟨rfl, hbd⟩
  have R1 := (unhide HA).1.keep hbd
  have r0 := R1.c0
  have r1 := R1.c1
  have f0 := R1.f0
  have f1 := R1.f1
  have T3 := R1.set (.int .i64 0) (.slice none 0 0)
  have p0 := T3.c0
  have p1 := T3.c1
  have HB := hide (two_below ((unhide HA).2.trans (hbd.mono (unhide HA).2.size)) wa.heap.size la (.int .i64 0) (.slice none 0 0))
  clear hbd R1 T3 a0 a1 hwa hwb
  go_wp2_with fail
  refine bodyPost_ret (by simp [results, Tryd.results25, go_sem, p0, p1]; try rfl) rfl ?_
  exact ⟨rfl, unhide HB⟩
end Go.Proofs.YtbendkndnojihabDoor

namespace Go.Proofs.YtbendkndnojihabDoor
open Go.RowKit Go.Deep
set_option linter.unusedVariables false

/-- In the loop of Both. -/
def boP (L : List SetC) (n k e y : Nat) : Bool := (decide (y < n) && inT L y e) || (decide (e < k) && inT L e y)

set_option maxHeartbeats 8000000 in
set_option maxRecDepth 100000 in
/-- bitset.Both. -/
theorem both_yes (a : Option Addr) (n c : Nat) (L : List SetC) (w : World) (h : SlS w a n c L) (hm : MayT n L = true) (hn : n ≤ 4096) (hT : Tab64 w) :
    Calls Tryd.prog 32 #[setV n a n c] w fun r w' => ∃ v, r = .returned (.tuple #[v, .int .i64 0]) ∧ ∃ F, NewT w w' n n F v ∧ ∀ e, e < n → RepB (nW n) (F e) (boP L n n e) := by
  have hle := h.le
  have hcap := h.cap
  unfold maxLen at hcap
  obtain ⟨wa, hwa⟩ : ∃ x, w.alloc (.cells #[.int .i64 (n : Int), .slice a n c] 24) = x := ⟨_, rfl⟩
  obtain ⟨wb, hwb⟩ : ∃ x, wa.alloc (.cells #[.int .i64 0, .slice none 0 0] 24) = x := ⟨_, rfl⟩
  have ba : Below w.heap.size w wa := by rw [← hwa]; exact (Below.refl _ _).alloc (Nat.le_refl _) _
  have bb : Below wa.heap.size wa wb := by rw [← hwb]; exact (Below.refl _ _).alloc (Nat.le_refl _) _
  have la : w.heap.size < wa.heap.size := by rw [← hwa]; simp
  have lb : wa.heap.size < wb.heap.size := by rw [← hwb]; simp
  have A0 : Two wb w.heap.size (.int .i64 (n : Int)) (.slice a n c) := by
    refine Two.keep (w := wa) ?_ bb
    rw [← hwa]; exact Two.made _ _ _ _
  have R0 : Two wb wa.heap.size (.int .i64 0) (.slice none 0 0) := by rw [← hwb]; exact Two.made _ _ _ _
  have hB0 := ba.trans (bb.mono ba.size)
  have K := square_any n a n c L wb ((h.below ba).below bb)
  rw [show sqE n L = 0 from by simp [sqE, hm, h.len]] at K
  have HA := hide (And.intro A0 (And.intro R0 hB0))
  have a0 := A0.c0
  have a1 := A0.c1
  have HM := hide hm
  have HSl := hide h
  have HT := hide hT
  unfold setV at K ⊢
  have HK := hide K
  clear hm A0 R0 h hT ba bb hB0 K
  go_enter Tryd.func32, Tryd.ntmps32
  go_wp2_with fail
  refine (unhide HK).mono ?_
  rintro _ wd ⟨rfl, hbd⟩
  have A1 := (unhide HA).1.keep hbd
  have R1 := (unhide HA).2.1.keep hbd
  have hB1 := (unhide HA).2.2.trans (hbd.mono (unhide HA).2.2.size)
  have K2 := turn_yes n a n c L wd ((unhide HSl).below hB1) (unhide HM) hn hn ((unhide HT).below hB1)
  unfold setV at K2
  have HK2 := hide K2
  clear a0 a1
  have b0 := A1.c0
  have b1 := A1.c1
  have ld := hbd.size
  have HA1 := hide (And.intro A1 (And.intro R1 hB1))
  clear A1 R1 hB1 hbd HA HK hwa hwb K2
  go_wp2_with fail
  refine (unhide HK2).mono ?_
  rintro _ we ⟨v, rfl, F0, ⟨T, bs, cs, rfl, hTb, hbe⟩, hF0⟩
  unfold setV
  obtain ⟨wz, hwz⟩ : ∃ y, we.alloc (.cells #[.int .i64 (n : Int), .slice (some ⟨T, 0, none⟩) n n] 24) = y := ⟨_, rfl⟩
  have hbz : Below we.heap.size we wz := by rw [← hwz]; exact (Below.refl _ _).alloc (Nat.le_refl _) _
  have tZ : Two wz we.heap.size (.int .i64 (n : Int)) (.slice (some ⟨T, 0, none⟩) n n) := by rw [← hwz]; exact Two.made _ _ _ _
  have lz : we.heap.size < wz.heap.size := by rw [← hwz]; simp
  have A2 := ((unhide HA1).1.keep hbe).keep hbz
  have R2 := ((unhide HA1).2.1.keep hbe).keep hbz
  have hB2 := (unhide HA1).2.2.trans (hbe.mono (unhide HA1).2.2.size)
  have hB3 := hB2.trans (hbz.mono hB2.size)
  have d1 := A2.c1
  have le := hbe.size
  have HGe := hide (fun i (hi : i < n) => hTb.ge i hi)
  have HI0 := hide (show TnI w wz wz.heap.size wa.heap.size we.heap.size T n n bs cs (boP L n 0) [] from
    ⟨hB3, R2, tZ, ⟨_, (hTb.mono (by omega)).below hbz, fun e he => (hF0 e he).congr (fun _ _ => rfl) (fun y _ => by simp [boP])⟩, Marks.nil _ _, Nat.le_refl _⟩)
  clear hbe hTb hbz tZ A2 R2 hB2 hB3 HA1 b0 b1 hF0
  go_wp2_with fail
  clear d1 hwz
  go_loopw [23, 7, 8] (fun i _ _ wr => ∃ k : Nat, k ≤ n ∧ i = .int .i64 k ∧ TnI w wr wz.heap.size wa.heap.size we.heap.size T n n bs cs (boP L n k) []) (fun i _ _ _ => n - (intOf i).toNat)
  case atStart => exact ⟨0, Nat.zero_le _, rfl, unhide HI0⟩
  case round =>
    obtain ⟨k, hk, rfl, hst⟩ := hrel
    by_cases hlt : k < n
    · have hlt' : (k : Int) < (n : Int) := by omega
      have hS := (unhide HSl).below hst.bel
      obtain ⟨b, off, rfl, hcells⟩ := hS.at (by omega)
      have g1 := (hcells k hlt).1
      have g2 := (hcells k hlt).2
      obtain ⟨e, he⟩ : ∃ e, L.getD k .nul = e := ⟨_, rfl⟩
      have hin := hS.get k hlt
      have hin0 := (unhide HSl).get k hlt
      have hmay : MayS e.s e.xs = true ∧ e.s = (n : Int) := by
        have hkl : k < L.length := by rw [(unhide HSl).len]; exact hlt
        have hmem : e ∈ L := by
          have : L.getD k .nul = L[k] := by simp [List.getD, hkl]
          rw [← he, this]; exact List.getElem_mem hkl
        have hmm := unhide HM
        simp [MayT] at hmm
        have := hmm.2 _ hmem
        simp [badT] at this
        exact this
      rw [he] at g1 g2 hin hin0
      have HE := hide (show ∀ y, inT L k y = hasB (gW e.xs) y from fun y => by unfold inT; rw [he])
      obtain ⟨es, ea, en, ec, exs⟩ := e
      simp only at g1 g2 hmay
      obtain ⟨m2, rfl⟩ := hmay
      have hgn : en = nW n := by have := MayS.len m2; rw [hin.1.len] at this; simpa using this
      subst hgn
      obtain ⟨F, hF1, hF2⟩ := hst.tb
      have hNW : nW n ≤ 64 := by unfold nW; omega
      have hcp := hF1.cap k hlt
      have hcw : cs k ≤ 9223372036854775807 := by have := hcp.2; unfold maxLen at this; omega
      have hcn := hcp.1
      have hgl := hin.1.le
      have hgc := hin.1.cap
      have hgc' : ec ≤ 9223372036854775807 := by unfold maxLen at hgc; omega
      have hgk := unhide HGe k hlt
      obtain ⟨ws, hws⟩ : ∃ y, wr.alloc (.cells #[.int .i64 (n : Int), .slice ea (nW n) ec] 35) = y := ⟨_, rfl⟩
      have hbs : Below wr.heap.size wr ws := by rw [← hws]; exact (Below.refl wr.heap.size wr).alloc (Nat.le_refl _) _
      have tS : Two ws wr.heap.size (.int .i64 (n : Int)) (.slice ea (nW n) ec) := by rw [← hws]; exact Two.made _ _ _ _
      have s1 := tS.c1
      have hI1 := hst.below hbs
      have hF1s := hF1.below hbs
      have t0 := (hF1s.row k hlt).1
      have t1 := (hF1s.row k hlt).2
      have z1 := hI1.tz.c1
      have HP := hide (fun (w' : World) (hb : Below ws.heap.size ws w') => unite_any (bs k) (nW n) (cs k) (F k) ea ec exs w' ((hF1s.words k hlt).below hb) (fun i hi => (hF2 k hlt i hi).1) ((hin.1.below hbs).below hb) hin.2 hNW
        (fun h0 x hx => by
          obtain ⟨b9, o9, e9, k9⟩ := hin0.1.at h0
          have e9' : ea = some ⟨b9, o9, none⟩ := e9
          rw [e9'] at hx
          cases hx
          have h9 : b9 < w.heap.size := World.block_lt_of_cell? _ _ (k9 0 h0)
          show ¬ b9 = bs k
          omega) hcp.2 hcp.1)
      have HI := hide hI1
      have HF := hide (And.intro hF1s hF2)
      have HOx := hide hin.2
      clear hcells hin hin0 hS hst hF1 hF2 hF1s hI1 tS m2 he hcp hgc hbs
      go_wp2_with fail
      go_region_with (
        go_at_call 41
        refine (unhide HP _ (by first | exact Below.refl _ _ | exact (Below.refl _ _).drew)).mono ?_
        rintro _ w1 ⟨rfl, hf1, hc1⟩
        have HC := hide (And.intro hf1 hc1)
        clear hf1 hc1)
      all_goals
        have hcw2 : Chg (fun j => j = bs k) ws w1 := (Chg.of_below (Below.refl ws.heap.size ws).drew).trans (unhide HC).2
        have HI2 := hide (((unhide HI).unite (by omega) (fun i hi => by have := (unhide HGe i hi).2.2; omega) (fun i hi => by have := (unhide HGe i hi).2.2; omega) hlt (unhide HF).1 (unhide HF).2 (unhide HOx) hcw2 (unhide HC).1).congr (P' := boP L n (k + 1)) (fun i y hi => by
          unfold boP
          by_cases d : i = k
          · rw [if_pos d, d, ← unhide HE y]
            simp
          · rw [if_neg d]
            by_cases d2 : i < k
            · simp [d2, show i < k + 1 from by omega]
            · simp [d2, show ¬ i < k + 1 from by omega]))
        clear hcw2
        go_wp2_with fail
        exact ⟨⟨k + 1, by omega, by go_num, unhide HI2⟩, by simp [intOf]; omega⟩
    · have hlt' : ¬ (k : Int) < (n : Int) := by omega
      obtain rfl : k = n := by omega
      have z0 := hst.tz.c0
      have z1 := hst.tz.c1
      have r0 := hst.tr.c0
      have r1 := hst.tr.c1
      have f0 := hst.tr.f0
      have f1 := hst.tr.f1
      have T3 := hst.tr.set (.int .i64 (k : Int)) (.slice (some ⟨T, 0, none⟩) k k)
      have p0 := T3.c0
      have p1 := T3.c1
      obtain ⟨F, hF1, hF2⟩ := hst.tb
      have hgT := hF1.tge
      have HR := hide (show ∃ F, NewT w ((wr.setCell ⟨wa.heap.size, 0, none⟩ (.int .i64 (k : Int))).setCell ⟨wa.heap.size, 1, none⟩ (.slice (some ⟨T, 0, none⟩) k k)) k k F (setV k (some ⟨T, 0, none⟩) k k) ∧ ∀ e, e < k → RepB (nW k) (F e) (boP L k k e) from
        ⟨F, ⟨T, bs, cs, rfl, (hF1.chg (two_chg _ _ _ _) (by omega) (fun i hi => by have := (hF1.ge i hi).1; omega)).mono (by omega), two_below hst.bel _ (by omega) _ _⟩, hF2⟩)
      clear hst hF1 hF2 T3
      go_wp2_with fail
      refine bodyPost_ret (by simp [results, Tryd.results32, go_sem, p0, p1]; try rfl) rfl ?_
      exact ⟨_, rfl, unhide HR⟩
end Go.Proofs.YtbendkndnojihabDoor

namespace Go.Proofs.YtbendkndnojihabDoor
open Go.RowKit Go.Deep Go.Shelf
set_option linter.unusedVariables false

theorem wpOpIn_round {F : Fence} {l n : Nat} {P : Program} {ops : Array Oper} {Q : Exit → Act → World → Prop} (hro : F.round = none) {i : Nat} {o : Oper} (ho : ops[i]? = some o) (hno : ∀ c, o.op ≠ .defer c) {K : Act → World → Prop} {a : Act} {w : World}
    (h : wpOpIn F n P ops Q i K a w) : wpOpIn (F.inRound l) n P ops Q i K a w := by
  unfold wpOpIn at *
  simp only [ho] at *
  split
  · rename_i hw
    simp only [hw, if_true] at h
    unfold Oper.wpIn at *
    refine ⟨h.1, ?_⟩
    have h := h.2
    rw [hro, Oper.semAt_none] at h
    rw [show (F.inRound l).round = some l from rfl, Oper.semAt_some _ _ _ hno]
    generalize (execOp a.eval o).run P w = r at *
    cases r with
    | ok x w' => cases x <;> exact h
    | halt x w' => cases x <;> exact h
  · rename_i hw
    simp only [hw] at h
    exact h
theorem wpAnyIn_round {F : Fence} {l n : Nat} {P : Program} {md : Region.Mode} {ops : Array Oper} {Q : Exit → Act → World → Prop} (hro : F.round = none) (hno : ∀ (i : Nat) (o : Oper), ops[i]? = some o → ∀ c, o.op ≠ .defer c) :
    ∀ (fuel : Nat) (listed : Array Bool) (a : Act) (w : World), wpAnyIn F n P md ops Q fuel listed a w → wpAnyIn (F.inRound l) n P md ops Q fuel listed a w
  | 0, listed, a, w, h => h
  | fuel + 1, listed, a, w, h => by
    refine ⟨h.1, fun i hi => ?_⟩
    have h2 := h.2 i hi
    obtain ⟨_, o, ho, _⟩ := mem_ready.1 hi
    exact wpOpIn_round hro ho (hno i o ho) (wpOpIn_mono (fun a w => wpAnyIn_round hro hno fuel _ a w) h2)
def plainO (o : Oper) : Bool := match o.op with | .defer _ => false | _ => true
theorem plain_all {ops : Array Oper} (h : ops.toList.all plainO = true) : ∀ (i : Nat) (o : Oper), ops[i]? = some o → ∀ c, o.op ≠ .defer c := by
  intro i o ho c e
  have hm : o ∈ ops.toList := by
    rw [← Array.getElem?_toList] at ho
    exact List.mem_of_getElem? ho
  have := List.all_eq_true.1 h o hm
  simp [plainO, e] at this
end Go.Proofs.YtbendkndnojihabDoor
