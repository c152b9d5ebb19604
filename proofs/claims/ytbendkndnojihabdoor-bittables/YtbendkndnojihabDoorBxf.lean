/-
  bitset.Closure: its contract.
-/
import Derived.Test.YtbendkndnojihabDoorBxr
import Derived.Test.YtbendkndnojihabDoorBz3
import Derived.Test.YtbendkndnojihabDoorBv1
namespace Go.Proofs.YtbendkndnojihabDoor
open Go.RowKit Go.Deep
set_option linter.unusedVariables false

/-- Warshall's: ways that go over no numbers but those below k. -/
def waP (P : Nat → Nat → Bool) : Nat → Nat → Nat → Bool
  | 0 => P
  | k + 1 => fun i j => waP P k i j || (waP P k i k && waP P k k j)
theorem waP_row (P : Nat → Nat → Bool) (k j : Nat) : waP P (k + 1) k j = waP P k k j := by
  show (waP P k k j || (waP P k k k && waP P k k j)) = waP P k k j
  cases waP P k k j <;> simp
/-- In round k, the sets below m are through. -/
def waM (P : Nat → Nat → Bool) (k m i j : Nat) : Bool := if i < m then waP P (k + 1) i j else waP P k i j
theorem waM_k (P : Nat → Nat → Bool) (k m j : Nat) : waM P k m k j = waP P k k j := by
  unfold waM
  split
  · exact waP_row P k j
  · rfl
theorem waM_at (P : Nat → Nat → Bool) (k m j : Nat) : waM P k m m j = waP P k m j := by simp [waM]
theorem waM_step (P : Nat → Nat → Bool) (k m i j : Nat) (v : Bool) (hv : waP P k m k = v) : (if i = m then (waM P k m m j || (v && waM P k m k j)) else waM P k m i j) = waM P k (m + 1) i j := by
  by_cases c : i = m
  · subst c
    rw [if_pos rfl, waM_at, waM_k, ← hv]
    simp [waM, waP]
  · rw [if_neg c]
    unfold waM
    by_cases d : i < m
    · simp [d, show i < m + 1 from by omega]
    · simp [d, show ¬ i < m + 1 from by omega]
theorem TnI.congrB {w W : World} {B0 Rb Z T n sz : Nat} {bs cs : Nat → Nat} {P P' : Nat → Nat → Bool} {ds : List Nat} (h : TnI w W B0 Rb Z T n sz bs cs P ds) (e : ∀ i y, i < sz → y < 64 * nW n → P i y = P' i y) : TnI w W B0 Rb Z T n sz bs cs P' ds := by
  obtain ⟨F, h1, h2⟩ := h.tb
  exact ⟨h.bel, h.tr, h.tz, ⟨F, h1, fun i hi => (h2 i hi).congr (fun _ _ => rfl) (fun y hy => e i y hi hy)⟩, h.mks, h.hs⟩
/-- The words of one set are written, and are as they were. -/
theorem TnI.still {w W W' : World} {B0 Rb Z T n sz : Nat} {bs cs : Nat → Nat} {P : Nat → Nat → Bool} {ds : List Nat} (h : TnI w W B0 Rb Z T n sz bs cs P ds) (hR : w.heap.size ≤ Rb) (hZ : ∀ i, i < sz → bs i ≠ Z) (hB : ∀ i, i < sz → bs i < B0) {e : Nat} (he : e < sz) {F : Nat → Nat → Nat} (h1 : TbM (Rb + 1) W T sz (nW n) n F sz bs cs) (h2 : ∀ i, i < sz → RepB (nW n) (F i) (P i))
    (hc : Chg (fun j => j = bs e) W W') (hf : FnW W' (bs e) 0 (nW n) (F e)) : TnI w W' B0 Rb Z T n sz bs cs P ds := by
  have g := h1.ge e he
  refine ⟨h.bel.trans (hc.below h.bel.size (fun j hj => by omega)), h.tr.chg hc (by omega), h.tz.chg hc (fun x => hZ e he x.symm), ⟨F, (h1.upd he hc hf).congr (fun i j _ _ => by by_cases c : i = e <;> simp [c]), h2⟩, h.mks.chgB hc (fun k hk => by rw [hk]; exact hB e he), Nat.le_trans h.hs hc.size⟩

set_option maxHeartbeats 4000000 in
/-- bitset.Closure, refused. -/
theorem closure_no (s : Int) (a : Option Addr) (n c : Nat) (L : List SetC) (w : World) (h : SlS w a n c L) (hno : sqE s L ≠ 0) :
    Calls Tryd.prog 9 #[setV s a n c] w fun r w' => r = .returned (.tuple #[setV 0 none 0 0, .int .i64 (sqE s L)]) ∧ Below w.heap.size w w' := by
  have hle := h.le
  have hcap := h.cap
  unfold maxLen at hcap
  obtain ⟨wa, hwa⟩ : ∃ x, w.alloc (.cells #[.int .i64 s, .slice a n c] 24) = x := ⟨_, rfl⟩
  obtain ⟨wb, hwb⟩ : ∃ x, wa.alloc (.cells #[.int .i64 0, .slice none 0 0] 24) = x := ⟨_, rfl⟩
  have ba : Below w.heap.size w wa := by rw [← hwa]; exact (Below.refl _ _).alloc (Nat.le_refl _) _
  have bb : Below wa.heap.size wa wb := by rw [← hwb]; exact (Below.refl _ _).alloc (Nat.le_refl _) _
  have A0 : Two wb w.heap.size (.int .i64 s) (.slice a n c) := by
    refine Two.keep (w := wa) ?_ bb
    rw [← hwa]; exact Two.made _ _ _ _
  have R0 : Two wb wa.heap.size (.int .i64 0) (.slice none 0 0) := by rw [← hwb]; exact Two.made _ _ _ _
  have hB0 := ba.trans (bb.mono ba.size)
  have K := square_any s a n c L wb ((h.below ba).below bb)
  have la := ba.size
  have HA := hide (And.intro R0 hB0)
  have a0 := A0.c0
  have a1 := A0.c1
  unfold setV at K ⊢
  have hne : (sqE s L == 0) = false := by simpa using hno
  have hd : decide (sqE s L = 0) = false := by simpa using hno
  generalize sqE s L = E at *
  have HK := hide K
  clear hno A0 R0 h ba bb hB0 K
  go_enter Tryd.func9, Tryd.ntmps9
  go_wp2_with fail
  refine (unhide HK).mono ?_
  rintro _ wd ⟨rfl, hbd⟩
  have R1 := (unhide HA).1.keep hbd
  have r0 := R1.c0
  have r1 := R1.c1
  have f0 := R1.f0
  have f1 := R1.f1
  have T3 := R1.set (.int .i64 0) (.slice none 0 0)
  have p0 := T3.c0
  have p1 := T3.c1
  have HB := hide (two_below ((unhide HA).2.trans (hbd.mono (unhide HA).2.size)) wa.heap.size la (.int .i64 0) (.slice none 0 0))
  clear hbd R1 T3 a0 a1 hwa hwb
  go_wp2_with fail
  refine bodyPost_ret (by simp [results, Tryd.results9, go_sem, p0, p1]; try rfl) rfl ?_
  exact ⟨rfl, unhide HB⟩

theorem lst_ok {N : Nat} {f : Nat → Nat} {P : Nat → Bool} (h : RepB N f P) : OkW (lstG f N) := by
  intro x hx
  obtain ⟨i, hi, rfl⟩ := List.mem_map.1 hx
  exact (h i (List.mem_range.1 hi)).1
theorem lst_has {N : Nat} {f : Nat → Nat} {P : Nat → Bool} (h : RepB N f P) (y : Nat) (hy : y < 64 * N) : hasB (gW (lstG f N)) y = P y := by
  rw [← h.has y hy]
  have hq : y / 64 < N := by omega
  unfold hasB
  rw [show gW (lstG f N) (y / 64) = f (y / 64) from by simp [gW, lstG, List.getD, hq]]
theorem waM_self (P : Nat → Nat → Bool) (k i j : Nat) : waM P k k i j = waM P k (k + 1) i j := by
  unfold waM
  by_cases c : i < k
  · simp [c, show i < k + 1 from by omega]
  · by_cases d : i = k
    · subst d
      simp [waP_row]
    · simp [c, show ¬ i < k + 1 from by omega]
theorem waM_no (P : Nat → Nat → Bool) (k m i j : Nat) (hv : waP P k m k = false) : waM P k m i j = waM P k (m + 1) i j := by
  rw [← waM_step P k m i j false hv]
  by_cases c : i = m
  · subst c; simp
  · simp [c]
theorem waM_yes (P : Nat → Nat → Bool) (k m i j : Nat) (hv : waP P k m k = true) : (if i = m then (waM P k m m j || waM P k m k j) else waM P k m i j) = waM P k (m + 1) i j := by
  rw [← waM_step P k m i j true hv]
  simp

set_option maxHeartbeats 8000000 in
set_option maxRecDepth 100000 in
/-- bitset.Closure. -/
theorem closure_yes (a : Option Addr) (n c : Nat) (L : List SetC) (w : World) (h : SlS w a n c L) (hm : MayT n L = true) (hn : n ≤ 4096) :
    Calls Tryd.prog 9 #[setV n a n c] w fun r w' => ∃ v, r = .returned (.tuple #[v, .int .i64 0]) ∧ ∃ F, NewT w w' n n F v ∧ ∀ e, e < n → RepB (nW n) (F e) (waP (inT L) n e) := by
  have hle := h.le
  have hcap := h.cap
  unfold maxLen at hcap
  obtain ⟨wa, hwa⟩ : ∃ x, w.alloc (.cells #[.int .i64 (n : Int), .slice a n c] 24) = x := ⟨_, rfl⟩
  obtain ⟨wb, hwb⟩ : ∃ x, wa.alloc (.cells #[.int .i64 0, .slice none 0 0] 24) = x := ⟨_, rfl⟩
  have ba : Below w.heap.size w wa := by rw [← hwa]; exact (Below.refl _ _).alloc (Nat.le_refl _) _
  have bb : Below wa.heap.size wa wb := by rw [← hwb]; exact (Below.refl _ _).alloc (Nat.le_refl _) _
  have la : w.heap.size < wa.heap.size := by rw [← hwa]; simp
  have lb : wa.heap.size < wb.heap.size := by rw [← hwb]; simp
  have A0 : Two wb w.heap.size (.int .i64 (n : Int)) (.slice a n c) := by
    refine Two.keep (w := wa) ?_ bb
    rw [← hwa]; exact Two.made _ _ _ _
  have R0 : Two wb wa.heap.size (.int .i64 0) (.slice none 0 0) := by rw [← hwb]; exact Two.made _ _ _ _
  have hB0 := ba.trans (bb.mono ba.size)
  have K := square_any n a n c L wb ((h.below ba).below bb)
  rw [show sqE n L = 0 from by simp [sqE, hm, h.len]] at K
  have HA := hide (And.intro A0 (And.intro R0 hB0))
  have a0 := A0.c0
  have a1 := A0.c1
  have hu : ∀ i, i < n → (L.getD i .nul).s = (n : Int) ∧ (L.getD i .nul).n = nW n := by
    intro i hi
    have hkl : i < L.length := by rw [h.len]; exact hi
    have hmem : L.getD i .nul ∈ L := by
      have : L.getD i .nul = L[i] := by simp [List.getD, hkl]
      rw [this]; exact List.getElem_mem hkl
    have hg := h.get i hi
    have hmm := hm
    simp [MayT] at hmm
    generalize L.getD i .nul = e at *
    have h1 := hmm.2 _ hmem
    simp [badT] at h1
    refine ⟨h1.2, ?_⟩
    have h2 := MayS.len h1.1
    rw [hg.1.len, h1.2] at h2
    simpa using h2
  have HRep := hide (fun i (hi : i < n) => (show RepB (nW n) (fun j => (L.getD i .nul).xs.getD j 0) (inT L i) from RepB.self (fun j _ => gW_ok (h.get i hi).2 j)))
  have HU := hide hu
  have HSl := hide h
  unfold setV at K ⊢
  have HK := hide K
  clear hm A0 R0 h ba bb hB0 K hu
  go_enter Tryd.func9, Tryd.ntmps9
  go_wp2_with fail
  refine (unhide HK).mono ?_
  rintro _ wd ⟨rfl, hbd⟩
  have A1 := (unhide HA).1.keep hbd
  have R1 := (unhide HA).2.1.keep hbd
  have hB1 := (unhide HA).2.2.trans (hbd.mono (unhide HA).2.2.size)
  have K2 := copyTable_any n a n c L wd ((unhide HSl).below hB1) hn hn (unhide HU)
  have HK2 := hide K2
  clear a0 a1
  have b0 := A1.c0
  have b1 := A1.c1
  have ld := hbd.size
  have HA1 := hide (And.intro R1 hB1)
  clear A1 R1 hB1 hbd HA HK hwa hwb K2
  go_wp2_with fail
  refine (unhide HK2).mono ?_
  rintro _ we ⟨v, rfl, T, bs, cs, rfl, hTb, hbe⟩
  unfold setV
  obtain ⟨wz, hwz⟩ : ∃ y, we.alloc (.cells #[.int .i64 (n : Int), .slice (some ⟨T, 0, none⟩) n n] 24) = y := ⟨_, rfl⟩
  have hbz : Below we.heap.size we wz := by rw [← hwz]; exact (Below.refl _ _).alloc (Nat.le_refl _) _
  have tZ : Two wz we.heap.size (.int .i64 (n : Int)) (.slice (some ⟨T, 0, none⟩) n n) := by rw [← hwz]; exact Two.made _ _ _ _
  have lz : we.heap.size < wz.heap.size := by rw [← hwz]; simp
  have R2 := ((unhide HA1).1.keep hbe).keep hbz
  have hB2 := (unhide HA1).2.trans (hbe.mono (unhide HA1).2.size)
  have hB3 := hB2.trans (hbz.mono hB2.size)
  have le := hbe.size
  have z1 := tZ.c1
  have HGe := hide (fun i (hi : i < n) => hTb.ge i hi)
  have HI0 := hide (show TnI w wz wz.heap.size wa.heap.size we.heap.size T n n bs cs (waP (inT L) 0) [] from
    ⟨hB3, R2, tZ, ⟨_, (hTb.mono (by omega)).below hbz, fun e he => unhide HRep e he⟩, Marks.nil _ _, Nat.le_refl _⟩)
  clear hbe hTb hbz tZ R2 hB2 hB3 HA1 b0 b1 HRep HU HSl HK2
  go_wp2_with fail
  clear hwz z1
  go_loopw [24, 6, 7, 9] (fun i _ _ _ wr => ∃ k : Nat, k ≤ n ∧ i = .int .i64 k ∧ TnI w wr wz.heap.size wa.heap.size we.heap.size T n n bs cs (waP (inT L) k) []) (fun i _ _ _ _ => n - (intOf i).toNat)
  case atStart => exact ⟨0, Nat.zero_le _, rfl, unhide HI0⟩
  case round =>
    obtain ⟨k, hk, rfl, hst⟩ := hrel
    obtain ⟨W1, hW1⟩ : ∃ W1, W1 = wr := ⟨_, rfl⟩
    subst hW1
    by_cases hlt : k < n
    · have hlt' : (k : Int) < (n : Int) := by omega
      obtain ⟨F, hF1, hF2⟩ := hst.tb
      have t0 := (hF1.row k hlt).1
      have t1 := (hF1.row k hlt).2
      obtain ⟨wt, hwt⟩ : ∃ y, W1.alloc (.cells #[.int .i64 (n : Int), .slice (some ⟨bs k, 0, none⟩) (nW n) (cs k)] 35) = y := ⟨_, rfl⟩
      have hbt : Below W1.heap.size W1 wt := by rw [← hwt]; exact (Below.refl _ _).alloc (Nat.le_refl _) _
      have tT : Two wt W1.heap.size (.int .i64 (n : Int)) (.slice (some ⟨bs k, 0, none⟩) (nW n) (cs k)) := by rw [← hwt]; exact Two.made _ _ _ _
      have z2 := (hst.tz.keep hbt).c1
      have HIk := hide (And.intro ((hst.below hbt).congr (P' := waM (inT L) k 0) (fun i y _ => by simp [waM])) tT)
      have hBw := hst.hs
      clear hst hF1 hF2 hbt tT
      go_wp2_with fail
      clear t0 t1 z2 hwt
      go_loopw [32, 9] (fun i _ wr => ∃ m : Nat, m ≤ n ∧ i = .int .i64 m ∧ TnI w wr wz.heap.size wa.heap.size we.heap.size T n n bs cs (waM (inT L) k m) [] ∧ Two wr W1.heap.size (.int .i64 (n : Int)) (.slice (some ⟨bs k, 0, none⟩) (nW n) (cs k))) (fun i _ _ => n - (intOf i).toNat)
      case atStart => exact ⟨0, Nat.zero_le _, rfl, (unhide HIk).1, (unhide HIk).2⟩
      case round =>
        obtain ⟨m, hm, rfl, hsm, htm⟩ := hrel
        by_cases hmt : m < n
        · have hmt' : (m : Int) < (n : Int) := by omega
          obtain ⟨F, hF1, hF2⟩ := hsm.tb
          have t0 := (hF1.row m hmt).1
          have t1 := (hF1.row m hmt).2
          obtain ⟨ws, hws⟩ : ∃ y, wr.alloc (.cells #[.int .i64 (n : Int), .slice (some ⟨bs m, 0, none⟩) (nW n) (cs m)] 35) = y := ⟨_, rfl⟩
          have hbs : Below wr.heap.size wr ws := by rw [← hws]; exact (Below.refl _ _).alloc (Nat.le_refl _) _
          have tS : Two ws wr.heap.size (.int .i64 (n : Int)) (.slice (some ⟨bs m, 0, none⟩) (nW n) (cs m)) := by rw [← hws]; exact Two.made _ _ _ _
          have hF1s := hF1.below hbs
          have hI1 := hsm.below hbs
          have tM := htm.keep hbs
          obtain ⟨q, hq⟩ : ∃ q, k / 64 = q := ⟨_, rfl⟩
          have hqi : (k : Int) / 64 = (q : Int) := by omega
          have hqw : IntKind.i64.wrap (q : Int) = (q : Int) := by rw [wrap_i64]; omega
          have hqn : q < nW n := by unfold nW; omega
          have hqn' : (q : Int) < (nW n : Int) := by omega
          have hq0 : (0 : Int) ≤ (q : Int) := by omega
          have hr : k % 64 < 64 := Nat.mod_lt _ (by decide)
          have hx := (hF2 m hmt q hqn).1
          have htb := (hF2 m hmt q hqn).2 (k % 64) hr
          rw [show 64 * q + k % 64 = k from by omega, waM_at] at htb
          have g : ws.cell? ⟨bs m, q, none⟩ = some (vU (F m q)) := by
            have := (hF1s.words m hmt q hqn).1
            rwa [Nat.zero_add] at this
          unfold vU at g
          have KB := bit_any k
          have hmm := pow_lt64 hr
          have ha := u64_and_nat (F m q) (2 ^ (k % 64)) hx hmm
          have hT := (show (F m q).testBit (k % 64) = !(((F m q &&& 2 ^ (k % 64) : Nat) : Int) == 0) from tb_and _ _)
          rw [htb] at hT
          have hcm := hF1.cap m hmt
          have hcm1 := hcm.1
          have hcm2 : cs m ≤ 9223372036854775807 := by have := hcm.2; unfold maxLen at this; omega
          have hck := hF1.cap k hlt
          have hck1 := hck.1
          have hck2 : cs k ≤ 9223372036854775807 := by have := hck.2; unfold maxLen at this; omega
          have hNW : nW n ≤ 64 := by unfold nW; omega
          have HF := hide (And.intro hF1s hF2)
          have HI := hide (And.intro hI1 (And.intro tS tM))
          have s1 := tS.c1
          generalize F m q = x0 at *
          generalize 2 ^ (k % 64) = mm at *
          generalize x0 &&& mm = y at *
          have HKB := hide (fun x : Ext ws => (KB x.w (by omega)).mono (fun e w' (h : _ ∧ _) => (⟨h.1, by rw [h.2]; exact Below.refl _ _⟩ : _ ∧ Below x.w.heap.size x.w w')))
          have F1 := fun x : Ext ws => x.cell s1
          have FG := fun x : Ext ws => x.cell g
          have hNE := Ext.ne ws
          have hgm := unhide HGe m hmt
          have hgk := unhide HGe k hlt
          clear hF1 hF2 hF1s hI1 hsm htm tS tM KB htb hcm hck hbs g s1 hx
          cases hv : waP (inT L) k m k
          · rw [hv] at hT
            obtain rfl : y = 0 := by simpa using hT.symm
            have HV := hide hv
            clear hT hv
            go_wp2_with fail
            refine wp_region_ext (by kernel_rfl) (by kernel_rfl) ?_
            repeat (go_big_quiet_step (first | (go_at_call 40; rename_i x; exact Ext.call (unhide HKB x) (fun e w' h => h))))
            refine wpQuiet_nil ?_
            rintro _ ⟨x1, rfl⟩
            have HI2 := hide (And.intro (((unhide HI).1.below x1.bel).congr (P' := waM (inT L) k (m + 1)) (fun i y _ => waM_no _ _ _ _ _ (unhide HV))) ((unhide HI).2.2.keep x1.bel))
            clear F1 FG
            go_wp2_with fail
            exact ⟨⟨m + 1, by omega, by go_num, (unhide HI2).1, (unhide HI2).2⟩, by simp [intOf]; omega⟩
          · rw [hv] at hT
            have hy : ((y : Int) == 0) = false := by simpa using hT.symm
            have HV := hide hv
            clear hT hv
            go_wp2_with fail
            refine wp_region_ext (by kernel_rfl) (by kernel_rfl) ?_
            repeat (go_big_quiet_step (first | (go_at_call 40; rename_i x; exact Ext.call (unhide HKB x) (fun e w' h => h))))
            refine wpQuiet_nil ?_
            rintro _ ⟨x1, rfl⟩
            have hI2 := (unhide HI).1.below x1.bel
            have tS2 := (unhide HI).2.1.keep x1.bel
            have tM2 := (unhide HI).2.2.keep x1.bel
            have hF2 := (unhide HF).1.below x1.bel
            have s1 := tS2.c1
            have m1 := tM2.c1
            clear F1 FG
            by_cases hmk : m = k
            · subst hmk
              have K := unite_self (bs m) (nW n) (cs m) (F m) x1.w (hF2.words m hmt) (fun i hi => ((unhide HF).2 m hmt i hi).1) hNW (hF2.cap m hmt).2 (hF2.cap m hmt).1
              have HK := hide K
              have HI3 := hide (And.intro hI2 (And.intro tM2 hF2))
              clear hI2 tS2 tM2 hF2 K
              go_wp2_with fail
              refine (unhide HK).mono ?_
              rintro _ w1 ⟨rfl, hf1, hc1⟩
              have HI4 := hide (And.intro (((unhide HI3).1.still (by omega) (fun i hi => by have := (unhide HGe i hi).2.2; omega) (fun i hi => by have := (unhide HGe i hi).2.2; omega) hmt (unhide HI3).2.2 (unhide HF).2 hc1 hf1).congr (P' := waM (inT L) m (m + 1)) (fun i y _ => waM_self _ _ _ _)) ((unhide HI3).2.1.chg hc1 (by omega)))
              clear hf1 hc1
              go_wp2_with fail
              exact ⟨⟨m + 1, by omega, by go_num, (unhide HI4).1, (unhide HI4).2⟩, by simp [intOf]; omega⟩
            · have K := unite_any (bs m) (nW n) (cs m) (F m) (some ⟨bs k, 0, none⟩) (cs k) (lstG (F k) (nW n)) x1.w (hF2.words m hmt) (fun i hi => ((unhide HF).2 m hmt i hi).1) ((hF2.words k hlt).sl (d := 0) (hF2.cap k hlt).1 (hF2.cap k hlt).2) (lst_ok ((unhide HF).2 k hlt)) hNW (fun _ x hx => by cases hx; exact fun e => hmk (hF2.apart k m hlt hmt e).symm) (hF2.cap m hmt).2 (hF2.cap m hmt).1
              have HK := hide K
              have HI3 := hide (And.intro hI2 (And.intro tM2 hF2))
              clear hI2 tS2 tM2 hF2 K
              go_wp2_with fail
              refine (unhide HK).mono ?_
              rintro _ w1 ⟨rfl, hf1, hc1⟩
              have HI4 := hide (And.intro (((unhide HI3).1.unite (by omega) (fun i hi => by have := (unhide HGe i hi).2.2; omega) (fun i hi => by have := (unhide HGe i hi).2.2; omega) hmt (unhide HI3).2.2 (unhide HF).2 (lst_ok ((unhide HF).2 k hlt)) hc1 hf1).congrB (P' := waM (inT L) k (m + 1)) (fun i y _ hy => by rw [lst_has ((unhide HF).2 k hlt) y hy]; exact waM_yes _ _ _ _ _ (unhide HV))) ((unhide HI3).2.1.chg hc1 (by omega)))
              clear hf1 hc1
              go_wp2_with fail
              exact ⟨⟨m + 1, by omega, by go_num, (unhide HI4).1, (unhide HI4).2⟩, by simp [intOf]; omega⟩
        · have hmt' : ¬ (m : Int) < (n : Int) := by omega
          obtain rfl : m = n := by omega
          have HI2 := hide (hsm.congr (P' := waP (inT L) (k + 1)) (fun i y hi => by simp [waM, hi]))
          clear hsm htm
          go_wp2_with fail
          exact ⟨⟨k + 1, by omega, by go_num, unhide HI2⟩, by simp [intOf]; omega⟩
    · have hlt' : ¬ (k : Int) < (n : Int) := by omega
      obtain rfl : k = n := by omega
      have z0 := hst.tz.c0
      have z1 := hst.tz.c1
      have r0 := hst.tr.c0
      have r1 := hst.tr.c1
      have f0 := hst.tr.f0
      have f1 := hst.tr.f1
      have T3 := hst.tr.set (.int .i64 (k : Int)) (.slice (some ⟨T, 0, none⟩) k k)
      have p0 := T3.c0
      have p1 := T3.c1
      obtain ⟨F, hF1, hF2⟩ := hst.tb
      have hgT := hF1.tge
      have HR := hide (show ∃ F, NewT w ((W1.setCell ⟨wa.heap.size, 0, none⟩ (.int .i64 (k : Int))).setCell ⟨wa.heap.size, 1, none⟩ (.slice (some ⟨T, 0, none⟩) k k)) k k F (setV k (some ⟨T, 0, none⟩) k k) ∧ ∀ e, e < k → RepB (nW k) (F e) (waP (inT L) k e) from
        ⟨F, ⟨T, bs, cs, rfl, (hF1.chg (two_chg _ _ _ _) (by omega) (fun i hi => by have := (hF1.ge i hi).1; omega)).mono (by omega), two_below hst.bel _ (by omega) _ _⟩, hF2⟩)
      clear hst hF1 hF2 T3
      go_wp2_with fail
      refine bodyPost_ret (by simp [results, Tryd.results9, go_sem, p0, p1]; try rfl) rfl ?_
      exact ⟨_, rfl, unhide HR⟩
end Go.Proofs.YtbendkndnojihabDoor
