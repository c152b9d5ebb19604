/-
  bitset.Turn: its contract.
-/
import Derived.Test.YtbendkndnojihabDoorBx4
import Derived.Sort.LoopGhostIn
namespace Go.Proofs.YtbendkndnojihabDoor
open Go.RowKit Go.Deep Go.Shelf
set_option linter.unusedVariables false
attribute [local go_sem] Oper.semAt_some

theorem Marks.chgB {B : Nat} {S : Nat → Prop} {W W' : World} {ds : List Nat} (h : Marks B W ds) (hc : Chg S W W') (hS : ∀ k, S k → k < B) : Marks B W' ds :=
  ⟨h.nodup, h.ge, fun D hD => by
    rw [hc.block D (h.lt D hD) (fun hs => by have := hS D hs; have := h.ge D hD; omega)]
    exact h.blk D hD⟩
/-- Is e in set y? -/
def inT (L : List SetC) (y e : Nat) : Bool := hasB (gW (L.getD y .nul).xs) e
/-- In the loop of Turn: of the first k sets, and of those numbers of set k that have come. -/
def tuP (L : List SetC) (k : Nat) (Q : Nat → Bool) (e y : Nat) : Bool := (decide (y < k) && inT L y e) || (decide (y = k) && Q e)
theorem tuP_put (L : List SetC) (k : Nat) {m : Nat} {xs : List Nat} (pre : List (Elem m xs)) (x : Elem m xs) (i y : Nat) : (if i = x.val then (y == k || tuP L k (fun e => pre.any (fun z => z.val == e)) x.val y) else tuP L k (fun e => pre.any (fun z => z.val == e)) i y) = tuP L k (fun e => (pre ++ [x]).any (fun z => z.val == e)) i y := by
  unfold tuP
  by_cases c : i = x.val
  · rw [if_pos c, c]
    by_cases d : y = k
    · subst d; simp
    · simp [d]
  · rw [if_neg c]
    have : (x.val == i) = false := by simp; omega
    simp only [List.any_append, List.any_cons, List.any_nil, this, Bool.or_false]
theorem tuP_done (L : List SetC) (k : Nat) {m : Nat} (xs : List Nat) (hx : (L.getD k .nul).xs = xs) {ys : List (Elem m xs)} (h : ys.map (·.val) = elN (hasB (gW xs)) (64 * m)) (i y : Nat) (hi : i < 64 * m) : tuP L k (fun e => ys.any (fun z => z.val == e)) i y = tuP L (k + 1) (fun _ => false) i y := by
  have e : ys.any (fun z => z.val == i) = hasB (gW xs) i := by
    have e1 : ys.any (fun z => z.val == i) = (ys.map (·.val)).any (fun z => z == i) := by rw [List.any_map]; rfl
    rw [e1, h, Bool.eq_iff_iff, List.any_eq_true]
    constructor
    · rintro ⟨z, h1, h2⟩
      have : z = i := by simpa using h2
      rw [← this]; exact (elN_mem.1 h1).2
    · intro h1
      exact ⟨i, elN_mem.2 ⟨hi, h1⟩, by simp⟩
  unfold tuP
  simp only [e]
  by_cases d : y = k
  · subst d
    unfold inT
    rw [hx]
    simp
  · by_cases d2 : y < k
    · simp [d, d2, show y < k + 1 from by omega]
    · simp [d, d2, show ¬ y < k + 1 from by omega]
structure TnI (w W : World) (B0 Rb Z T n sz : Nat) (bs cs : Nat → Nat) (P : Nat → Nat → Bool) (ds : List Nat) : Prop where
  bel : Below w.heap.size w W
  tr : Two W Rb (.int .i64 0) (.slice none 0 0)
  tz : Two W Z (.int .i64 (n : Int)) (.slice (some ⟨T, 0, none⟩) sz sz)
  tb : ∃ F, TbM (Rb + 1) W T sz (nW n) n F sz bs cs ∧ ∀ e, e < sz → RepB (nW n) (F e) (P e)
  mks : Marks B0 W ds
  hs : B0 ≤ W.heap.size
theorem TnI.below {w W W' : World} {B0 Rb Z T n sz : Nat} {bs cs : Nat → Nat} {P : Nat → Nat → Bool} {ds : List Nat} (h : TnI w W B0 Rb Z T n sz bs cs P ds) (hb : Below W.heap.size W W') : TnI w W' B0 Rb Z T n sz bs cs P ds := by
  obtain ⟨F, h1, h2⟩ := h.tb
  exact ⟨h.bel.trans (hb.mono h.bel.size), h.tr.keep hb, h.tz.keep hb, ⟨F, h1.below hb, h2⟩, h.mks.below hb, Nat.le_trans h.hs hb.size⟩
theorem TnI.own {β : Type} {w : World} {B B0 Rb Z T n sz : Nat} {bs cs : Nat → Nat} (P : β → Nat → Nat → Bool) (ds : List Nat) (hB : w.heap.size ≤ B) (hd : ∀ D ∈ ds, D < B) : OwnFrom B (fun (s : β) W => TnI w W B0 Rb Z T n sz bs cs (P s) ds) := by
  intro s W W' row h hg hr
  have hr' : ∀ r, row = some r → ∃ o : Obj, W.heap[r]? = some o ∧ o.isCells = false := fun r e => (hr r e).2
  obtain ⟨F, h1, h2⟩ := h.tb
  exact ⟨h.bel.grown hg h.bel.size (fun k e => Nat.le_trans hB (hr k e).1), h.tr.own hg hr', h.tz.own hg hr', ⟨F, h1.own hg hr', h2⟩, marks_own (β := β) B0 B ds hd s W W' row h.mks hg hr, Nat.le_trans h.hs hg.size⟩
theorem TnI.congr {w W : World} {B0 Rb Z T n sz : Nat} {bs cs : Nat → Nat} {P P' : Nat → Nat → Bool} {ds : List Nat} (h : TnI w W B0 Rb Z T n sz bs cs P ds) (e : ∀ i y, i < sz → P i y = P' i y) : TnI w W B0 Rb Z T n sz bs cs P' ds := by
  obtain ⟨F, h1, h2⟩ := h.tb
  exact ⟨h.bel, h.tr, h.tz, ⟨F, h1, fun i hi => (h2 i hi).congr (fun _ _ => rfl) (fun y _ => e i y hi)⟩, h.mks, h.hs⟩
/-- One number is put into set e. -/
theorem TnI.put {w W W' : World} {B0 Rb Z T n sz : Nat} {bs cs : Nat → Nat} {P : Nat → Nat → Bool} {ds : List Nat} (h : TnI w W B0 Rb Z T n sz bs cs P ds) (hR : w.heap.size ≤ Rb) (hZ : ∀ i, i < sz → bs i ≠ Z) (hB : ∀ i, i < sz → bs i < B0) {e q : Nat} (he : e < sz) (hq : q / 64 < nW n) {F : Nat → Nat → Nat} (h1 : TbM (Rb + 1) W T sz (nW n) n F sz bs cs) (h2 : ∀ i, i < sz → RepB (nW n) (F i) (P i))
    (hc : Chg (fun j => j = bs e) W W') (hf : FnW W' (bs e) 0 (nW n) (fun i => if i = q / 64 then F e (q / 64) ||| 2 ^ (q % 64) else F e i)) : TnI w W' B0 Rb Z T n sz bs cs (fun i y => if i = e then (y == q || P e y) else P i y) ds := by
  have g := h1.ge e he
  refine ⟨h.bel.trans (hc.below h.bel.size (fun j hj => by omega)), h.tr.chg hc (by omega), h.tz.chg hc (fun x => hZ e he x.symm), ⟨_, h1.upd he hc hf, fun i hi => ?_⟩, h.mks.chgB hc (fun k hk => by rw [hk]; exact hB e he), Nat.le_trans h.hs hc.size⟩
  by_cases c : i = e
  · subst c
    simp only [if_true]
    exact (h2 i hi).put q hq
  · simp only [if_neg c]
    exact h2 i hi

set_option maxHeartbeats 8000000 in
set_option maxRecDepth 100000 in
/-- bitset.Turn. -/
theorem turn_yes (sz : Nat) (a : Option Addr) (n c : Nat) (L : List SetC) (w : World) (h : SlS w a n c L) (hm : MayT sz L = true) (hsz : sz ≤ 4096) (hn : n ≤ 4096) (hT : Tab64 w) :
    Calls Tryd.prog 25 #[setV sz a n c] w fun r w' => ∃ v, r = .returned (.tuple #[v, .int .i64 0]) ∧ ∃ F, NewT w w' n sz F v ∧ ∀ e, e < sz → RepB (nW n) (F e) (fun y => decide (y < n) && inT L y e) := by
  have hle := h.le
  have hcap := h.cap
  unfold maxLen at hcap
  obtain ⟨wa, hwa⟩ : ∃ x, w.alloc (.cells #[.int .i64 (sz : Int), .slice a n c] 24) = x := ⟨_, rfl⟩
  obtain ⟨wb, hwb⟩ : ∃ x, wa.alloc (.cells #[.int .i64 0, .slice none 0 0] 24) = x := ⟨_, rfl⟩
  have ba : Below w.heap.size w wa := by rw [← hwa]; exact (Below.refl _ _).alloc (Nat.le_refl _) _
  have bb : Below wa.heap.size wa wb := by rw [← hwb]; exact (Below.refl _ _).alloc (Nat.le_refl _) _
  have la : w.heap.size < wa.heap.size := by rw [← hwa]; simp
  have lb : wa.heap.size < wb.heap.size := by rw [← hwb]; simp
  have A0 : Two wb w.heap.size (.int .i64 (sz : Int)) (.slice a n c) := by
    refine Two.keep (w := wa) ?_ bb
    rw [← hwa]; exact Two.made _ _ _ _
  have R0 : Two wb wa.heap.size (.int .i64 0) (.slice none 0 0) := by rw [← hwb]; exact Two.made _ _ _ _
  have hB0 := ba.trans (bb.mono ba.size)
  have HK := hide (mayT_any sz a n c L wb ((h.below ba).below bb))
  have HA := hide (And.intro A0 (And.intro R0 hB0))
  have a0 := A0.c0
  have a1 := A0.c1
  have HM := hide hm
  have HSl := hide h
  have HT := hide hT
  unfold setV at HK ⊢
  rw [hm] at HK
  clear hm A0 R0 h hT ba bb hB0
  refine (callsIn_wide (n := 4)).1 ?_
  refine callsIn_of_wp_marks Tryd.func25 rfl trivial ?_ rfl
  simp only [Tryd.ntmps25, List.size_toArray, List.length_cons, List.length_nil, Nat.reduceAdd, Nat.reduceSub, Array.replicate_succ, Array.replicate_zero, List.push_toArray, List.append_toArray, List.nil_append, List.cons_append]
  gi_wp2_with fail
  refine ⟨trivial, (callsIn_wide.2 (unhide HK)).mono ?_⟩
  rintro _ wd ⟨rfl, hbd⟩
  have A1 := (unhide HA).1.keep hbd
  have R1 := (unhide HA).2.1.keep hbd
  have hB1 := (unhide HA).2.2.trans (hbd.mono (unhide HA).2.2.size)
  have b0 := A1.c0
  have b1 := A1.c1
  have ld := hbd.size
  have HA1 := hide (And.intro A1 (And.intro R1 hB1))
  clear A1 R1 hB1 hbd HA HK a0 a1 hwa hwb
  gi_wp2_with fail
  refine ⟨trivial, (callsIn_wide.2 (blankTable_any n sz wd hn hsz)).mono ?_⟩
  rintro _ we ⟨v, rfl, T, bs, cs, rfl, hTb, hbe⟩
  unfold setV
  obtain ⟨wz, hwz⟩ : ∃ y, we.alloc (.cells #[.int .i64 (n : Int), .slice (some ⟨T, 0, none⟩) sz sz] 24) = y := ⟨_, rfl⟩
  have hbz : Below we.heap.size we wz := by rw [← hwz]; exact (Below.refl _ _).alloc (Nat.le_refl _) _
  have tZ : Two wz we.heap.size (.int .i64 (n : Int)) (.slice (some ⟨T, 0, none⟩) sz sz) := by rw [← hwz]; exact Two.made _ _ _ _
  have lz : we.heap.size < wz.heap.size := by rw [← hwz]; simp
  have A2 := ((unhide HA1).1.keep hbe).keep hbz
  have R2 := ((unhide HA1).2.1.keep hbe).keep hbz
  have hB2 := (unhide HA1).2.2.trans (hbe.mono (unhide HA1).2.2.size)
  have hB3 := hB2.trans (hbz.mono hB2.size)
  have d1 := A2.c1
  have le := hbe.size
  have HGe := hide (fun i (hi : i < sz) => hTb.ge i hi)
  have HI0 := hide (show TnI w wz wz.heap.size wa.heap.size we.heap.size T n sz bs cs (tuP L 0 (fun _ => false)) [] from
    ⟨hB3, R2, tZ, ⟨_, (hTb.mono (by omega)).below hbz, fun e he => (RepB.zero (nW n)).congr (fun _ _ => rfl) (fun y _ => by simp [tuP])⟩, Marks.nil _ _, Nat.le_refl _⟩)
  clear hbe hTb hbz tZ A2 R2 hB2 hB3 HA1 b0 b1
  gi_wp2_with fail
  clear d1 hwz
  refine wpIn_loop_ghost_k (fun m a' W => ∃ (k : Nat) (ds : List Nat) (u5 u6 u22 u23 u24 u25 u26 u27 u28 u37 : Value), m = n - k ∧ k ≤ n ∧ TnI w W wz.heap.size wa.heap.size we.heap.size T n sz bs cs (tuP L k (fun _ => false)) ds ∧
      a' = { tmps := #[Value.agg #[Value.int IntKind.i64 ↑sz, Value.slice a n c],
          Value.pointer (some { block := w.heap.size, off := 0 }),
          Value.pointer (some { block := wa.heap.size, off := 0 }), Value.int IntKind.i64 0,
          Value.pointer (some { block := we.heap.size, off := 0 }), u5, u6, undef,
          Value.agg #[Value.int IntKind.i64 ↑sz, Value.slice a n c], Value.bool true, Value.bool false, undef,
          Value.pointer (some { block := w.heap.size, off := 1 }), Value.slice a n c, Value.int IntKind.i64 ↑n,
          Value.pointer (some { block := w.heap.size, off := 0 }), Value.int IntKind.i64 ↑sz,
          Value.agg #[Value.int IntKind.i64 ↑n, Value.slice (some { block := T, off := 0 }) sz sz],
          Value.pointer (some { block := w.heap.size, off := 1 }), Value.slice a n c, Value.int IntKind.i64 ↑n,
          Value.int IntKind.i64 ↑k, u22, u23, u24, u25, u26, u27, u28, undef, undef, undef, undef, undef,
          undef, undef, undef, u37, undef], defers := markL ds }) (n - 0) ?start ?round
  case start => exact ⟨0, [], undef, undef, undef, undef, undef, undef, undef, undef, undef, undef, rfl, Nat.zero_le _, unhide HI0, rfl⟩
  case round =>
    rintro m _ wr ⟨k, ds, u5, u6, u22, u23, u24, u25, u26, u27, u28, u37, rfl, hk, hst, rfl⟩ J K hJ hK
    have HJ := hide hJ
    clear hJ
    by_cases hlt : k < n
    · have hlt' : (k : Int) < (n : Int) := by omega
      have hS := (unhide HSl).below hst.bel
      obtain ⟨b, off, rfl, hcells⟩ := hS.at (by omega)
      have g1 := (hcells k hlt).1
      have g2 := (hcells k hlt).2
      obtain ⟨e, he⟩ : ∃ e, L.getD k .nul = e := ⟨_, rfl⟩
      have hin := hS.get k hlt
      rw [he] at g1 g2 hin
      obtain ⟨es, ea, en, ec, exs⟩ := e
      simp only at g1 g2
      have HIn := hide hin
      have HE := hide he
      have HI := hide hst
      clear hcells hin he hS hst
      have HMay := hide (show MayS es exs = true ∧ es = (sz : Int) from by
        have hkl : k < L.length := by rw [(unhide HSl).len]; exact hlt
        have hmem : (⟨es, ea, en, ec, exs⟩ : SetC) ∈ L := by
          have : L.getD k .nul = L[k] := by simp [List.getD, hkl]
          rw [← unhide HE, this]; exact List.getElem_mem hkl
        have hmm := unhide HM
        simp [MayT] at hmm
        have := hmm.2 _ hmem
        simp [badT] at this
        exact this)
      have hes := (unhide HMay).2
      have m := (unhide HMay).1
      have hw0 := (unhide HSl).get k hlt
      rw [unhide HE] at hw0
      subst hes
      have hnn : en = nW sz := by have := MayS.len m; rw [hw0.1.len] at this; simpa using this
      have hn64 : en ≤ 64 := by rw [hnn]; unfold nW; omega
      have hsn : sz ≤ 64 * en := by rw [hnn]; unfold nW; omega
      have HZ := hide (show ∀ y, sz ≤ y → y < 64 * en → hasB (gW exs) y = false from fun y h1 h2 => MayS.zero m y (by simpa using h1) (by rw [hw0.1.len]; exact h2))
      have HW0 := hide hw0
      clear m hw0 hnn HMay
      gi_wp2_with fail
      obtain ⟨ws, hws⟩ : ∃ y, (wr.alloc (.cells #[.int .i64 (k : Int)] 3)).alloc (.cells #[.int .i64 (sz : Int), .slice ea en ec] 35) = y := ⟨_, rfl⟩
      have hbs : Below wr.heap.size wr ws := by rw [← hws]; exact ((Below.refl wr.heap.size wr).alloc (Nat.le_refl _) _).alloc (by simp) _
      have cI : ws.cell? ⟨wr.heap.size, 0, none⟩ = some (.int .i64 (k : Int)) := by
        rw [← hws]
        exact below_cell ((Below.refl _ _).alloc (Nat.le_refl _) _) (by simp)
      have hzs : ws.heap.size = wr.heap.size + 2 := by rw [← hws]; simp
      rw [hws]
      have HZs := hide hzs
      clear hws hzs
      refine ⟨trivial, (rise_in 3 ea en ec ws).mono ?_⟩
      rintro _ _ ⟨rfl, rfl⟩
      gi_wp2_with fail
      obtain ⟨wf, hwf⟩ : ∃ y, ws.alloc (.cells #[.slice ea en ec] 33) = y := ⟨_, rfl⟩
      have hbf : Below ws.heap.size ws wf := by rw [← hwf]; exact (Below.refl _ _).alloc (Nat.le_refl _) _
      have cF : wf.cell? ⟨ws.heap.size, 0, none⟩ = some (.slice ea en ec) := by rw [← hwf]; simp
      have hszf : wf.heap.size = ws.heap.size + 1 := by rw [← hwf]; simp
      rw [hwf]
      clear hwf
      have hzs := unhide HZs
      have hI1 := ((unhide HI).below hbs).below hbf
      have cI1 := below_cell hbf cI
      have hTf : Tab64 wf := (unhide HT).below hI1.bel
      have hG := World.block_lt_of_cell? _ _ (unhide HT 0 (by decide))
      have hG9 : 0 < w.heap.size := hG
      have hB0 := (unhide HI).hs
      have hSx := (unhide HW0).1.below hI1.bel
      have hne : 0 < en → ∀ z, ea = some z → ¬ (fun j => ∃ e, e < sz ∧ j = bs e) z.block := fun h0 z hz => by
        obtain ⟨b9, o9, e9, k9⟩ := (unhide HW0).1.at h0
        have e9' : ea = some ⟨b9, o9, none⟩ := e9
        rw [e9'] at hz
        cases hz
        have h9 : b9 < w.heap.size := World.block_lt_of_cell? _ _ (k9 0 h0)
        rintro ⟨e, he, hbe⟩
        have := (unhide HGe e he).1
        simp only at hbe
        omega
      have HSeq := rise_stops 3 (by decide) (fun j => ∃ e, e < sz ∧ j = bs e) ws.heap.size ea en ec exs wf (by omega) (unhide HW0).2 (by rintro ⟨e, he, hbe⟩; have := (unhide HGe e he).2.2; omega) (by rintro ⟨e, he, hbe⟩; have := (unhide HGe e he).1; omega) hTf cF hSx hne
      have HI2 := hide (And.intro (hI1.congr (P' := tuP L k (fun e => ([] : List (Elem en exs)).any (fun x => x.val == e))) (fun i y _ => by simp [tuP])) cI1)
      have hdl : ∀ D ∈ ds, D < wf.heap.size := fun D hD => by have := (unhide HI).mks.lt D hD; omega
      have hle9 : w.heap.size ≤ wf.heap.size := hI1.bel.size
      have HSf := hide hszf
      clear hbs hbf cF cI cI1 hI1 hTf hG hSx hne hzs hszf
      refine wpIn_rangeFunc_ownG (F := Fence.wide) (n := 4) rfl (by decide) (gf := 72) (lb := #[.pointer (some ⟨ws.heap.size, 0, none⟩)]) rfl trivial (enters_of Tryd.func72 (by kernel_rfl) rfl)
        HSeq kpZ_t (kpZ_b (Nat.le_refl _)) (Below.refl _ _) (fun _ => rfl)
        (fun pre W => TnI w W wz.heap.size wa.heap.size we.heap.size T n sz bs cs (tuP L k (fun e => pre.any (fun x => x.val == e))) ds ∧ W.cell? ⟨wr.heap.size, 0, none⟩ = some (.int .i64 (k : Int)))
        (fun c pre W => False)
        (fun s W W' row h hg hr => ⟨TnI.own (fun (pre : List (Elem en exs)) => tuP L k (fun e => pre.any (fun x => x.val == e))) ds hle9 hdl s W W' row h.1 hg hr, cell_kept h.2 hg (fun r e => (hr r e).2)⟩)
        (fun c s W W' row h => h.elim)
        (unhide HI2)
        (fun e => { tmps := #[Value.agg #[Value.int IntKind.i64 ↑sz, Value.slice (some { block := b, off := off }) n c],
                Value.pointer (some { block := w.heap.size, off := 0 }),
                Value.pointer (some { block := wa.heap.size, off := 0 }), Value.int IntKind.i64 0,
                Value.pointer (some { block := we.heap.size, off := 0 }),
                Value.pointer (some { block := wr.heap.size, off := 0 }),
                Value.pointer (some { block := wr.heap.size + 1, off := 0 }), .int .i64 ((e.val : Nat) : Int),
                Value.agg #[Value.int IntKind.i64 ↑sz, Value.slice (some { block := b, off := off }) n c],
                Value.bool true, Value.bool false, undef, Value.pointer (some { block := w.heap.size, off := 1 }),
                Value.slice (some { block := b, off := off }) n c, Value.int IntKind.i64 ↑n,
                Value.pointer (some { block := w.heap.size, off := 0 }), Value.int IntKind.i64 ↑sz,
                Value.agg #[Value.int IntKind.i64 ↑n, Value.slice (some { block := T, off := 0 }) sz sz],
                Value.pointer (some { block := w.heap.size, off := 1 }),
                Value.slice (some { block := b, off := off }) n c, Value.int IntKind.i64 ↑n, Value.int IntKind.i64 ↑k,
                Value.bool true, Value.int IntKind.i64 ↑k, Value.pointer (some { block := b, off := off + k * 2 }),
                Value.agg #[Value.int IntKind.i64 ↑sz, Value.slice ea en ec],
                Value.pointer (some { block := wr.heap.size + 1, off := 1 }), Value.slice ea en ec,
                Value.func (Fn.func 72) #[] #[Value.pointer (some { block := ws.heap.size, off := 0 })], .int .i64 ((e.val : Nat) : Int), undef,
                undef, undef, undef, undef, undef, undef, u37, undef], defers := [] }) ?assign ?body ?done ?stop
      case assign =>
        intro l e W K' hK'
        unfold encR
        gi_wp2
        exact hK'
      case body =>
        rintro l pre ⟨e, he1, he2⟩ W ⟨hI, hci⟩ _
        dsimp only
        have hek : e < sz := by
          rcases Nat.lt_or_ge e sz with c | c
          · exact c
          · rw [unhide HZ e c he1] at he2; cases he2
        have hek' : (e : Int) < (sz : Int) := by omega
        have he0 : (0 : Int) ≤ (e : Int) := by omega
        obtain ⟨F, hF1, hF2⟩ := hI.tb
        have t0 := (hF1.row e hek).1
        have t1 := (hF1.row e hek).2
        have z1 := hI.tz.c1
        have hkw : k / 64 < nW n := by unfold nW; omega
        have hNW : nW n ≤ 64 := by unfold nW; omega
        have hcp := hF1.cap e hek
        have hcw : cs e ≤ 9223372036854775807 := by have := hcp.2; unfold maxLen at this; omega
        have hcn := hcp.1
        have HP := hide (fun (w' : World) (hb : Below W.heap.size W w') => put_any (n : Int) (bs e) (nW n) (cs e) (F e) k w' ((hF1.words e hek).below hb) (fun i hi => (hF2 e hek i hi).1) hkw hNW)
        unfold setV at HP
        have HIb := hide hI
        have HF := hide (And.intro hF1 hF2)
        have HCi := hide hci
        clear hF1 hF2 hI hcp HSeq
        gi_wp2_with fail
        gi_region_with (refine ⟨trivial, (CallsIn.inRound l (callsIn_wide.2 (unhide HP _ (by first | exact Below.refl _ _ | exact (Below.refl _ _).drew)))).mono ?_⟩; rintro _ w1 ⟨rfl, hf1, hc1⟩)
        all_goals
          gi_wp2_with fail
          have hcw : Chg (fun j => j = bs e) W w1 := (Chg.of_below (Below.refl W.heap.size W).drew).trans hc1
          have hge := unhide HGe e hek
          have hsf := unhide HSf
          have hzs := unhide HZs
          refine ⟨keepZ hcw (by omega), hcw.mono (fun j _ h => .inl ⟨e, hek, h⟩), ((unhide HIb).put (by omega) (fun i hi => by have := (unhide HGe i hi).2.2; omega) (fun i hi => by have := (unhide HGe i hi).2.2; omega) hek hkw (unhide HF).1 (unhide HF).2 hcw hf1).congr (fun i y hi => tuP_put L k pre ⟨e, he1, he2⟩ i y), hcw.cell (by omega) (unhide HCi)⟩
      case done =>
        rintro D ys W hD hys ⟨hI, hci⟩ hDb
        have hsf := unhide HSf
        have hzs := unhide HZs
        have h2 := hI.congr (P' := tuP L (k + 1) (fun _ => false)) (fun i y hi => tuP_done L k exs (by rw [unhide HE]) hys i y (by omega))
        have HI3 := hide (show TnI w W wz.heap.size wa.heap.size we.heap.size T n sz bs cs (tuP L (k + 1) (fun _ => false)) (D :: ds) from ⟨h2.bel, h2.tr, h2.tz, h2.tb, h2.mks.cons hDb (by omega) hdl hD, h2.hs⟩)
        clear hI hci hys h2 hDb HSeq hsf hzs
        gi_wp2_with fail
        refine Handed.intro (n - (k + 1)) (by omega) ?_
        apply unhide HJ
        refine ⟨k + 1, D :: ds, ?u5, ?u6, ?u22, ?u23, ?u24, ?u25, ?u26, ?u27, ?u28, ?u37, rfl, by omega, unhide HI3, ?frame⟩
        case frame =>
          rw [show ((k + 1 : Nat) : Int) = (k : Int) + 1 from by omega]
          rfl
      case stop =>
        rintro D c pre W hD _ h
        exact h.elim
    · have hlt' : ¬ (k : Int) < (n : Int) := by omega
      obtain rfl : k = n := by omega
      have z0 := hst.tz.c0
      have z1 := hst.tz.c1
      have r0 := hst.tr.c0
      have r1 := hst.tr.c1
      have f0 := hst.tr.f0
      have f1 := hst.tr.f1
      have HI := hide hst
      have hB0 := hst.hs
      clear hst
      gi_wp2_with fail
      obtain ⟨F, hF1, hF2⟩ := (unhide HI).tb
      have T3 := (unhide HI).tr.set (.int .i64 (k : Int)) (.slice (some ⟨T, 0, none⟩) sz sz)
      have hgT := hF1.tge
      refine leaves_marks (B := wz.heap.size) (fun W => Two W wa.heap.size (.int .i64 (k : Int)) (.slice (some ⟨T, 0, none⟩) sz sz) ∧ NewT w W k sz F (setV k (some ⟨T, 0, none⟩) sz sz)) ?own ?fin ds _ ?mks ⟨T3, ?nt⟩
      case own =>
        rintro _ W W' row ⟨h1, T', bs', cs', h2, h3, h4⟩ hg hr
        have hr' : ∀ r, row = some r → ∃ o : Obj, W.heap[r]? = some o ∧ o.isCells = false := fun r e => (hr r e).2
        exact ⟨h1.own hg hr', T', bs', cs', h2, h3.own hg hr', h4.grown hg h4.size (fun j e => by have := (hr j e).1; omega)⟩
      case fin =>
        rintro W ⟨h1, h2⟩
        have p0 := h1.c0
        have p1 := h1.c1
        refine ⟨.tuple #[.agg #[.int .i64 (k : Int), .slice (some ⟨T, 0, none⟩) sz sz], .int .i64 0], ?_, ⟨_, rfl, F, h2, fun e he => (hF2 e he).congr (fun _ _ => rfl) (fun y _ => by simp [tuP])⟩⟩
        simp [results, Tryd.results25, go_sem, p0, p1]
        try rfl
      case mks => exact (unhide HI).mks.chgB (two_chg _ _ _ _) (fun j hj => by omega)
      case nt => exact ⟨T, bs, cs, rfl, (hF1.chg (two_chg _ _ _ _) (by omega) (fun i hi => by have := (hF1.ge i hi).1; omega)).mono (by omega), two_below (unhide HI).bel _ (by omega) _ _⟩
end Go.Proofs.YtbendkndnojihabDoor
