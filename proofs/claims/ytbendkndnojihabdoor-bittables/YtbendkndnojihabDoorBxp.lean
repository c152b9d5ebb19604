/-
  bitset.Product: its contract.
-/
import Derived.Test.YtbendkndnojihabDoorBxr
namespace Go.Proofs.YtbendkndnojihabDoor
open Go.RowKit Go.Deep Go.Shelf
set_option linter.unusedVariables false
attribute [local go_sem] Oper.semAt_some

set_option maxHeartbeats 8000000 in
set_option maxRecDepth 100000 in
/-- bitset.Product. -/
theorem product_yes (sz : Nat) (a : Option Addr) (n c : Nat) (L : List SetC) (sb : Nat) (a2 : Option Addr) (c2 : Nat) (M : List SetC) (w : World) (h : SlS w a n c L) (h2 : SlS w a2 sz c2 M) (hm : MayT sz L = true) (hm2 : MayT sb M = true) (hsz : sz ≤ 4096) (hn : n ≤ 4096) (hsb : sb ≤ 4096) (hT : Tab64 w) :
    Calls Tryd.prog 12 #[setV sz a n c, setV sb a2 sz c2] w fun r w' => ∃ v, r = .returned (.tuple #[v, .int .i64 0]) ∧ ∃ F, NewT w w' sb n F v ∧ ∀ i, i < n → RepB (nW sb) (F i) (prQ M sz (inT L i)) := by
  have hle := h.le
  have hcap := h.cap
  unfold maxLen at hcap
  have hle2 := h2.le
  have hcap2 := h2.cap
  unfold maxLen at hcap2
  obtain ⟨wa, hwa⟩ : ∃ x, w.alloc (.cells #[.int .i64 (sz : Int), .slice a n c] 24) = x := ⟨_, rfl⟩
  obtain ⟨wa2, hwa2⟩ : ∃ x, wa.alloc (.cells #[.int .i64 (sb : Int), .slice a2 sz c2] 24) = x := ⟨_, rfl⟩
  obtain ⟨wb, hwb⟩ : ∃ x, wa2.alloc (.cells #[.int .i64 0, .slice none 0 0] 24) = x := ⟨_, rfl⟩
  have ba : Below w.heap.size w wa := by rw [← hwa]; exact (Below.refl _ _).alloc (Nat.le_refl _) _
  have ba2 : Below wa.heap.size wa wa2 := by rw [← hwa2]; exact (Below.refl _ _).alloc (Nat.le_refl _) _
  have bb : Below wa2.heap.size wa2 wb := by rw [← hwb]; exact (Below.refl _ _).alloc (Nat.le_refl _) _
  have la : w.heap.size < wa.heap.size := by rw [← hwa]; simp
  have la2 : wa.heap.size < wa2.heap.size := by rw [← hwa2]; simp
  have lb : wa2.heap.size < wb.heap.size := by rw [← hwb]; simp
  have A0 : Two wb w.heap.size (.int .i64 (sz : Int)) (.slice a n c) := by
    refine Two.keep (w := wa2) (Two.keep (w := wa) ?_ ba2) bb
    rw [← hwa]; exact Two.made _ _ _ _
  have B0 : Two wb wa.heap.size (.int .i64 (sb : Int)) (.slice a2 sz c2) := by
    refine Two.keep (w := wa2) ?_ bb
    rw [← hwa2]; exact Two.made _ _ _ _
  have R0 : Two wb wa2.heap.size (.int .i64 0) (.slice none 0 0) := by rw [← hwb]; exact Two.made _ _ _ _
  have hB00 := ba.trans (ba2.mono ba.size)
  have hB0 := hB00.trans (bb.mono hB00.size)
  have HK := hide (mayT_any sz a n c L wb (h.below hB0))
  have HA := hide (And.intro A0 (And.intro B0 (And.intro R0 hB0)))
  have a0 := A0.c0
  have a1 := A0.c1
  have HM := hide hm
  have HM2 := hide hm2
  have HSl := hide h
  have HSl2 := hide h2
  have HT := hide hT
  unfold setV at HK ⊢
  rw [hm] at HK
  clear hm hm2 A0 B0 R0 h h2 hT ba bb ba2 hB0 hB00
  refine (callsIn_wide (n := 4)).1 ?_
  refine callsIn_of_wp_marks Tryd.func12 rfl trivial ?_ rfl
  simp only [Tryd.ntmps12, List.size_toArray, List.length_cons, List.length_nil, Nat.reduceAdd, Nat.reduceSub, Array.replicate_succ, Array.replicate_zero, List.push_toArray, List.append_toArray, List.nil_append, List.cons_append]
  gi_wp2_with fail

  refine ⟨trivial, (callsIn_wide.2 (unhide HK)).mono ?_⟩
  rintro _ wd ⟨rfl, hbd⟩
  have A1 := (unhide HA).1.keep hbd
  have B1 := (unhide HA).2.1.keep hbd
  have R1 := (unhide HA).2.2.1.keep hbd
  have hB1 := (unhide HA).2.2.2.trans (hbd.mono (unhide HA).2.2.2.size)
  have HK2 := hide (mayT_any sb a2 sz c2 M wd ((unhide HSl2).below hB1))
  rw [unhide HM2] at HK2
  unfold setV at HK2
  have b0 := A1.c0
  have b1 := A1.c1
  have y0 := B1.c0
  have y1 := B1.c1
  have ld := hbd.size
  have HA1 := hide (And.intro A1 (And.intro B1 (And.intro R1 hB1)))
  clear A1 B1 R1 hB1 hbd HA HK a0 a1 hwa hwb hwa2
  gi_wp2_with fail
  refine ⟨trivial, (callsIn_wide.2 (unhide HK2)).mono ?_⟩
  rintro _ wd2 ⟨rfl, hbd⟩
  have A1 := (unhide HA1).1.keep hbd
  have B1 := (unhide HA1).2.1.keep hbd
  have R1 := (unhide HA1).2.2.1.keep hbd
  have hB1 := (unhide HA1).2.2.2.trans (hbd.mono (unhide HA1).2.2.2.size)
  clear b0 b1 y0 y1
  have b0 := A1.c0
  have b1 := A1.c1
  have y0 := B1.c0
  have y1 := B1.c1
  have ld2 := hbd.size
  have HA2 := hide (And.intro A1 (And.intro B1 (And.intro R1 hB1)))
  clear A1 B1 R1 hB1 hbd HA1 HK2
  gi_wp2_with fail
  refine ⟨trivial, (callsIn_wide.2 (blankTable_any sb n wd2 hsb hn)).mono ?_⟩
  rintro _ we ⟨v, rfl, T, bs, cs, rfl, hTb, hbe⟩
  unfold setV
  obtain ⟨wz, hwz⟩ : ∃ y, we.alloc (.cells #[.int .i64 (sb : Int), .slice (some ⟨T, 0, none⟩) n n] 24) = y := ⟨_, rfl⟩
  have hbz : Below we.heap.size we wz := by rw [← hwz]; exact (Below.refl _ _).alloc (Nat.le_refl _) _
  have tZ : Two wz we.heap.size (.int .i64 (sb : Int)) (.slice (some ⟨T, 0, none⟩) n n) := by rw [← hwz]; exact Two.made _ _ _ _
  have lz : we.heap.size < wz.heap.size := by rw [← hwz]; simp
  have A2 := ((unhide HA2).1.keep hbe).keep hbz
  have B2 := ((unhide HA2).2.1.keep hbe).keep hbz
  have R2 := ((unhide HA2).2.2.1.keep hbe).keep hbz
  have hB2 := (unhide HA2).2.2.2.trans (hbe.mono (unhide HA2).2.2.2.size)
  have hB3 := hB2.trans (hbz.mono hB2.size)
  have d1 := A2.c1
  have le := hbe.size
  have HGe := hide (fun i (hi : i < n) => hTb.ge i hi)
  have HI0 := hide (And.intro (show TnI w wz wz.heap.size wa2.heap.size we.heap.size T sb n bs cs (prP L M sz 0 (fun _ => false)) [] from
    ⟨hB3, R2, tZ, ⟨_, (hTb.mono (by omega)).below hbz, fun e he => (RepB.zero (nW sb)).congr (fun _ _ => rfl) (fun y _ => by simp [prP])⟩, Marks.nil _ _, Nat.le_refl _⟩) B2)
  clear hbe hTb hbz tZ A2 R2 B2 hB2 hB3 HA2 b0 b1 y0 y1
  gi_wp2_with fail
  clear d1 hwz
  refine wpIn_loop_ghost_k (fun m a' W => ∃ (k : Nat) (ds : List Nat) (u7 u8 u36 u37 u38 u39 u40 u41 u42 u57 : Value), m = n - k ∧ k ≤ n ∧ TnI w W wz.heap.size wa2.heap.size we.heap.size T sb n bs cs (prP L M sz k (fun _ => false)) ds ∧ Two W wa.heap.size (.int .i64 (sb : Int)) (.slice a2 sz c2) ∧
      a' = { tmps := #[Value.agg #[Value.int IntKind.i64 ↑sz, Value.slice a n c],
          Value.agg #[Value.int IntKind.i64 ↑sb, Value.slice a2 sz c2],
          Value.pointer (some { block := w.heap.size, off := 0 }),
          Value.pointer (some { block := wa.heap.size, off := 0 }),
          Value.pointer (some { block := wa2.heap.size, off := 0 }), Value.int IntKind.i64 0,
          Value.pointer (some { block := we.heap.size, off := 0 }), u7, u8, undef,
          Value.agg #[Value.int IntKind.i64 ↑sz, Value.slice a n c], Value.bool true, Value.bool false,
          Value.bool false, Value.agg #[Value.int IntKind.i64 ↑sb, Value.slice a2 sz c2], Value.bool true,
          Value.bool false, Value.bool false, undef, Value.pointer (some { block := w.heap.size, off := 0 }),
          Value.int IntKind.i64 ↑sz, Value.pointer (some { block := wa.heap.size, off := 1 }), Value.slice a2 sz c2,
          Value.int IntKind.i64 ↑sz, Value.bool false, undef, Value.pointer (some { block := wa.heap.size, off := 0 }),
          Value.int IntKind.i64 ↑sb, Value.pointer (some { block := w.heap.size, off := 1 }), Value.slice a n c,
          Value.int IntKind.i64 ↑n,
          Value.agg #[Value.int IntKind.i64 ↑sb, Value.slice (some { block := T, off := 0 }) n n],
          Value.pointer (some { block := w.heap.size, off := 1 }), Value.slice a n c, Value.int IntKind.i64 ↑n,
          Value.int IntKind.i64 ↑k, u36, u37, u38, u39, u40, u41, u42, undef, undef, undef, undef, undef, undef, undef, undef, undef, undef, undef, undef, undef, undef, u57, undef], defers := markL ds }) (n - 0) ?start ?round
  case start => exact ⟨0, [], undef, undef, undef, undef, undef, undef, undef, undef, undef, undef, rfl, Nat.zero_le _, (unhide HI0).1, (unhide HI0).2, rfl⟩
  case round =>
    rintro m _ wr ⟨k, ds, u7, u8, u36, u37, u38, u39, u40, u41, u42, u57, rfl, hk, hst, hbx, rfl⟩ J K hJ hK
    have HJ := hide hJ
    have HBx := hide hbx
    clear hJ hbx
    by_cases hlt : k < n
    · have hlt' : (k : Int) < (n : Int) := by omega
      have hS := (unhide HSl).below hst.bel
      obtain ⟨b, off, rfl, hcells⟩ := hS.at (by omega)
      have g1 := (hcells k hlt).1
      have g2 := (hcells k hlt).2
      obtain ⟨e, he⟩ : ∃ e, L.getD k .nul = e := ⟨_, rfl⟩
      have hin := hS.get k hlt
      rw [he] at g1 g2 hin
      obtain ⟨es, ea, en, ec, exs⟩ := e
      simp only at g1 g2
      have HIn := hide hin
      have HE := hide he
      have HI := hide hst
      clear hcells hin he hS hst
      have HMay := hide (show MayS es exs = true ∧ es = (sz : Int) from by
        have hkl : k < L.length := by rw [(unhide HSl).len]; exact hlt
        have hmem : (⟨es, ea, en, ec, exs⟩ : SetC) ∈ L := by
          have : L.getD k .nul = L[k] := by simp [List.getD, hkl]
          rw [← unhide HE, this]; exact List.getElem_mem hkl
        have hmm := unhide HM
        simp [MayT] at hmm
        have := hmm.2 _ hmem
        simp [badT] at this
        exact this)
      have hes := (unhide HMay).2
      have m := (unhide HMay).1
      have hw0 := (unhide HSl).get k hlt
      rw [unhide HE] at hw0
      subst hes
      have hnn : en = nW sz := by have := MayS.len m; rw [hw0.1.len] at this; simpa using this
      have hn64 : en ≤ 64 := by rw [hnn]; unfold nW; omega
      have hsn : sz ≤ 64 * en := by rw [hnn]; unfold nW; omega
      have HZ := hide (show ∀ y, sz ≤ y → y < 64 * en → hasB (gW exs) y = false from fun y h1 h2 => MayS.zero m y (by simpa using h1) (by rw [hw0.1.len]; exact h2))
      have HW0 := hide hw0
      clear m hw0 hnn HMay
      gi_wp2_with fail
      obtain ⟨ws, hws⟩ : ∃ y, (wr.alloc (.cells #[.int .i64 (k : Int)] 3)).alloc (.cells #[.int .i64 (sz : Int), .slice ea en ec] 35) = y := ⟨_, rfl⟩
      have hbs : Below wr.heap.size wr ws := by rw [← hws]; exact ((Below.refl wr.heap.size wr).alloc (Nat.le_refl _) _).alloc (by simp) _
      have cI : ws.cell? ⟨wr.heap.size, 0, none⟩ = some (.int .i64 (k : Int)) := by
        rw [← hws]
        exact below_cell ((Below.refl _ _).alloc (Nat.le_refl _) _) (by simp)
      have hzs : ws.heap.size = wr.heap.size + 2 := by rw [← hws]; simp
      rw [hws]
      have HZs := hide hzs
      clear hws hzs
      refine ⟨trivial, (rise_in 3 ea en ec ws).mono ?_⟩
      rintro _ _ ⟨rfl, rfl⟩
      gi_wp2_with fail
      obtain ⟨wf, hwf⟩ : ∃ y, ws.alloc (.cells #[.slice ea en ec] 33) = y := ⟨_, rfl⟩
      have hbf : Below ws.heap.size ws wf := by rw [← hwf]; exact (Below.refl _ _).alloc (Nat.le_refl _) _
      have cF : wf.cell? ⟨ws.heap.size, 0, none⟩ = some (.slice ea en ec) := by rw [← hwf]; simp
      have hszf : wf.heap.size = ws.heap.size + 1 := by rw [← hwf]; simp
      rw [hwf]
      clear hwf
      have hzs := unhide HZs
      have hI1 := ((unhide HI).below hbs).below hbf
      have cI1 := below_cell hbf cI
      have hTf : Tab64 wf := (unhide HT).below hI1.bel
      have hG := World.block_lt_of_cell? _ _ (unhide HT 0 (by decide))
      have hG9 : 0 < w.heap.size := hG
      have hB0 := (unhide HI).hs
      have hSx := (unhide HW0).1.below hI1.bel
      have hne : 0 < en → ∀ z, ea = some z → ¬ (fun j => j = bs k) z.block := fun h0 z hz => by
        obtain ⟨b9, o9, e9, k9⟩ := (unhide HW0).1.at h0
        have e9' : ea = some ⟨b9, o9, none⟩ := e9
        rw [e9'] at hz
        cases hz
        have h9 : b9 < w.heap.size := World.block_lt_of_cell? _ _ (k9 0 h0)
        intro hbe
        have := (unhide HGe k hlt).1
        simp only at hbe
        omega
      have hgk := unhide HGe k hlt
      have HSeq := rise_stops 3 (by decide) (fun j => j = bs k) ws.heap.size ea en ec exs wf (by omega) (unhide HW0).2 (by intro hbe; omega) (by intro hbe; omega) hTf cF hSx hne
      have bx1 := ((unhide HBx).keep hbs).keep hbf
      have HI2 := hide (And.intro (hI1.congr (P' := prP L M sz k (prE M ([] : List (Elem en exs)))) (fun i y _ => by simp [prP, prE])) (And.intro cI1 bx1))
      have hdl : ∀ D ∈ ds, D < wf.heap.size := fun D hD => by have := (unhide HI).mks.lt D hD; omega
      have hle9 : w.heap.size ≤ wf.heap.size := hI1.bel.size
      have HSf := hide hszf
      clear hbs hbf cF cI cI1 hI1 hTf hG hSx hne hzs hszf bx1
      refine wpIn_rangeFunc_ownG (F := Fence.wide) (n := 4) rfl (by decide) (gf := 72) (lb := #[.pointer (some ⟨ws.heap.size, 0, none⟩)]) rfl trivial (enters_of Tryd.func72 (by kernel_rfl) rfl)
        HSeq kpZ_t (kpZ_b (Nat.le_refl _)) (Below.refl _ _) (fun _ => rfl)
        (fun pre W => TnI w W wz.heap.size wa2.heap.size we.heap.size T sb n bs cs (prP L M sz k (prE M pre)) ds ∧ W.cell? ⟨wr.heap.size, 0, none⟩ = some (.int .i64 (k : Int)) ∧ Two W wa.heap.size (.int .i64 (sb : Int)) (.slice a2 sz c2))
        (fun c pre W => False)
        (fun s W W' row h hg hr => ⟨TnI.own (fun (pre : List (Elem en exs)) => prP L M sz k (prE M pre)) ds hle9 hdl s W W' row h.1 hg hr, cell_kept h.2.1 hg (fun r e => (hr r e).2), h.2.2.own hg (fun r e => (hr r e).2)⟩)
        (fun c s W W' row h => h.elim)
        (unhide HI2)
        (fun e => { tmps := #[Value.agg #[Value.int IntKind.i64 ↑sz, Value.slice (some { block := b, off := off }) n c],
          Value.agg #[Value.int IntKind.i64 ↑sb, Value.slice a2 sz c2],
          Value.pointer (some { block := w.heap.size, off := 0 }),
          Value.pointer (some { block := wa.heap.size, off := 0 }),
          Value.pointer (some { block := wa2.heap.size, off := 0 }), Value.int IntKind.i64 0,
          Value.pointer (some { block := we.heap.size, off := 0 }), Value.pointer (some { block := wr.heap.size, off := 0 }), Value.pointer (some { block := wr.heap.size + 1, off := 0 }), .int .i64 ((e.val : Nat) : Int),
          Value.agg #[Value.int IntKind.i64 ↑sz, Value.slice (some { block := b, off := off }) n c], Value.bool true, Value.bool false,
          Value.bool false, Value.agg #[Value.int IntKind.i64 ↑sb, Value.slice a2 sz c2], Value.bool true,
          Value.bool false, Value.bool false, undef, Value.pointer (some { block := w.heap.size, off := 0 }),
          Value.int IntKind.i64 ↑sz, Value.pointer (some { block := wa.heap.size, off := 1 }), Value.slice a2 sz c2,
          Value.int IntKind.i64 ↑sz, Value.bool false, undef, Value.pointer (some { block := wa.heap.size, off := 0 }),
          Value.int IntKind.i64 ↑sb, Value.pointer (some { block := w.heap.size, off := 1 }), Value.slice (some { block := b, off := off }) n c,
          Value.int IntKind.i64 ↑n,
          Value.agg #[Value.int IntKind.i64 ↑sb, Value.slice (some { block := T, off := 0 }) n n],
          Value.pointer (some { block := w.heap.size, off := 1 }), Value.slice (some { block := b, off := off }) n c, Value.int IntKind.i64 ↑n,
          Value.int IntKind.i64 ↑k, Value.bool true, Value.int IntKind.i64 ↑k, Value.pointer (some { block := b, off := off + k * 2 }), Value.agg #[Value.int IntKind.i64 ↑sz, Value.slice ea en ec], Value.pointer (some { block := wr.heap.size + 1, off := 1 }), Value.slice ea en ec, Value.func (Fn.func 72) #[] #[Value.pointer (some { block := ws.heap.size, off := 0 })], .int .i64 ((e.val : Nat) : Int), undef, undef, undef, undef, undef, undef, undef, undef, undef, undef, undef, undef, undef, u57, undef], defers := [] }) ?assign ?body ?done ?stop
      case assign =>
        intro l e W K' hK'
        unfold encR
        gi_wp2
        exact hK'
      case body =>
        rintro l pre ⟨e, he1, he2⟩ W ⟨hI, hci, hbx⟩ _
        dsimp only
        have hek : e < sz := by
          rcases Nat.lt_or_ge e sz with c | c
          · exact c
          · rw [unhide HZ e c he1] at he2; cases he2
        have hek' : (e : Int) < (sz : Int) := by omega
        have he0 : (0 : Int) ≤ (e : Int) := by omega
        obtain ⟨F, hF1, hF2⟩ := hI.tb
        have t0 := (hF1.row k hlt).1
        have t1 := (hF1.row k hlt).2
        have z1 := hI.tz.c1
        have y1 := hbx.c1
        have hS2 := (unhide HSl2).below hI.bel
        obtain ⟨b2, off2, rfl, hcells⟩ := hS2.at (by omega)
        have v1 := (hcells e hek).1
        have v2 := (hcells e hek).2
        obtain ⟨g, hg⟩ : ∃ g, M.getD e .nul = g := ⟨_, rfl⟩
        have hin := hS2.get e hek
        have hin0 := (unhide HSl2).get e hek
        have hmay : MayS g.s g.xs = true ∧ g.s = (sb : Int) := by
          have hkl : e < M.length := by rw [(unhide HSl2).len]; exact hek
          have hmem : g ∈ M := by
            have : M.getD e .nul = M[e] := by simp [List.getD, hkl]
            rw [← hg, this]; exact List.getElem_mem hkl
          have hmm := unhide HM2
          simp [MayT] at hmm
          have := hmm.2 _ hmem
          simp [badT] at this
          exact this
        rw [hg] at v1 v2 hin hin0
        obtain ⟨gs, ga, gn, gc, gxs⟩ := g
        simp only at v1 v2 hmay
        obtain ⟨m2, rfl⟩ := hmay
        have hgn : gn = nW sb := by have := MayS.len m2; rw [hin.1.len] at this; simpa using this
        subst hgn
        have hNW : nW sb ≤ 64 := by unfold nW; omega
        have hcp := hF1.cap k hlt
        have hcw : cs k ≤ 9223372036854775807 := by have := hcp.2; unfold maxLen at this; omega
        have hcn := hcp.1
        have hgl := hin.1.le
        have hgc := hin.1.cap
        have hgc' : gc ≤ 9223372036854775807 := by unfold maxLen at hgc; omega
        have HP := hide (fun (w' : World) (hb : Below W.heap.size W w') => unite_any (bs k) (nW sb) (cs k) (F k) ga gc gxs w' ((hF1.words k hlt).below hb) (fun i hi => (hF2 k hlt i hi).1) (hin.1.below hb) hin.2 hNW
          (fun h0 x hx => by
            obtain ⟨b9, o9, e9, k9⟩ := hin0.1.at h0
            have e9' : ga = some ⟨b9, o9, none⟩ := e9
            rw [e9'] at hx
            cases hx
            have h9 : b9 < w.heap.size := World.block_lt_of_cell? _ _ (k9 0 h0)
            show ¬ b9 = bs k
            omega) hcp.2 hcp.1)
        have HIb := hide hI
        have HF := hide (And.intro hF1 hF2)
        have HCi := hide (And.intro hci hbx)
        have HOx := hide hin.2
        have HG := hide hg
        clear hF1 hF2 hI hcp HSeq hcells hin hin0 hS2 m2 hg hgc
        gi_wp2_with fail
        refine wpIn_region_any (by kernel_rfl) ?_
        refine wpAnyIn_round (F := Fence.wide) rfl (plain_all (by kernel_rfl)) _ _ _ _ ?_
        change wpAnyIn _ _ _ _ _ _ _ _ _ (World.drew _)
        refine wpAnyIn_take (i := 0) (v := ?_) rfl rfl (by kernel_rfl) (by kernel_rfl) (by kernel_rfl) (fun _ _ _ h => h) ⟨Or.inl ⟨by rfl, ?hy1⟩, fun _ => rfl⟩ ?rest1
        case hy1 => (intro w; go_simp; with_reducible rfl)
        refine wpAnyIn_take (i := 6) (v := ?_) rfl rfl (by kernel_rfl) (by kernel_rfl) (by kernel_rfl) (fun _ _ _ h => h) ⟨Or.inl ⟨by rfl, ?hy2⟩, fun _ => rfl⟩ ?rest2
        case hy2 => (intro w; go_simp; with_reducible rfl)
        refine wpAnyIn_take (i := 8) (v := ?_) rfl rfl (by kernel_rfl) (by kernel_rfl) (by kernel_rfl) (fun _ _ _ h => h) ⟨Or.inl ⟨by rfl, ?hy3⟩, fun _ => rfl⟩ ?rest3
        case hy3 => (intro w; go_simp; with_reducible rfl)
        refine wpAnyIn_ready (rs := [1, 2, 7]) (by kernel_rfl) (by simp) (AllReadyIn.cons rfl (fun K' hK' => ?_) (AllReadyIn.cons rfl (fun K' hK' => ?_) (AllReadyIn.cons rfl (fun K' hK' => ?_) AllReadyIn.nil)))
        · go_simp
          refine hK' _ _ ?_
          clear hK' K'
          refine wpAnyIn_ready (rs := [2, 7]) (by kernel_rfl) (by simp) (AllReadyIn.cons rfl (fun K' hK' => ?_) (AllReadyIn.cons rfl (fun K' hK' => ?_) AllReadyIn.nil))
          · go_simp
            refine hK' _ _ ?_
            clear hK' K'
            refine wpAnyIn_take (i := 3) (v := ?_) rfl rfl (by kernel_rfl) (by kernel_rfl) (by kernel_rfl) (fun _ _ _ h => h) ⟨Or.inl ⟨by rfl, ?hy4⟩, fun _ => rfl⟩ ?rest4
            case hy4 => (intro w; go_simp; with_reducible rfl)
            refine wpAnyIn_take (i := 4) (v := ?_) rfl rfl (by kernel_rfl) (by kernel_rfl) (by kernel_rfl) (fun _ _ _ h => h) ⟨Or.inl ⟨by rfl, ?hy5⟩, fun _ => rfl⟩ ?rest5
            case hy5 => (intro w; go_simp; with_reducible rfl)
            refine wpAnyIn_ready (rs := [5, 7]) (by kernel_rfl) (by simp) (AllReadyIn.cons rfl (fun K' hK' => ?_) (AllReadyIn.cons rfl (fun K' hK' => ?_) AllReadyIn.nil))
            · go_simp
              refine hK' _ _ ?_
              clear hK' K'
              refine wpAnyIn_ready (rs := [7]) (by kernel_rfl) (by simp) (AllReadyIn.cons rfl (fun K' hK' => ?_) AllReadyIn.nil)
              · go_simp
                refine hK' _ _ ?_
                clear hK' K'
                refine wpAnyIn_take (i := 9) (v := ?_) rfl rfl (by kernel_rfl) (by kernel_rfl) (by kernel_rfl) (fun _ _ _ h => h) ⟨Or.inl ⟨by rfl, ?hy6⟩, fun _ => rfl⟩ ?rest6
                case hy6 => (intro w; go_simp; with_reducible rfl)
                refine wpAnyIn_take (i := 10) (v := ?_) rfl rfl (by kernel_rfl) (by kernel_rfl) (by kernel_rfl) (fun _ _ _ h => h) ⟨Or.inl ⟨by rfl, ?hy7⟩, fun _ => rfl⟩ ?rest7
                case hy7 => (intro w; go_simp; with_reducible rfl)
                refine wpAnyIn_ready (rs := [11]) (by kernel_rfl) (by simp) (AllReadyIn.cons rfl (fun K' hK' => ?_) AllReadyIn.nil)
                · go_simp
                  refine hK' _ _ ?_
                  clear hK' K'
                  refine wpAnyIn_ready (rs := [12]) (by kernel_rfl) (by simp) (AllReadyIn.cons rfl (fun K' hK' => ?_) AllReadyIn.nil)
                  go_simp
                  refine ⟨trivial, (callsIn_wide.2 (unhide HP _ (by first | exact Below.refl _ _ | exact (Below.refl _ _).drew))).mono ?_⟩
                  rintro _ w1 ⟨rfl, hf1, hc1⟩
                  refine hK' _ _ ?_
                  refine wpAnyIn_done (by kernel_rfl) ?_ _
                  gi_wp2_with fail
                  have hcw : Chg (fun j => j = bs k) W w1 := (Chg.of_below (Below.refl W.heap.size W).drew).trans hc1
                  have hsf := unhide HSf
                  have hzs := unhide HZs
                  refine ⟨keepZ hcw (by omega), hcw.mono (fun j _ h => .inl h), ((unhide HIb).unite (by omega) (fun i hi => by have := (unhide HGe i hi).2.2; omega) (fun i hi => by have := (unhide HGe i hi).2.2; omega) hlt (unhide HF).1 (unhide HF).2 (unhide HOx) hcw hf1).congr (fun i y hi => prP_put L M sz k pre ⟨e, he1, he2⟩ (by rw [unhide HG]) i y), hcw.cell (by omega) (unhide HCi).1, (unhide HCi).2.chg hcw (by omega)⟩
            · go_simp
              refine hK' _ _ ?_
              clear hK' K'
              refine wpAnyIn_take (i := 9) (v := ?_) rfl rfl (by kernel_rfl) (by kernel_rfl) (by kernel_rfl) (fun _ _ _ h => h) ⟨Or.inl ⟨by rfl, ?hy8⟩, fun _ => rfl⟩ ?rest8
              case hy8 => (intro w; go_simp; with_reducible rfl)
              refine wpAnyIn_take (i := 10) (v := ?_) rfl rfl (by kernel_rfl) (by kernel_rfl) (by kernel_rfl) (fun _ _ _ h => h) ⟨Or.inl ⟨by rfl, ?hy9⟩, fun _ => rfl⟩ ?rest9
              case hy9 => (intro w; go_simp; with_reducible rfl)
              refine wpAnyIn_ready (rs := [5, 11]) (by kernel_rfl) (by simp) (AllReadyIn.cons rfl (fun K' hK' => ?_) (AllReadyIn.cons rfl (fun K' hK' => ?_) AllReadyIn.nil))
              · go_simp
                refine hK' _ _ ?_
                clear hK' K'
                refine wpAnyIn_ready (rs := [11]) (by kernel_rfl) (by simp) (AllReadyIn.cons rfl (fun K' hK' => ?_) AllReadyIn.nil)
                · go_simp
                  refine hK' _ _ ?_
                  clear hK' K'
                  refine wpAnyIn_ready (rs := [12]) (by kernel_rfl) (by simp) (AllReadyIn.cons rfl (fun K' hK' => ?_) AllReadyIn.nil)
                  go_simp
                  refine ⟨trivial, (callsIn_wide.2 (unhide HP _ (by first | exact Below.refl _ _ | exact (Below.refl _ _).drew))).mono ?_⟩
                  rintro _ w1 ⟨rfl, hf1, hc1⟩
                  refine hK' _ _ ?_
                  refine wpAnyIn_done (by kernel_rfl) ?_ _
                  gi_wp2_with fail
                  have hcw : Chg (fun j => j = bs k) W w1 := (Chg.of_below (Below.refl W.heap.size W).drew).trans hc1
                  have hsf := unhide HSf
                  have hzs := unhide HZs
                  refine ⟨keepZ hcw (by omega), hcw.mono (fun j _ h => .inl h), ((unhide HIb).unite (by omega) (fun i hi => by have := (unhide HGe i hi).2.2; omega) (fun i hi => by have := (unhide HGe i hi).2.2; omega) hlt (unhide HF).1 (unhide HF).2 (unhide HOx) hcw hf1).congr (fun i y hi => prP_put L M sz k pre ⟨e, he1, he2⟩ (by rw [unhide HG]) i y), hcw.cell (by omega) (unhide HCi).1, (unhide HCi).2.chg hcw (by omega)⟩
              · go_simp
                refine hK' _ _ ?_
                clear hK' K'
                refine wpAnyIn_ready (rs := [5]) (by kernel_rfl) (by simp) (AllReadyIn.cons rfl (fun K' hK' => ?_) AllReadyIn.nil)
                · go_simp
                  refine hK' _ _ ?_
                  clear hK' K'
                  refine wpAnyIn_ready (rs := [12]) (by kernel_rfl) (by simp) (AllReadyIn.cons rfl (fun K' hK' => ?_) AllReadyIn.nil)
                  go_simp
                  refine ⟨trivial, (callsIn_wide.2 (unhide HP _ (by first | exact Below.refl _ _ | exact (Below.refl _ _).drew))).mono ?_⟩
                  rintro _ w1 ⟨rfl, hf1, hc1⟩
                  refine hK' _ _ ?_
                  refine wpAnyIn_done (by kernel_rfl) ?_ _
                  gi_wp2_with fail
                  have hcw : Chg (fun j => j = bs k) W w1 := (Chg.of_below (Below.refl W.heap.size W).drew).trans hc1
                  have hsf := unhide HSf
                  have hzs := unhide HZs
                  refine ⟨keepZ hcw (by omega), hcw.mono (fun j _ h => .inl h), ((unhide HIb).unite (by omega) (fun i hi => by have := (unhide HGe i hi).2.2; omega) (fun i hi => by have := (unhide HGe i hi).2.2; omega) hlt (unhide HF).1 (unhide HF).2 (unhide HOx) hcw hf1).congr (fun i y hi => prP_put L M sz k pre ⟨e, he1, he2⟩ (by rw [unhide HG]) i y), hcw.cell (by omega) (unhide HCi).1, (unhide HCi).2.chg hcw (by omega)⟩
          · go_simp
            refine hK' _ _ ?_
            clear hK' K'
            refine wpAnyIn_take (i := 9) (v := ?_) rfl rfl (by kernel_rfl) (by kernel_rfl) (by kernel_rfl) (fun _ _ _ h => h) ⟨Or.inl ⟨by rfl, ?hy10⟩, fun _ => rfl⟩ ?rest10
            case hy10 => (intro w; go_simp; with_reducible rfl)
            refine wpAnyIn_take (i := 10) (v := ?_) rfl rfl (by kernel_rfl) (by kernel_rfl) (by kernel_rfl) (fun _ _ _ h => h) ⟨Or.inl ⟨by rfl, ?hy11⟩, fun _ => rfl⟩ ?rest11
            case hy11 => (intro w; go_simp; with_reducible rfl)
            refine wpAnyIn_ready (rs := [2, 11]) (by kernel_rfl) (by simp) (AllReadyIn.cons rfl (fun K' hK' => ?_) (AllReadyIn.cons rfl (fun K' hK' => ?_) AllReadyIn.nil))
            · go_simp
              refine hK' _ _ ?_
              clear hK' K'
              refine wpAnyIn_take (i := 3) (v := ?_) rfl rfl (by kernel_rfl) (by kernel_rfl) (by kernel_rfl) (fun _ _ _ h => h) ⟨Or.inl ⟨by rfl, ?hy12⟩, fun _ => rfl⟩ ?rest12
              case hy12 => (intro w; go_simp; with_reducible rfl)
              refine wpAnyIn_take (i := 4) (v := ?_) rfl rfl (by kernel_rfl) (by kernel_rfl) (by kernel_rfl) (fun _ _ _ h => h) ⟨Or.inl ⟨by rfl, ?hy13⟩, fun _ => rfl⟩ ?rest13
              case hy13 => (intro w; go_simp; with_reducible rfl)
              refine wpAnyIn_ready (rs := [5, 11]) (by kernel_rfl) (by simp) (AllReadyIn.cons rfl (fun K' hK' => ?_) (AllReadyIn.cons rfl (fun K' hK' => ?_) AllReadyIn.nil))
              · go_simp
                refine hK' _ _ ?_
                clear hK' K'
                refine wpAnyIn_ready (rs := [11]) (by kernel_rfl) (by simp) (AllReadyIn.cons rfl (fun K' hK' => ?_) AllReadyIn.nil)
                · go_simp
                  refine hK' _ _ ?_
                  clear hK' K'
                  refine wpAnyIn_ready (rs := [12]) (by kernel_rfl) (by simp) (AllReadyIn.cons rfl (fun K' hK' => ?_) AllReadyIn.nil)
                  go_simp
                  refine ⟨trivial, (callsIn_wide.2 (unhide HP _ (by first | exact Below.refl _ _ | exact (Below.refl _ _).drew))).mono ?_⟩
                  rintro _ w1 ⟨rfl, hf1, hc1⟩
                  refine hK' _ _ ?_
                  refine wpAnyIn_done (by kernel_rfl) ?_ _
                  gi_wp2_with fail
                  have hcw : Chg (fun j => j = bs k) W w1 := (Chg.of_below (Below.refl W.heap.size W).drew).trans hc1
                  have hsf := unhide HSf
                  have hzs := unhide HZs
                  refine ⟨keepZ hcw (by omega), hcw.mono (fun j _ h => .inl h), ((unhide HIb).unite (by omega) (fun i hi => by have := (unhide HGe i hi).2.2; omega) (fun i hi => by have := (unhide HGe i hi).2.2; omega) hlt (unhide HF).1 (unhide HF).2 (unhide HOx) hcw hf1).congr (fun i y hi => prP_put L M sz k pre ⟨e, he1, he2⟩ (by rw [unhide HG]) i y), hcw.cell (by omega) (unhide HCi).1, (unhide HCi).2.chg hcw (by omega)⟩
              · go_simp
                refine hK' _ _ ?_
                clear hK' K'
                refine wpAnyIn_ready (rs := [5]) (by kernel_rfl) (by simp) (AllReadyIn.cons rfl (fun K' hK' => ?_) AllReadyIn.nil)
                · go_simp
                  refine hK' _ _ ?_
                  clear hK' K'
                  refine wpAnyIn_ready (rs := [12]) (by kernel_rfl) (by simp) (AllReadyIn.cons rfl (fun K' hK' => ?_) AllReadyIn.nil)
                  go_simp
                  refine ⟨trivial, (callsIn_wide.2 (unhide HP _ (by first | exact Below.refl _ _ | exact (Below.refl _ _).drew))).mono ?_⟩
                  rintro _ w1 ⟨rfl, hf1, hc1⟩
                  refine hK' _ _ ?_
                  refine wpAnyIn_done (by kernel_rfl) ?_ _
                  gi_wp2_with fail
                  have hcw : Chg (fun j => j = bs k) W w1 := (Chg.of_below (Below.refl W.heap.size W).drew).trans hc1
                  have hsf := unhide HSf
                  have hzs := unhide HZs
                  refine ⟨keepZ hcw (by omega), hcw.mono (fun j _ h => .inl h), ((unhide HIb).unite (by omega) (fun i hi => by have := (unhide HGe i hi).2.2; omega) (fun i hi => by have := (unhide HGe i hi).2.2; omega) hlt (unhide HF).1 (unhide HF).2 (unhide HOx) hcw hf1).congr (fun i y hi => prP_put L M sz k pre ⟨e, he1, he2⟩ (by rw [unhide HG]) i y), hcw.cell (by omega) (unhide HCi).1, (unhide HCi).2.chg hcw (by omega)⟩
            · go_simp
              refine hK' _ _ ?_
              clear hK' K'
              refine wpAnyIn_ready (rs := [2]) (by kernel_rfl) (by simp) (AllReadyIn.cons rfl (fun K' hK' => ?_) AllReadyIn.nil)
              · go_simp
                refine hK' _ _ ?_
                clear hK' K'
                refine wpAnyIn_take (i := 3) (v := ?_) rfl rfl (by kernel_rfl) (by kernel_rfl) (by kernel_rfl) (fun _ _ _ h => h) ⟨Or.inl ⟨by rfl, ?hy14⟩, fun _ => rfl⟩ ?rest14
                case hy14 => (intro w; go_simp; with_reducible rfl)
                refine wpAnyIn_take (i := 4) (v := ?_) rfl rfl (by kernel_rfl) (by kernel_rfl) (by kernel_rfl) (fun _ _ _ h => h) ⟨Or.inl ⟨by rfl, ?hy15⟩, fun _ => rfl⟩ ?rest15
                case hy15 => (intro w; go_simp; with_reducible rfl)
                refine wpAnyIn_ready (rs := [5]) (by kernel_rfl) (by simp) (AllReadyIn.cons rfl (fun K' hK' => ?_) AllReadyIn.nil)
                · go_simp
                  refine hK' _ _ ?_
                  clear hK' K'
                  refine wpAnyIn_ready (rs := [12]) (by kernel_rfl) (by simp) (AllReadyIn.cons rfl (fun K' hK' => ?_) AllReadyIn.nil)
                  go_simp
                  refine ⟨trivial, (callsIn_wide.2 (unhide HP _ (by first | exact Below.refl _ _ | exact (Below.refl _ _).drew))).mono ?_⟩
                  rintro _ w1 ⟨rfl, hf1, hc1⟩
                  refine hK' _ _ ?_
                  refine wpAnyIn_done (by kernel_rfl) ?_ _
                  gi_wp2_with fail
                  have hcw : Chg (fun j => j = bs k) W w1 := (Chg.of_below (Below.refl W.heap.size W).drew).trans hc1
                  have hsf := unhide HSf
                  have hzs := unhide HZs
                  refine ⟨keepZ hcw (by omega), hcw.mono (fun j _ h => .inl h), ((unhide HIb).unite (by omega) (fun i hi => by have := (unhide HGe i hi).2.2; omega) (fun i hi => by have := (unhide HGe i hi).2.2; omega) hlt (unhide HF).1 (unhide HF).2 (unhide HOx) hcw hf1).congr (fun i y hi => prP_put L M sz k pre ⟨e, he1, he2⟩ (by rw [unhide HG]) i y), hcw.cell (by omega) (unhide HCi).1, (unhide HCi).2.chg hcw (by omega)⟩
        · go_simp
          refine hK' _ _ ?_
          clear hK' K'
          refine wpAnyIn_ready (rs := [1, 7]) (by kernel_rfl) (by simp) (AllReadyIn.cons rfl (fun K' hK' => ?_) (AllReadyIn.cons rfl (fun K' hK' => ?_) AllReadyIn.nil))
          · go_simp
            refine hK' _ _ ?_
            clear hK' K'
            refine wpAnyIn_take (i := 3) (v := ?_) rfl rfl (by kernel_rfl) (by kernel_rfl) (by kernel_rfl) (fun _ _ _ h => h) ⟨Or.inl ⟨by rfl, ?hy16⟩, fun _ => rfl⟩ ?rest16
            case hy16 => (intro w; go_simp; with_reducible rfl)
            refine wpAnyIn_take (i := 4) (v := ?_) rfl rfl (by kernel_rfl) (by kernel_rfl) (by kernel_rfl) (fun _ _ _ h => h) ⟨Or.inl ⟨by rfl, ?hy17⟩, fun _ => rfl⟩ ?rest17
            case hy17 => (intro w; go_simp; with_reducible rfl)
            refine wpAnyIn_ready (rs := [5, 7]) (by kernel_rfl) (by simp) (AllReadyIn.cons rfl (fun K' hK' => ?_) (AllReadyIn.cons rfl (fun K' hK' => ?_) AllReadyIn.nil))
            · go_simp
              refine hK' _ _ ?_
              clear hK' K'
              refine wpAnyIn_ready (rs := [7]) (by kernel_rfl) (by simp) (AllReadyIn.cons rfl (fun K' hK' => ?_) AllReadyIn.nil)
              · go_simp
                refine hK' _ _ ?_
                clear hK' K'
                refine wpAnyIn_take (i := 9) (v := ?_) rfl rfl (by kernel_rfl) (by kernel_rfl) (by kernel_rfl) (fun _ _ _ h => h) ⟨Or.inl ⟨by rfl, ?hy18⟩, fun _ => rfl⟩ ?rest18
                case hy18 => (intro w; go_simp; with_reducible rfl)
                refine wpAnyIn_take (i := 10) (v := ?_) rfl rfl (by kernel_rfl) (by kernel_rfl) (by kernel_rfl) (fun _ _ _ h => h) ⟨Or.inl ⟨by rfl, ?hy19⟩, fun _ => rfl⟩ ?rest19
                case hy19 => (intro w; go_simp; with_reducible rfl)
                refine wpAnyIn_ready (rs := [11]) (by kernel_rfl) (by simp) (AllReadyIn.cons rfl (fun K' hK' => ?_) AllReadyIn.nil)
                · go_simp
                  refine hK' _ _ ?_
                  clear hK' K'
                  refine wpAnyIn_ready (rs := [12]) (by kernel_rfl) (by simp) (AllReadyIn.cons rfl (fun K' hK' => ?_) AllReadyIn.nil)
                  go_simp
                  refine ⟨trivial, (callsIn_wide.2 (unhide HP _ (by first | exact Below.refl _ _ | exact (Below.refl _ _).drew))).mono ?_⟩
                  rintro _ w1 ⟨rfl, hf1, hc1⟩
                  refine hK' _ _ ?_
                  refine wpAnyIn_done (by kernel_rfl) ?_ _
                  gi_wp2_with fail
                  have hcw : Chg (fun j => j = bs k) W w1 := (Chg.of_below (Below.refl W.heap.size W).drew).trans hc1
                  have hsf := unhide HSf
                  have hzs := unhide HZs
                  refine ⟨keepZ hcw (by omega), hcw.mono (fun j _ h => .inl h), ((unhide HIb).unite (by omega) (fun i hi => by have := (unhide HGe i hi).2.2; omega) (fun i hi => by have := (unhide HGe i hi).2.2; omega) hlt (unhide HF).1 (unhide HF).2 (unhide HOx) hcw hf1).congr (fun i y hi => prP_put L M sz k pre ⟨e, he1, he2⟩ (by rw [unhide HG]) i y), hcw.cell (by omega) (unhide HCi).1, (unhide HCi).2.chg hcw (by omega)⟩
            · go_simp
              refine hK' _ _ ?_
              clear hK' K'
              refine wpAnyIn_take (i := 9) (v := ?_) rfl rfl (by kernel_rfl) (by kernel_rfl) (by kernel_rfl) (fun _ _ _ h => h) ⟨Or.inl ⟨by rfl, ?hy20⟩, fun _ => rfl⟩ ?rest20
              case hy20 => (intro w; go_simp; with_reducible rfl)
              refine wpAnyIn_take (i := 10) (v := ?_) rfl rfl (by kernel_rfl) (by kernel_rfl) (by kernel_rfl) (fun _ _ _ h => h) ⟨Or.inl ⟨by rfl, ?hy21⟩, fun _ => rfl⟩ ?rest21
              case hy21 => (intro w; go_simp; with_reducible rfl)
              refine wpAnyIn_ready (rs := [5, 11]) (by kernel_rfl) (by simp) (AllReadyIn.cons rfl (fun K' hK' => ?_) (AllReadyIn.cons rfl (fun K' hK' => ?_) AllReadyIn.nil))
              · go_simp
                refine hK' _ _ ?_
                clear hK' K'
                refine wpAnyIn_ready (rs := [11]) (by kernel_rfl) (by simp) (AllReadyIn.cons rfl (fun K' hK' => ?_) AllReadyIn.nil)
                · go_simp
                  refine hK' _ _ ?_
                  clear hK' K'
                  refine wpAnyIn_ready (rs := [12]) (by kernel_rfl) (by simp) (AllReadyIn.cons rfl (fun K' hK' => ?_) AllReadyIn.nil)
                  go_simp
                  refine ⟨trivial, (callsIn_wide.2 (unhide HP _ (by first | exact Below.refl _ _ | exact (Below.refl _ _).drew))).mono ?_⟩
                  rintro _ w1 ⟨rfl, hf1, hc1⟩
                  refine hK' _ _ ?_
                  refine wpAnyIn_done (by kernel_rfl) ?_ _
                  gi_wp2_with fail
                  have hcw : Chg (fun j => j = bs k) W w1 := (Chg.of_below (Below.refl W.heap.size W).drew).trans hc1
                  have hsf := unhide HSf
                  have hzs := unhide HZs
                  refine ⟨keepZ hcw (by omega), hcw.mono (fun j _ h => .inl h), ((unhide HIb).unite (by omega) (fun i hi => by have := (unhide HGe i hi).2.2; omega) (fun i hi => by have := (unhide HGe i hi).2.2; omega) hlt (unhide HF).1 (unhide HF).2 (unhide HOx) hcw hf1).congr (fun i y hi => prP_put L M sz k pre ⟨e, he1, he2⟩ (by rw [unhide HG]) i y), hcw.cell (by omega) (unhide HCi).1, (unhide HCi).2.chg hcw (by omega)⟩
              · go_simp
                refine hK' _ _ ?_
                clear hK' K'
                refine wpAnyIn_ready (rs := [5]) (by kernel_rfl) (by simp) (AllReadyIn.cons rfl (fun K' hK' => ?_) AllReadyIn.nil)
                · go_simp
                  refine hK' _ _ ?_
                  clear hK' K'
                  refine wpAnyIn_ready (rs := [12]) (by kernel_rfl) (by simp) (AllReadyIn.cons rfl (fun K' hK' => ?_) AllReadyIn.nil)
                  go_simp
                  refine ⟨trivial, (callsIn_wide.2 (unhide HP _ (by first | exact Below.refl _ _ | exact (Below.refl _ _).drew))).mono ?_⟩
                  rintro _ w1 ⟨rfl, hf1, hc1⟩
                  refine hK' _ _ ?_
                  refine wpAnyIn_done (by kernel_rfl) ?_ _
                  gi_wp2_with fail
                  have hcw : Chg (fun j => j = bs k) W w1 := (Chg.of_below (Below.refl W.heap.size W).drew).trans hc1
                  have hsf := unhide HSf
                  have hzs := unhide HZs
                  refine ⟨keepZ hcw (by omega), hcw.mono (fun j _ h => .inl h), ((unhide HIb).unite (by omega) (fun i hi => by have := (unhide HGe i hi).2.2; omega) (fun i hi => by have := (unhide HGe i hi).2.2; omega) hlt (unhide HF).1 (unhide HF).2 (unhide HOx) hcw hf1).congr (fun i y hi => prP_put L M sz k pre ⟨e, he1, he2⟩ (by rw [unhide HG]) i y), hcw.cell (by omega) (unhide HCi).1, (unhide HCi).2.chg hcw (by omega)⟩
          · go_simp
            refine hK' _ _ ?_
            clear hK' K'
            refine wpAnyIn_take (i := 9) (v := ?_) rfl rfl (by kernel_rfl) (by kernel_rfl) (by kernel_rfl) (fun _ _ _ h => h) ⟨Or.inl ⟨by rfl, ?hy22⟩, fun _ => rfl⟩ ?rest22
            case hy22 => (intro w; go_simp; with_reducible rfl)
            refine wpAnyIn_take (i := 10) (v := ?_) rfl rfl (by kernel_rfl) (by kernel_rfl) (by kernel_rfl) (fun _ _ _ h => h) ⟨Or.inl ⟨by rfl, ?hy23⟩, fun _ => rfl⟩ ?rest23
            case hy23 => (intro w; go_simp; with_reducible rfl)
            refine wpAnyIn_ready (rs := [1, 11]) (by kernel_rfl) (by simp) (AllReadyIn.cons rfl (fun K' hK' => ?_) (AllReadyIn.cons rfl (fun K' hK' => ?_) AllReadyIn.nil))
            · go_simp
              refine hK' _ _ ?_
              clear hK' K'
              refine wpAnyIn_take (i := 3) (v := ?_) rfl rfl (by kernel_rfl) (by kernel_rfl) (by kernel_rfl) (fun _ _ _ h => h) ⟨Or.inl ⟨by rfl, ?hy24⟩, fun _ => rfl⟩ ?rest24
              case hy24 => (intro w; go_simp; with_reducible rfl)
              refine wpAnyIn_take (i := 4) (v := ?_) rfl rfl (by kernel_rfl) (by kernel_rfl) (by kernel_rfl) (fun _ _ _ h => h) ⟨Or.inl ⟨by rfl, ?hy25⟩, fun _ => rfl⟩ ?rest25
              case hy25 => (intro w; go_simp; with_reducible rfl)
              refine wpAnyIn_ready (rs := [5, 11]) (by kernel_rfl) (by simp) (AllReadyIn.cons rfl (fun K' hK' => ?_) (AllReadyIn.cons rfl (fun K' hK' => ?_) AllReadyIn.nil))
              · go_simp
                refine hK' _ _ ?_
                clear hK' K'
                refine wpAnyIn_ready (rs := [11]) (by kernel_rfl) (by simp) (AllReadyIn.cons rfl (fun K' hK' => ?_) AllReadyIn.nil)
                · go_simp
                  refine hK' _ _ ?_
                  clear hK' K'
                  refine wpAnyIn_ready (rs := [12]) (by kernel_rfl) (by simp) (AllReadyIn.cons rfl (fun K' hK' => ?_) AllReadyIn.nil)
                  go_simp
                  refine ⟨trivial, (callsIn_wide.2 (unhide HP _ (by first | exact Below.refl _ _ | exact (Below.refl _ _).drew))).mono ?_⟩
                  rintro _ w1 ⟨rfl, hf1, hc1⟩
                  refine hK' _ _ ?_
                  refine wpAnyIn_done (by kernel_rfl) ?_ _
                  gi_wp2_with fail
                  have hcw : Chg (fun j => j = bs k) W w1 := (Chg.of_below (Below.refl W.heap.size W).drew).trans hc1
                  have hsf := unhide HSf
                  have hzs := unhide HZs
                  refine ⟨keepZ hcw (by omega), hcw.mono (fun j _ h => .inl h), ((unhide HIb).unite (by omega) (fun i hi => by have := (unhide HGe i hi).2.2; omega) (fun i hi => by have := (unhide HGe i hi).2.2; omega) hlt (unhide HF).1 (unhide HF).2 (unhide HOx) hcw hf1).congr (fun i y hi => prP_put L M sz k pre ⟨e, he1, he2⟩ (by rw [unhide HG]) i y), hcw.cell (by omega) (unhide HCi).1, (unhide HCi).2.chg hcw (by omega)⟩
              · go_simp
                refine hK' _ _ ?_
                clear hK' K'
                refine wpAnyIn_ready (rs := [5]) (by kernel_rfl) (by simp) (AllReadyIn.cons rfl (fun K' hK' => ?_) AllReadyIn.nil)
                · go_simp
                  refine hK' _ _ ?_
                  clear hK' K'
                  refine wpAnyIn_ready (rs := [12]) (by kernel_rfl) (by simp) (AllReadyIn.cons rfl (fun K' hK' => ?_) AllReadyIn.nil)
                  go_simp
                  refine ⟨trivial, (callsIn_wide.2 (unhide HP _ (by first | exact Below.refl _ _ | exact (Below.refl _ _).drew))).mono ?_⟩
                  rintro _ w1 ⟨rfl, hf1, hc1⟩
                  refine hK' _ _ ?_
                  refine wpAnyIn_done (by kernel_rfl) ?_ _
                  gi_wp2_with fail
                  have hcw : Chg (fun j => j = bs k) W w1 := (Chg.of_below (Below.refl W.heap.size W).drew).trans hc1
                  have hsf := unhide HSf
                  have hzs := unhide HZs
                  refine ⟨keepZ hcw (by omega), hcw.mono (fun j _ h => .inl h), ((unhide HIb).unite (by omega) (fun i hi => by have := (unhide HGe i hi).2.2; omega) (fun i hi => by have := (unhide HGe i hi).2.2; omega) hlt (unhide HF).1 (unhide HF).2 (unhide HOx) hcw hf1).congr (fun i y hi => prP_put L M sz k pre ⟨e, he1, he2⟩ (by rw [unhide HG]) i y), hcw.cell (by omega) (unhide HCi).1, (unhide HCi).2.chg hcw (by omega)⟩
            · go_simp
              refine hK' _ _ ?_
              clear hK' K'
              refine wpAnyIn_ready (rs := [1]) (by kernel_rfl) (by simp) (AllReadyIn.cons rfl (fun K' hK' => ?_) AllReadyIn.nil)
              · go_simp
                refine hK' _ _ ?_
                clear hK' K'
                refine wpAnyIn_take (i := 3) (v := ?_) rfl rfl (by kernel_rfl) (by kernel_rfl) (by kernel_rfl) (fun _ _ _ h => h) ⟨Or.inl ⟨by rfl, ?hy26⟩, fun _ => rfl⟩ ?rest26
                case hy26 => (intro w; go_simp; with_reducible rfl)
                refine wpAnyIn_take (i := 4) (v := ?_) rfl rfl (by kernel_rfl) (by kernel_rfl) (by kernel_rfl) (fun _ _ _ h => h) ⟨Or.inl ⟨by rfl, ?hy27⟩, fun _ => rfl⟩ ?rest27
                case hy27 => (intro w; go_simp; with_reducible rfl)
                refine wpAnyIn_ready (rs := [5]) (by kernel_rfl) (by simp) (AllReadyIn.cons rfl (fun K' hK' => ?_) AllReadyIn.nil)
                · go_simp
                  refine hK' _ _ ?_
                  clear hK' K'
                  refine wpAnyIn_ready (rs := [12]) (by kernel_rfl) (by simp) (AllReadyIn.cons rfl (fun K' hK' => ?_) AllReadyIn.nil)
                  go_simp
                  refine ⟨trivial, (callsIn_wide.2 (unhide HP _ (by first | exact Below.refl _ _ | exact (Below.refl _ _).drew))).mono ?_⟩
                  rintro _ w1 ⟨rfl, hf1, hc1⟩
                  refine hK' _ _ ?_
                  refine wpAnyIn_done (by kernel_rfl) ?_ _
                  gi_wp2_with fail
                  have hcw : Chg (fun j => j = bs k) W w1 := (Chg.of_below (Below.refl W.heap.size W).drew).trans hc1
                  have hsf := unhide HSf
                  have hzs := unhide HZs
                  refine ⟨keepZ hcw (by omega), hcw.mono (fun j _ h => .inl h), ((unhide HIb).unite (by omega) (fun i hi => by have := (unhide HGe i hi).2.2; omega) (fun i hi => by have := (unhide HGe i hi).2.2; omega) hlt (unhide HF).1 (unhide HF).2 (unhide HOx) hcw hf1).congr (fun i y hi => prP_put L M sz k pre ⟨e, he1, he2⟩ (by rw [unhide HG]) i y), hcw.cell (by omega) (unhide HCi).1, (unhide HCi).2.chg hcw (by omega)⟩
        · go_simp
          refine hK' _ _ ?_
          clear hK' K'
          refine wpAnyIn_take (i := 9) (v := ?_) rfl rfl (by kernel_rfl) (by kernel_rfl) (by kernel_rfl) (fun _ _ _ h => h) ⟨Or.inl ⟨by rfl, ?hy28⟩, fun _ => rfl⟩ ?rest28
          case hy28 => (intro w; go_simp; with_reducible rfl)
          refine wpAnyIn_take (i := 10) (v := ?_) rfl rfl (by kernel_rfl) (by kernel_rfl) (by kernel_rfl) (fun _ _ _ h => h) ⟨Or.inl ⟨by rfl, ?hy29⟩, fun _ => rfl⟩ ?rest29
          case hy29 => (intro w; go_simp; with_reducible rfl)
          refine wpAnyIn_ready (rs := [1, 2, 11]) (by kernel_rfl) (by simp) (AllReadyIn.cons rfl (fun K' hK' => ?_) (AllReadyIn.cons rfl (fun K' hK' => ?_) (AllReadyIn.cons rfl (fun K' hK' => ?_) AllReadyIn.nil)))
          · go_simp
            refine hK' _ _ ?_
            clear hK' K'
            refine wpAnyIn_ready (rs := [2, 11]) (by kernel_rfl) (by simp) (AllReadyIn.cons rfl (fun K' hK' => ?_) (AllReadyIn.cons rfl (fun K' hK' => ?_) AllReadyIn.nil))
            · go_simp
              refine hK' _ _ ?_
              clear hK' K'
              refine wpAnyIn_take (i := 3) (v := ?_) rfl rfl (by kernel_rfl) (by kernel_rfl) (by kernel_rfl) (fun _ _ _ h => h) ⟨Or.inl ⟨by rfl, ?hy30⟩, fun _ => rfl⟩ ?rest30
              case hy30 => (intro w; go_simp; with_reducible rfl)
              refine wpAnyIn_take (i := 4) (v := ?_) rfl rfl (by kernel_rfl) (by kernel_rfl) (by kernel_rfl) (fun _ _ _ h => h) ⟨Or.inl ⟨by rfl, ?hy31⟩, fun _ => rfl⟩ ?rest31
              case hy31 => (intro w; go_simp; with_reducible rfl)
              refine wpAnyIn_ready (rs := [5, 11]) (by kernel_rfl) (by simp) (AllReadyIn.cons rfl (fun K' hK' => ?_) (AllReadyIn.cons rfl (fun K' hK' => ?_) AllReadyIn.nil))
              · go_simp
                refine hK' _ _ ?_
                clear hK' K'
                refine wpAnyIn_ready (rs := [11]) (by kernel_rfl) (by simp) (AllReadyIn.cons rfl (fun K' hK' => ?_) AllReadyIn.nil)
                · go_simp
                  refine hK' _ _ ?_
                  clear hK' K'
                  refine wpAnyIn_ready (rs := [12]) (by kernel_rfl) (by simp) (AllReadyIn.cons rfl (fun K' hK' => ?_) AllReadyIn.nil)
                  go_simp
                  refine ⟨trivial, (callsIn_wide.2 (unhide HP _ (by first | exact Below.refl _ _ | exact (Below.refl _ _).drew))).mono ?_⟩
                  rintro _ w1 ⟨rfl, hf1, hc1⟩
                  refine hK' _ _ ?_
                  refine wpAnyIn_done (by kernel_rfl) ?_ _
                  gi_wp2_with fail
                  have hcw : Chg (fun j => j = bs k) W w1 := (Chg.of_below (Below.refl W.heap.size W).drew).trans hc1
                  have hsf := unhide HSf
                  have hzs := unhide HZs
                  refine ⟨keepZ hcw (by omega), hcw.mono (fun j _ h => .inl h), ((unhide HIb).unite (by omega) (fun i hi => by have := (unhide HGe i hi).2.2; omega) (fun i hi => by have := (unhide HGe i hi).2.2; omega) hlt (unhide HF).1 (unhide HF).2 (unhide HOx) hcw hf1).congr (fun i y hi => prP_put L M sz k pre ⟨e, he1, he2⟩ (by rw [unhide HG]) i y), hcw.cell (by omega) (unhide HCi).1, (unhide HCi).2.chg hcw (by omega)⟩
              · go_simp
                refine hK' _ _ ?_
                clear hK' K'
                refine wpAnyIn_ready (rs := [5]) (by kernel_rfl) (by simp) (AllReadyIn.cons rfl (fun K' hK' => ?_) AllReadyIn.nil)
                · go_simp
                  refine hK' _ _ ?_
                  clear hK' K'
                  refine wpAnyIn_ready (rs := [12]) (by kernel_rfl) (by simp) (AllReadyIn.cons rfl (fun K' hK' => ?_) AllReadyIn.nil)
                  go_simp
                  refine ⟨trivial, (callsIn_wide.2 (unhide HP _ (by first | exact Below.refl _ _ | exact (Below.refl _ _).drew))).mono ?_⟩
                  rintro _ w1 ⟨rfl, hf1, hc1⟩
                  refine hK' _ _ ?_
                  refine wpAnyIn_done (by kernel_rfl) ?_ _
                  gi_wp2_with fail
                  have hcw : Chg (fun j => j = bs k) W w1 := (Chg.of_below (Below.refl W.heap.size W).drew).trans hc1
                  have hsf := unhide HSf
                  have hzs := unhide HZs
                  refine ⟨keepZ hcw (by omega), hcw.mono (fun j _ h => .inl h), ((unhide HIb).unite (by omega) (fun i hi => by have := (unhide HGe i hi).2.2; omega) (fun i hi => by have := (unhide HGe i hi).2.2; omega) hlt (unhide HF).1 (unhide HF).2 (unhide HOx) hcw hf1).congr (fun i y hi => prP_put L M sz k pre ⟨e, he1, he2⟩ (by rw [unhide HG]) i y), hcw.cell (by omega) (unhide HCi).1, (unhide HCi).2.chg hcw (by omega)⟩
            · go_simp
              refine hK' _ _ ?_
              clear hK' K'
              refine wpAnyIn_ready (rs := [2]) (by kernel_rfl) (by simp) (AllReadyIn.cons rfl (fun K' hK' => ?_) AllReadyIn.nil)
              · go_simp
                refine hK' _ _ ?_
                clear hK' K'
                refine wpAnyIn_take (i := 3) (v := ?_) rfl rfl (by kernel_rfl) (by kernel_rfl) (by kernel_rfl) (fun _ _ _ h => h) ⟨Or.inl ⟨by rfl, ?hy32⟩, fun _ => rfl⟩ ?rest32
                case hy32 => (intro w; go_simp; with_reducible rfl)
                refine wpAnyIn_take (i := 4) (v := ?_) rfl rfl (by kernel_rfl) (by kernel_rfl) (by kernel_rfl) (fun _ _ _ h => h) ⟨Or.inl ⟨by rfl, ?hy33⟩, fun _ => rfl⟩ ?rest33
                case hy33 => (intro w; go_simp; with_reducible rfl)
                refine wpAnyIn_ready (rs := [5]) (by kernel_rfl) (by simp) (AllReadyIn.cons rfl (fun K' hK' => ?_) AllReadyIn.nil)
                · go_simp
                  refine hK' _ _ ?_
                  clear hK' K'
                  refine wpAnyIn_ready (rs := [12]) (by kernel_rfl) (by simp) (AllReadyIn.cons rfl (fun K' hK' => ?_) AllReadyIn.nil)
                  go_simp
                  refine ⟨trivial, (callsIn_wide.2 (unhide HP _ (by first | exact Below.refl _ _ | exact (Below.refl _ _).drew))).mono ?_⟩
                  rintro _ w1 ⟨rfl, hf1, hc1⟩
                  refine hK' _ _ ?_
                  refine wpAnyIn_done (by kernel_rfl) ?_ _
                  gi_wp2_with fail
                  have hcw : Chg (fun j => j = bs k) W w1 := (Chg.of_below (Below.refl W.heap.size W).drew).trans hc1
                  have hsf := unhide HSf
                  have hzs := unhide HZs
                  refine ⟨keepZ hcw (by omega), hcw.mono (fun j _ h => .inl h), ((unhide HIb).unite (by omega) (fun i hi => by have := (unhide HGe i hi).2.2; omega) (fun i hi => by have := (unhide HGe i hi).2.2; omega) hlt (unhide HF).1 (unhide HF).2 (unhide HOx) hcw hf1).congr (fun i y hi => prP_put L M sz k pre ⟨e, he1, he2⟩ (by rw [unhide HG]) i y), hcw.cell (by omega) (unhide HCi).1, (unhide HCi).2.chg hcw (by omega)⟩
          · go_simp
            refine hK' _ _ ?_
            clear hK' K'
            refine wpAnyIn_ready (rs := [1, 11]) (by kernel_rfl) (by simp) (AllReadyIn.cons rfl (fun K' hK' => ?_) (AllReadyIn.cons rfl (fun K' hK' => ?_) AllReadyIn.nil))
            · go_simp
              refine hK' _ _ ?_
              clear hK' K'
              refine wpAnyIn_take (i := 3) (v := ?_) rfl rfl (by kernel_rfl) (by kernel_rfl) (by kernel_rfl) (fun _ _ _ h => h) ⟨Or.inl ⟨by rfl, ?hy34⟩, fun _ => rfl⟩ ?rest34
              case hy34 => (intro w; go_simp; with_reducible rfl)
              refine wpAnyIn_take (i := 4) (v := ?_) rfl rfl (by kernel_rfl) (by kernel_rfl) (by kernel_rfl) (fun _ _ _ h => h) ⟨Or.inl ⟨by rfl, ?hy35⟩, fun _ => rfl⟩ ?rest35
              case hy35 => (intro w; go_simp; with_reducible rfl)
              refine wpAnyIn_ready (rs := [5, 11]) (by kernel_rfl) (by simp) (AllReadyIn.cons rfl (fun K' hK' => ?_) (AllReadyIn.cons rfl (fun K' hK' => ?_) AllReadyIn.nil))
              · go_simp
                refine hK' _ _ ?_
                clear hK' K'
                refine wpAnyIn_ready (rs := [11]) (by kernel_rfl) (by simp) (AllReadyIn.cons rfl (fun K' hK' => ?_) AllReadyIn.nil)
                · go_simp
                  refine hK' _ _ ?_
                  clear hK' K'
                  refine wpAnyIn_ready (rs := [12]) (by kernel_rfl) (by simp) (AllReadyIn.cons rfl (fun K' hK' => ?_) AllReadyIn.nil)
                  go_simp
                  refine ⟨trivial, (callsIn_wide.2 (unhide HP _ (by first | exact Below.refl _ _ | exact (Below.refl _ _).drew))).mono ?_⟩
                  rintro _ w1 ⟨rfl, hf1, hc1⟩
                  refine hK' _ _ ?_
                  refine wpAnyIn_done (by kernel_rfl) ?_ _
                  gi_wp2_with fail
                  have hcw : Chg (fun j => j = bs k) W w1 := (Chg.of_below (Below.refl W.heap.size W).drew).trans hc1
                  have hsf := unhide HSf
                  have hzs := unhide HZs
                  refine ⟨keepZ hcw (by omega), hcw.mono (fun j _ h => .inl h), ((unhide HIb).unite (by omega) (fun i hi => by have := (unhide HGe i hi).2.2; omega) (fun i hi => by have := (unhide HGe i hi).2.2; omega) hlt (unhide HF).1 (unhide HF).2 (unhide HOx) hcw hf1).congr (fun i y hi => prP_put L M sz k pre ⟨e, he1, he2⟩ (by rw [unhide HG]) i y), hcw.cell (by omega) (unhide HCi).1, (unhide HCi).2.chg hcw (by omega)⟩
              · go_simp
                refine hK' _ _ ?_
                clear hK' K'
                refine wpAnyIn_ready (rs := [5]) (by kernel_rfl) (by simp) (AllReadyIn.cons rfl (fun K' hK' => ?_) AllReadyIn.nil)
                · go_simp
                  refine hK' _ _ ?_
                  clear hK' K'
                  refine wpAnyIn_ready (rs := [12]) (by kernel_rfl) (by simp) (AllReadyIn.cons rfl (fun K' hK' => ?_) AllReadyIn.nil)
                  go_simp
                  refine ⟨trivial, (callsIn_wide.2 (unhide HP _ (by first | exact Below.refl _ _ | exact (Below.refl _ _).drew))).mono ?_⟩
                  rintro _ w1 ⟨rfl, hf1, hc1⟩
                  refine hK' _ _ ?_
                  refine wpAnyIn_done (by kernel_rfl) ?_ _
                  gi_wp2_with fail
                  have hcw : Chg (fun j => j = bs k) W w1 := (Chg.of_below (Below.refl W.heap.size W).drew).trans hc1
                  have hsf := unhide HSf
                  have hzs := unhide HZs
                  refine ⟨keepZ hcw (by omega), hcw.mono (fun j _ h => .inl h), ((unhide HIb).unite (by omega) (fun i hi => by have := (unhide HGe i hi).2.2; omega) (fun i hi => by have := (unhide HGe i hi).2.2; omega) hlt (unhide HF).1 (unhide HF).2 (unhide HOx) hcw hf1).congr (fun i y hi => prP_put L M sz k pre ⟨e, he1, he2⟩ (by rw [unhide HG]) i y), hcw.cell (by omega) (unhide HCi).1, (unhide HCi).2.chg hcw (by omega)⟩
            · go_simp
              refine hK' _ _ ?_
              clear hK' K'
              refine wpAnyIn_ready (rs := [1]) (by kernel_rfl) (by simp) (AllReadyIn.cons rfl (fun K' hK' => ?_) AllReadyIn.nil)
              · go_simp
                refine hK' _ _ ?_
                clear hK' K'
                refine wpAnyIn_take (i := 3) (v := ?_) rfl rfl (by kernel_rfl) (by kernel_rfl) (by kernel_rfl) (fun _ _ _ h => h) ⟨Or.inl ⟨by rfl, ?hy36⟩, fun _ => rfl⟩ ?rest36
                case hy36 => (intro w; go_simp; with_reducible rfl)
                refine wpAnyIn_take (i := 4) (v := ?_) rfl rfl (by kernel_rfl) (by kernel_rfl) (by kernel_rfl) (fun _ _ _ h => h) ⟨Or.inl ⟨by rfl, ?hy37⟩, fun _ => rfl⟩ ?rest37
                case hy37 => (intro w; go_simp; with_reducible rfl)
                refine wpAnyIn_ready (rs := [5]) (by kernel_rfl) (by simp) (AllReadyIn.cons rfl (fun K' hK' => ?_) AllReadyIn.nil)
                · go_simp
                  refine hK' _ _ ?_
                  clear hK' K'
                  refine wpAnyIn_ready (rs := [12]) (by kernel_rfl) (by simp) (AllReadyIn.cons rfl (fun K' hK' => ?_) AllReadyIn.nil)
                  go_simp
                  refine ⟨trivial, (callsIn_wide.2 (unhide HP _ (by first | exact Below.refl _ _ | exact (Below.refl _ _).drew))).mono ?_⟩
                  rintro _ w1 ⟨rfl, hf1, hc1⟩
                  refine hK' _ _ ?_
                  refine wpAnyIn_done (by kernel_rfl) ?_ _
                  gi_wp2_with fail
                  have hcw : Chg (fun j => j = bs k) W w1 := (Chg.of_below (Below.refl W.heap.size W).drew).trans hc1
                  have hsf := unhide HSf
                  have hzs := unhide HZs
                  refine ⟨keepZ hcw (by omega), hcw.mono (fun j _ h => .inl h), ((unhide HIb).unite (by omega) (fun i hi => by have := (unhide HGe i hi).2.2; omega) (fun i hi => by have := (unhide HGe i hi).2.2; omega) hlt (unhide HF).1 (unhide HF).2 (unhide HOx) hcw hf1).congr (fun i y hi => prP_put L M sz k pre ⟨e, he1, he2⟩ (by rw [unhide HG]) i y), hcw.cell (by omega) (unhide HCi).1, (unhide HCi).2.chg hcw (by omega)⟩
          · go_simp
            refine hK' _ _ ?_
            clear hK' K'
            refine wpAnyIn_ready (rs := [1, 2]) (by kernel_rfl) (by simp) (AllReadyIn.cons rfl (fun K' hK' => ?_) (AllReadyIn.cons rfl (fun K' hK' => ?_) AllReadyIn.nil))
            · go_simp
              refine hK' _ _ ?_
              clear hK' K'
              refine wpAnyIn_ready (rs := [2]) (by kernel_rfl) (by simp) (AllReadyIn.cons rfl (fun K' hK' => ?_) AllReadyIn.nil)
              · go_simp
                refine hK' _ _ ?_
                clear hK' K'
                refine wpAnyIn_take (i := 3) (v := ?_) rfl rfl (by kernel_rfl) (by kernel_rfl) (by kernel_rfl) (fun _ _ _ h => h) ⟨Or.inl ⟨by rfl, ?hy38⟩, fun _ => rfl⟩ ?rest38
                case hy38 => (intro w; go_simp; with_reducible rfl)
                refine wpAnyIn_take (i := 4) (v := ?_) rfl rfl (by kernel_rfl) (by kernel_rfl) (by kernel_rfl) (fun _ _ _ h => h) ⟨Or.inl ⟨by rfl, ?hy39⟩, fun _ => rfl⟩ ?rest39
                case hy39 => (intro w; go_simp; with_reducible rfl)
                refine wpAnyIn_ready (rs := [5]) (by kernel_rfl) (by simp) (AllReadyIn.cons rfl (fun K' hK' => ?_) AllReadyIn.nil)
                · go_simp
                  refine hK' _ _ ?_
                  clear hK' K'
                  refine wpAnyIn_ready (rs := [12]) (by kernel_rfl) (by simp) (AllReadyIn.cons rfl (fun K' hK' => ?_) AllReadyIn.nil)
                  go_simp
                  refine ⟨trivial, (callsIn_wide.2 (unhide HP _ (by first | exact Below.refl _ _ | exact (Below.refl _ _).drew))).mono ?_⟩
                  rintro _ w1 ⟨rfl, hf1, hc1⟩
                  refine hK' _ _ ?_
                  refine wpAnyIn_done (by kernel_rfl) ?_ _
                  gi_wp2_with fail
                  have hcw : Chg (fun j => j = bs k) W w1 := (Chg.of_below (Below.refl W.heap.size W).drew).trans hc1
                  have hsf := unhide HSf
                  have hzs := unhide HZs
                  refine ⟨keepZ hcw (by omega), hcw.mono (fun j _ h => .inl h), ((unhide HIb).unite (by omega) (fun i hi => by have := (unhide HGe i hi).2.2; omega) (fun i hi => by have := (unhide HGe i hi).2.2; omega) hlt (unhide HF).1 (unhide HF).2 (unhide HOx) hcw hf1).congr (fun i y hi => prP_put L M sz k pre ⟨e, he1, he2⟩ (by rw [unhide HG]) i y), hcw.cell (by omega) (unhide HCi).1, (unhide HCi).2.chg hcw (by omega)⟩
            · go_simp
              refine hK' _ _ ?_
              clear hK' K'
              refine wpAnyIn_ready (rs := [1]) (by kernel_rfl) (by simp) (AllReadyIn.cons rfl (fun K' hK' => ?_) AllReadyIn.nil)
              · go_simp
                refine hK' _ _ ?_
                clear hK' K'
                refine wpAnyIn_take (i := 3) (v := ?_) rfl rfl (by kernel_rfl) (by kernel_rfl) (by kernel_rfl) (fun _ _ _ h => h) ⟨Or.inl ⟨by rfl, ?hy40⟩, fun _ => rfl⟩ ?rest40
                case hy40 => (intro w; go_simp; with_reducible rfl)
                refine wpAnyIn_take (i := 4) (v := ?_) rfl rfl (by kernel_rfl) (by kernel_rfl) (by kernel_rfl) (fun _ _ _ h => h) ⟨Or.inl ⟨by rfl, ?hy41⟩, fun _ => rfl⟩ ?rest41
                case hy41 => (intro w; go_simp; with_reducible rfl)
                refine wpAnyIn_ready (rs := [5]) (by kernel_rfl) (by simp) (AllReadyIn.cons rfl (fun K' hK' => ?_) AllReadyIn.nil)
                · go_simp
                  refine hK' _ _ ?_
                  clear hK' K'
                  refine wpAnyIn_ready (rs := [12]) (by kernel_rfl) (by simp) (AllReadyIn.cons rfl (fun K' hK' => ?_) AllReadyIn.nil)
                  go_simp
                  refine ⟨trivial, (callsIn_wide.2 (unhide HP _ (by first | exact Below.refl _ _ | exact (Below.refl _ _).drew))).mono ?_⟩
                  rintro _ w1 ⟨rfl, hf1, hc1⟩
                  refine hK' _ _ ?_
                  refine wpAnyIn_done (by kernel_rfl) ?_ _
                  gi_wp2_with fail
                  have hcw : Chg (fun j => j = bs k) W w1 := (Chg.of_below (Below.refl W.heap.size W).drew).trans hc1
                  have hsf := unhide HSf
                  have hzs := unhide HZs
                  refine ⟨keepZ hcw (by omega), hcw.mono (fun j _ h => .inl h), ((unhide HIb).unite (by omega) (fun i hi => by have := (unhide HGe i hi).2.2; omega) (fun i hi => by have := (unhide HGe i hi).2.2; omega) hlt (unhide HF).1 (unhide HF).2 (unhide HOx) hcw hf1).congr (fun i y hi => prP_put L M sz k pre ⟨e, he1, he2⟩ (by rw [unhide HG]) i y), hcw.cell (by omega) (unhide HCi).1, (unhide HCi).2.chg hcw (by omega)⟩
      case done =>
        rintro D ys W hD hys ⟨hI, hci, hbx⟩ hDb
        have hsf := unhide HSf
        have hzs := unhide HZs
        have h2 := hI.congr (P' := prP L M sz (k + 1) (fun _ => false)) (fun i y hi => prP_done L M sz k exs (by rw [unhide HE]) hys (unhide HZ) hsn i y)
        have HI3 := hide (show TnI w W wz.heap.size wa2.heap.size we.heap.size T sb n bs cs (prP L M sz (k + 1) (fun _ => false)) (D :: ds) from ⟨h2.bel, h2.tr, h2.tz, h2.tb, h2.mks.cons hDb (by omega) hdl hD, h2.hs⟩)
        have HB3 := hide hbx
        clear hI hci hys h2 hDb HSeq hsf hzs hbx
        gi_wp2_with fail
        refine Handed.intro (n - (k + 1)) (by omega) ?_
        apply unhide HJ
        refine ⟨k + 1, D :: ds, ?u7, ?u8, ?u36, ?u37, ?u38, ?u39, ?u40, ?u41, ?u42, ?u57, rfl, by omega, unhide HI3, unhide HB3, ?frame⟩
        case frame =>
          rw [show ((k + 1 : Nat) : Int) = (k : Int) + 1 from by omega]
          rfl
      case stop =>
        rintro D c pre W hD _ h
        exact h.elim
    · have hlt' : ¬ (k : Int) < (n : Int) := by omega
      obtain rfl : k = n := by omega
      have z0 := hst.tz.c0
      have z1 := hst.tz.c1
      have r0 := hst.tr.c0
      have r1 := hst.tr.c1
      have f0 := hst.tr.f0
      have f1 := hst.tr.f1
      have HI := hide hst
      have hB0 := hst.hs
      clear hst
      gi_wp2_with fail
      obtain ⟨F, hF1, hF2⟩ := (unhide HI).tb
      have T3 := (unhide HI).tr.set (.int .i64 (sb : Int)) (.slice (some ⟨T, 0, none⟩) k k)
      have hgT := hF1.tge
      refine leaves_marks (B := wz.heap.size) (fun W => Two W wa2.heap.size (.int .i64 (sb : Int)) (.slice (some ⟨T, 0, none⟩) k k) ∧ NewT w W sb k F (setV sb (some ⟨T, 0, none⟩) k k)) ?own ?fin ds _ ?mks ⟨T3, ?nt⟩
      case own =>
        rintro _ W W' row ⟨h1, T', bs', cs', h2, h3, h4⟩ hg hr
        have hr' : ∀ r, row = some r → ∃ o : Obj, W.heap[r]? = some o ∧ o.isCells = false := fun r e => (hr r e).2
        exact ⟨h1.own hg hr', T', bs', cs', h2, h3.own hg hr', h4.grown hg h4.size (fun j e => by have := (hr j e).1; omega)⟩
      case fin =>
        rintro W ⟨h1, h2⟩
        have p0 := h1.c0
        have p1 := h1.c1
        refine ⟨.tuple #[.agg #[.int .i64 (sb : Int), .slice (some ⟨T, 0, none⟩) k k], .int .i64 0], ?_, ⟨_, rfl, F, h2, fun e he => (hF2 e he).congr (fun _ _ => rfl) (fun y _ => by simp [prP, he])⟩⟩
        simp [results, Tryd.results12, go_sem, p0, p1]
        try rfl
      case mks => exact (unhide HI).mks.chgB (two_chg _ _ _ _) (fun j hj => by omega)
      case nt => exact ⟨T, bs, cs, rfl, (hF1.chg (two_chg _ _ _ _) (by omega) (fun i hi => by have := (hF1.ge i hi).1; omega)).mono (by omega), two_below (unhide HI).bel _ (by omega) _ _⟩
end Go.Proofs.YtbendkndnojihabDoor
