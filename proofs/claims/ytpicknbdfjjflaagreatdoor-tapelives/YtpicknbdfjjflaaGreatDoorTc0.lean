/- Rt4 -/
import Derived.Test.YtpicknbdfjjflaaGreatDoorRv2
import Derived.Test.YtpicknbdfjjflaaGreatDoorSi1
import Derived.Test.YtpicknbdfjjflaaGreatDoorTa0
import Derived.Test.YtpicknbdfjjflaaGreatDoorWr2
import Derived.Test.YtpicknbdfjjflaaGreatDoorTb0
namespace Go.Proofs.YtpicknbdfjjflaaGreatDoor
open Go.RowKit Go.Deep
set_option linter.unusedVariables false
theorem FarQ.mono {w : World} {A N : Nat} {ps : List Nq} {S T : Nat → Prop} (h : FarQ S ps) (hf : FilQ w A N ps) (hs : ∀ k, k < w.heap.size → ¬ S k → ¬ T k) : FarQ T ps :=
  fun p hp => ⟨fun z hz hne => hs _ ((hf.each p hp).1.1.block_lt hne z hz) ((h p hp).1 z hz hne), fun z hz hne => hs _ ((hf.each p hp).1.2.block_lt hne z hz) ((h p hp).2 z hz hne)⟩

structure Qn where
  b : Nat
  c : Nat
  ps : List Nq
  b0 : Nat
  c0 : Nat
  ps0 : List Nq
def Qn.v (q : Qn) : Value := .slice (some ⟨q.b, 0, none⟩) q.ps.length q.c
def Qn.v0 (q : Qn) : Value := .slice (some ⟨q.b0, 0, none⟩) q.ps0.length q.c0
structure QnOk (w : World) (S : Nat → Prop) (q : Qn) : Prop where
  f : FilQ w q.b q.c q.ps
  f0 : FilQ w q.b0 q.c0 q.ps0
  le : q.ps.length ≤ q.c
  le0 : q.ps0.length ≤ q.c0
  con : q.ps.map conQ = q.ps0.map conQ
  s : ¬ S q.b
  s0 : ¬ S q.b0
  far : FarQ S q.ps
  far0 : FarQ S q.ps0
theorem QnOk.step {w w' : World} {S S' T : Nat → Prop} {q : Qn} (h : QnOk w S q) (k : Chg T w w') (h1 : ∀ k, k < w.heap.size → ¬ S k → ¬ T k) (h2 : ∀ k, k < w.heap.size → ¬ S k → ¬ S' k) : QnOk w' S' q :=
  ⟨h.f.chg k (h1 _ h.f.lt h.s) (h.far.mono h.f h1), h.f0.chg k (h1 _ h.f0.lt h.s0) (h.far0.mono h.f0 h1), h.le, h.le0, h.con, h2 _ h.f.lt h.s, h2 _ h.f0.lt h.s0, h.far.mono h.f h2, h.far0.mono h.f0 h2⟩

def Own4 (B : Nat) (v0 v1 u0 u1 : Value) (k : Nat) : Prop := Own B v0 v1 k ∨ u0.ownBlock = some k ∨ u1.ownBlock = some k
def rsQ (rt : Nat → Value) (u0 u1 : Value) (i : Nat) : Value := if i = 8 then u0 else if i = 9 then u1 else rt i

structure LawQ (rt : Nat → Value) (w : World) (B : Nat) (v0 v1 u0 u1 : Value) (es : List Ent) (qs : List Qn) (w0 : World) : Prop where
  giv : GivR w B v0 v1 es (rsQ rt u0 u1)
  bel : Below w0.heap.size w0 w
  base : w0.heap.size ≤ B
  own8 : w.ownsRow (B + 1) 65 1 u0 qs.length (qs.map Qn.v)
  own9 : w.ownsRow (B + 1) 65 1 u1 qs.length (qs.map Qn.v0)
  ap8 : ∀ k, u0.ownBlock = some k → ¬ Own B v0 v1 k ∧ u1.ownBlock ≠ some k
  ap9 : ∀ k, u1.ownBlock = some k → ¬ Own B v0 v1 k
  ents : ∀ e ∈ es, (u0.ownBlock ≠ some e.b ∧ u1.ownBlock ≠ some e.b) ∧ u0.ownBlock ≠ some e.b0 ∧ u1.ownBlock ≠ some e.b0
  qents : ∀ q ∈ qs, QnOk w (Own4 B v0 v1 u0 u1) q

theorem LawQ.grow {rt : Nat → Value} {w w' : World} {B : Nat} {v0 v1 v0' v1' u0 u1 : Value} {es fs : List Ent} {qs : List Qn} {w0 : World} (h : LawQ rt w B v0 v1 u0 u1 es qs w0) (hg : GivR w' B v0' v1' (es ++ fs) (rsQ rt u0 u1)) (hc : Chg (Own B v0 v1) w w')
    (hs : ∀ k, k < w.heap.size → ¬ Own B v0 v1 k → ¬ Own B v0' v1' k) (hf : ∀ e ∈ fs, w.heap.size ≤ e.b ∧ w.heap.size ≤ e.b0) : LawQ rt w' B v0' v1' u0 u1 (es ++ fs) qs w0 := by
  have o8 := own_ge h.own8
  have o9 := own_ge h.own9
  refine ⟨hg, h.bel.trans (hc.below h.bel.size ?_), h.base, ownsRow_chg h.own8 hc (fun k hk => (h.ap8 k hk).1), ownsRow_chg h.own9 hc h.ap9, fun k hk => ⟨hs k (o8 k hk).2 (h.ap8 k hk).1, (h.ap8 k hk).2⟩, fun k hk => hs k (o9 k hk).2 (h.ap9 k hk), ?_, ?_⟩
  · intro k hk ho
    have := h.giv.own_ge ho
    have := h.base
    omega
  · intro e he
    rcases List.mem_append.1 he with he | he
    · exact h.ents e he
    · have := hf e he
      refine ⟨⟨fun hh => ?_, fun hh => ?_⟩, fun hh => ?_, fun hh => ?_⟩
      · have := (o8 _ hh).2; omega
      · have := (o9 _ hh).2; omega
      · have := (o8 _ hh).2; omega
      · have := (o9 _ hh).2; omega
  · intro q hq
    refine (h.qents q hq).step hc (fun k _ hn ho => hn (.inl ho)) ?_
    rintro k hk hn (ho | ho)
    · exact hs k hk (fun hh => hn (.inl hh)) ho
    · exact hn (.inr ho)

theorem LawQ.own_lt {rt : Nat → Value} {w : World} {B : Nat} {v0 v1 u0 u1 : Value} {es : List Ent} {qs : List Qn} {w0 : World} (h : LawQ rt w B v0 v1 u0 u1 es qs w0) {k : Nat} (hk : Own4 B v0 v1 u0 u1 k) : k < w.heap.size := by
  rcases hk with hk | hk | hk
  · exact h.giv.own_lt hk
  · exact (own_ge h.own8 k hk).2
  · exact (own_ge h.own9 k hk).2
theorem LawQ.own_ge {rt : Nat → Value} {w : World} {B : Nat} {v0 v1 u0 u1 : Value} {es : List Ent} {qs : List Qn} {w0 : World} (h : LawQ rt w B v0 v1 u0 u1 es qs w0) {k : Nat} (hk : Own4 B v0 v1 u0 u1 k) : B ≤ k := by
  rcases hk with hk | hk | hk
  · exact h.giv.own_ge hk
  · have := (Go.Proofs.YtpicknbdfjjflaaGreatDoor.own_ge h.own8 k hk).1; omega
  · have := (Go.Proofs.YtpicknbdfjjflaaGreatDoor.own_ge h.own9 k hk).1; omega
theorem LawQ.below {rt : Nat → Value} {w w' : World} {B : Nat} {v0 v1 u0 u1 : Value} {es : List Ent} {qs : List Qn} {w0 : World} (h : LawQ rt w B v0 v1 u0 u1 es qs w0) (k : Below w.heap.size w w') : LawQ rt w' B v0 v1 u0 u1 es qs w0 := by
  have := h.grow (fs := []) (w' := w') (v0' := v0) (v1' := v1) (by simpa using h.giv.below k) (.of_below k) (fun _ _ h => h) (fun e he => by cases he)
  simpa using this
theorem LawQ.cells {rt : Nat → Value} {w : World} {B : Nat} {v0 v1 u0 u1 : Value} {es : List Ent} {qs : List Qn} {w0 : World} (h : LawQ rt w B v0 v1 u0 u1 es qs w0) : (w.cell? ⟨B, 8, none⟩ = some u0 ∧ w.cell? ⟨B, 9, none⟩ = some u1) ∧ w.frozen? ⟨B, 8, none⟩ = false ∧ w.frozen? ⟨B, 9, none⟩ = false ∧ B < w.heap.size := by
  obtain ⟨cur, hc, hr⟩ := h.giv.blk
  exact ⟨⟨(cell_of_block hc 8).trans (hr.2.2.2 8 (by omega) (by omega)), (cell_of_block hc 9).trans (hr.2.2.2 9 (by omega) (by omega))⟩, frozen_of_block hc _, frozen_of_block hc _, block_lt hc⟩
theorem own_at {w : World} {base : Nat} {e : TypeId} {v : Value} {n : Nat} {xs : List Value} (h : w.ownsRow base e 1 v n xs) : ∃ a c, v = .slice a n c ∧ n ≤ maxLen ∧ ∀ k (hk : k < xs.length), ∃ g, a = some ⟨g, 0, none⟩ ∧ w.cell? ⟨g, k, none⟩ = some xs[k] := by
  obtain ⟨hl, h2⟩ := h
  rcases h2 with ⟨h2, h3⟩ | ⟨g', cap, cur, h3, h4, h5, h6, h7, h8, h9⟩
  · subst h2 h3
    exact ⟨none, 0, rfl, Nat.zero_le _, fun k hk => by omega⟩
  · refine ⟨_, cap, h3, by omega, fun k hk => ⟨g', rfl, ?_⟩⟩
    rw [cell_of_block h5]
    have : xs[k]? = some xs[k] := List.getElem?_eq_getElem hk
    rw [← this, ← h9, List.getElem?_take, if_pos (by omega), Array.getElem?_toList]
theorem conO_eq {o q : On} (h : conO o = conO q) : (o.k = q.k ∧ o.a = q.a ∧ o.b = q.b ∧ o.n = q.n) ∧ sameR o.p.g o.p.x o.p.y q.p.g q.p.x q.p.y = true := by
  unfold conO conQ at h
  simp only [Prod.mk.injEq] at h
  obtain ⟨⟨h1, h2, h3, h4⟩, h5, h6, h7⟩ := h
  refine ⟨⟨h1, h2, h3, h4⟩, ?_⟩
  unfold sameR
  rw [h5, h6, h7]
  simp
set_option maxRecDepth 100000 in
set_option maxHeartbeats 8000000 in
theorem sameOp_con (o q : On) (hc : conO o = conO q) (w : World) (ho : NqL w o.p) (hq : NqL w q.p) :
    Calls Tryz.prog 70 #[opV o, opV q] w fun e w' => e = .returned (.bool true) ∧ Below w.heap.size w w' := by
  obtain ⟨⟨e1, e2, e3, e4⟩, hs⟩ := conO_eq hc
  obtain ⟨k, a, b, n, p⟩ := o
  obtain ⟨k', a', b', n', r⟩ := q
  simp only at e1 e2 e3 e4 hs ho hq
  subst e1 e2 e3 e4
  obtain ⟨wa, hwa⟩ : ∃ x, w.alloc (.cells #[.int .i64 k, .int .i64 a, .int .i64 b, .int .i64 n, .bool p.g, .slice p.a p.n p.c, .slice p.b p.m p.d] 55) = x := ⟨_, rfl⟩
  have bx : BoxP wa w.heap.size [.int .i64 k, .int .i64 a, .int .i64 b, .int .i64 n, .bool p.g, .slice p.a p.n p.c, .slice p.b p.m p.d] := by rw [← hwa]; exact BoxP.made _ _ _
  have hba : Below w.heap.size w wa := by rw [← hwa]; exact (Below.refl _ _).alloc (Nat.le_refl _) _
  obtain ⟨wo, hwo⟩ : ∃ x, wa.alloc (.cells #[.int .i64 k, .int .i64 a, .int .i64 b, .int .i64 n, .bool r.g, .slice r.a r.n r.c, .slice r.b r.m r.d] 55) = x := ⟨_, rfl⟩
  have br : BoxP wo wa.heap.size [.int .i64 k, .int .i64 a, .int .i64 b, .int .i64 n, .bool r.g, .slice r.a r.n r.c, .slice r.b r.m r.d] := by rw [← hwo]; exact BoxP.made _ _ _
  have hbo : Below wa.heap.size wa wo := by rw [← hwo]; exact (Below.refl _ _).alloc (Nat.le_refl _) _
  have bx2 := bx.below hbo
  have hB := hba.trans (hbo.mono hba.size)
  have KR := hide (fun (W : World) (hb : Below wo.heap.size wo W) => (show Calls Tryz.prog 42 #[.agg #[.bool p.g, .slice p.a p.n p.c, .slice p.b p.m p.d], .agg #[.bool r.g, .slice r.a r.n r.c, .slice r.b r.m r.d]] W fun e w' => e = .returned (.bool true) ∧ Below W.heap.size W w' from by
    have K := sameRat_any p.g r.g p.a p.b r.a r.b p.n p.c p.m p.d r.n r.c r.m r.d p.x p.y r.x r.y W ((ho.x.below hB).below hb) ((ho.y.below hB).below hb) ((hq.x.below hB).below hb) ((hq.y.below hB).below hb)
    rw [hs] at K
    exact K))
  have HB := hide hB
  have g0 := (bx2.all 0 _ rfl).1
  have g1 := (bx2.all 1 _ rfl).1
  have g2 := (bx2.all 2 _ rfl).1
  have g3 := (bx2.all 3 _ rfl).1
  have g4 := (bx2.all 4 _ rfl).1
  have g5 := (bx2.all 5 _ rfl).1
  have g6 := (bx2.all 6 _ rfl).1
  have f0 := (br.all 0 _ rfl).1
  have f1 := (br.all 1 _ rfl).1
  have f2 := (br.all 2 _ rfl).1
  have f3 := (br.all 3 _ rfl).1
  have f4 := (br.all 4 _ rfl).1
  have f5 := (br.all 5 _ rfl).1
  have f6 := (br.all 6 _ rfl).1
  clear bx bx2 br hba hbo hB ho hq hs hc
  unfold opV
  go_enter Tryz.func70, Tryz.ntmps70
  go_wp2_with fail
  refine (unhide KR wo (Below.refl _ _)).mono ?_
  rintro _ w' ⟨rfl, hb⟩
  have HBE := hide ((unhide HB).trans (hb.mono (unhide HB).size))
  clear hb g0 g1 g2 g3 g4 g5 g6 f0 f1 f2 f3 f4 f5 f6
  go_wp2_with fail
  go_ret
  exact ⟨rfl, unhide HBE⟩
theorem con_at {os qs : List On} (h : os.map conO = qs.map conO) {i : Nat} {o q : On} (ho : os[i]? = some o) (hq : qs[i]? = some q) : conO o = conO q := by
  have h1 : (os.map conO)[i]? = some (conO o) := by simp [ho]
  have h2 : (qs.map conO)[i]? = some (conO q) := by simp [hq]
  rw [h, h2] at h1
  exact (Option.some.inj h1).symm
set_option maxRecDepth 100000 in
set_option maxHeartbeats 16000000 in
theorem sameTape_con (i : Int) (a : Option Addr) (n c : Nat) (os : List On) (b : Option Addr) (m d : Nat) (a' : Option Addr) (c' : Nat) (qs : List On) (b' : Option Addr) (d' : Nat) (ys : List Int) (w : World)
    (ho : SlO w a n c os) (hy : SlI w b m d ys) (hq : SlO w a' n c' qs) (hy' : SlI w b' m d' ys) (hn : n ≤ 140737488355328) (hm : m ≤ 140737488355328) (hc : os.map conO = qs.map conO) :
    Calls Tryz.prog 44 #[tapV i a n c b m d, tapV i a' n c' b' m d'] w fun e w' => e = .returned (.bool true) ∧ Below w.heap.size w w' := by
  obtain ⟨wa, hwa⟩ : ∃ x, w.alloc (.cells #[.int .i64 i, .slice a n c, .slice b m d] 25) = x := ⟨_, rfl⟩
  have bx : BoxP wa w.heap.size [.int .i64 i, .slice a n c, .slice b m d] := by rw [← hwa]; exact BoxP.made _ _ _
  have hba : Below w.heap.size w wa := by rw [← hwa]; exact (Below.refl _ _).alloc (Nat.le_refl _) _
  obtain ⟨wo, hwo⟩ : ∃ x, wa.alloc (.cells #[.int .i64 i, .slice a' n c', .slice b' m d'] 25) = x := ⟨_, rfl⟩
  have br : BoxP wo wa.heap.size [.int .i64 i, .slice a' n c', .slice b' m d'] := by rw [← hwo]; exact BoxP.made _ _ _
  have hbo : Below wa.heap.size wa wo := by rw [← hwo]; exact (Below.refl _ _).alloc (Nat.le_refl _) _
  have bx2 := bx.below hbo
  have hB := hba.trans (hbo.mono hba.size)
  have H1 := hide (ho.below hB)
  have H2 := hide (hq.below hB)
  have HC := hide hc
  have HB := hide hB
  have KI := hide (fun (W : World) (hb : Below wo.heap.size wo W) => sameInts_eq b b' m d d' ys W ((hy.below hB).below hb) ((hy'.below hB).below hb) hm)
  have g0 := (bx2.all 0 _ rfl).1
  have g1 := (bx2.all 1 _ rfl).1
  have g2 := (bx2.all 2 _ rfl).1
  have f0 := (br.all 0 _ rfl).1
  have f1 := (br.all 1 _ rfl).1
  have f2 := (br.all 2 _ rfl).1
  have hNN : ((n : Int) != (n : Int)) = false := by simp
  have hII : (i != i) = false := by simp
  clear bx bx2 br hba hbo hB ho hq hy hy' hc
  unfold tapV
  go_enter Tryz.func44, Tryz.ntmps44
  go_wp2_with fail
  refine (unhide KI wo (Below.refl _ _)).mono ?_
  rintro _ w1 ⟨rfl, dm, rfl⟩
  have HB1 := hide (show Below wo.heap.size wo (wo.drewN dm) from ⟨rfl, rfl, rfl, Nat.le_refl _, fun _ _ => rfl⟩)
  clear hwa hwo
  go_wp2_with fail
  go_loopw [5] (fun iv wr => ∃ k : Nat, k ≤ n ∧ iv = .int .i64 k ∧ Hid (Below wo.heap.size wo wr)) (fun iv _ => n - (intOf iv).toNat)
  case atStart => exact ⟨0, Nat.zero_le _, rfl, unhide HB1⟩
  case round =>
    obtain ⟨k, hk, rfl, HBr⟩ := hrel
    have r1 := ((unhide HBr).cell (p := ⟨w.heap.size, 1, none⟩) (World.block_lt_of_cell? _ _ g1)).trans g1
    have s1 := ((unhide HBr).cell (p := ⟨wa.heap.size, 1, none⟩) (World.block_lt_of_cell? _ _ f1)).trans f1
    by_cases hlt : k < n
    · have hlt' : (k:Int) < (n:Int) := by omega
      obtain ⟨b1, off, o, rfl, hoo, O, hok⟩ := ((unhide H1).below (unhide HBr)).at' hlt
      obtain ⟨b2, off', q, rfl, hqq, Q, hqk⟩ := ((unhide H2).below (unhide HBr)).at' hlt
      have K := hide (fun (W : World) (hb : Below wr.heap.size wr W) => (show Calls Tryz.prog 70 #[.agg #[.int .i64 o.k, .int .i64 o.a, .int .i64 o.b, .int .i64 o.n, .bool o.p.g, .slice o.p.a o.p.n o.p.c, .slice o.p.b o.p.m o.p.d], .agg #[.int .i64 q.k, .int .i64 q.a, .int .i64 q.b, .int .i64 q.n, .bool q.p.g, .slice q.p.a q.p.n q.p.c, .slice q.p.b q.p.m q.p.d]] W fun e w' => e = .returned (.bool true) ∧ Below W.heap.size W w' from sameOp_con o q (con_at (unhide HC) hoo hqq) W (hok.below hb) (hqk.below hb)))
      obtain ⟨c0, c1, c2, c3, c4, c5, c6⟩ := O
      obtain ⟨e0, e1, e2, e3, e4, e5, e6⟩ := Q
      have Fr1 := fun x : Ext wr => x.cell r1
      have Fs1 := fun x : Ext wr => x.cell s1
      have Fc0 := fun x : Ext wr => x.cell c0
      have Fc1 := fun x : Ext wr => x.cell c1
      have Fc2 := fun x : Ext wr => x.cell c2
      have Fc3 := fun x : Ext wr => x.cell c3
      have Fc4 := fun x : Ext wr => x.cell c4
      have Fc5 := fun x : Ext wr => x.cell c5
      have Fc6 := fun x : Ext wr => x.cell c6
      have Fe0 := fun x : Ext wr => x.cell e0
      have Fe1 := fun x : Ext wr => x.cell e1
      have Fe2 := fun x : Ext wr => x.cell e2
      have Fe3 := fun x : Ext wr => x.cell e3
      have Fe4 := fun x : Ext wr => x.cell e4
      have Fe5 := fun x : Ext wr => x.cell e5
      have Fe6 := fun x : Ext wr => x.cell e6
      have hNE := Ext.ne wr
      clear hok hqk hoo hqq
      go_wp2_with fail
      refine wp_region_ext (by kernel_rfl) (by kernel_rfl) ?_
      repeat (go_big_quiet_step (first | (go_at_call 70; rename_i x; exact Ext.call (unhide K x.w x.bel) (fun e w' h => h))))
      refine wpQuiet_nil ?_
      rintro _ ⟨xE, rfl⟩
      have HBE := hide ((unhide HBr).trans (xE.bel.mono (unhide HBr).size))
      clear Fr1 Fs1 Fc0 Fc1 Fc2 Fc3 Fc4 Fc5 Fc6 Fe0 Fe1 Fe2 Fe3 Fe4 Fe5 Fe6 hNE
      go_wp2_with fail
      exact ⟨⟨k + 1, by omega, by go_num, unhide HBE⟩, by simp [intOf]; omega⟩
    · obtain rfl : k = n := by omega
      have hlt' : ¬ (k:Int) < (k:Int) := by omega
      go_wp2_with fail
      go_ret
      exact ⟨rfl, (unhide HB).trans ((unhide HBr).mono (unhide HB).size)⟩
end Go.Proofs.YtpicknbdfjjflaaGreatDoor
