/- Rt4 -/
import Derived.Test.YtiadccaaoenccaaDoorRv2
import Derived.Test.YtiadccaaoenccaaDoorSi1
import Derived.Test.YtiadccaaoenccaaDoorTa0
import Derived.Test.YtiadccaaoenccaaDoorWr1
import Derived.Test.YtiadccaaoenccaaDoorTb0
import Derived.Test.YtiadccaaoenccaaDoorTb1
import Derived.Test.YtiadccaaoenccaaDoorRa2
namespace Go.Proofs.YtiadccaaoenccaaDoor
open Go.RowKit Go.Deep
set_option linter.unusedVariables false
theorem FarQ.mono {w : World} {A N : Nat} {ps : List Nq} {S T : Nat → Prop} (h : FarQ S ps) (hf : FilQ w A N ps) (hs : ∀ k, k < w.heap.size → ¬ S k → ¬ T k) : FarQ T ps :=
  fun p hp => ⟨fun z hz hne => hs _ ((hf.each p hp).1.1.block_lt hne z hz) ((h p hp).1 z hz hne), fun z hz hne => hs _ ((hf.each p hp).1.2.block_lt hne z hz) ((h p hp).2 z hz hne)⟩

structure Qn where
  b : Nat
  c : Nat
  ps : List Nq
  b0 : Nat
  c0 : Nat
  ps0 : List Nq
def Qn.v (q : Qn) : Value := .slice (some ⟨q.b, 0, none⟩) q.ps.length q.c
def Qn.v0 (q : Qn) : Value := .slice (some ⟨q.b0, 0, none⟩) q.ps0.length q.c0
structure QnOk (w : World) (S : Nat → Prop) (q : Qn) : Prop where
  f : FilQ w q.b q.c q.ps
  f0 : FilQ w q.b0 q.c0 q.ps0
  le : q.ps.length ≤ q.c
  le0 : q.ps0.length ≤ q.c0
  con : q.ps.map conQ = q.ps0.map conQ
  s : ¬ S q.b
  s0 : ¬ S q.b0
  far : FarQ S q.ps
  far0 : FarQ S q.ps0
theorem QnOk.step {w w' : World} {S S' T : Nat → Prop} {q : Qn} (h : QnOk w S q) (k : Chg T w w') (h1 : ∀ k, k < w.heap.size → ¬ S k → ¬ T k) (h2 : ∀ k, k < w.heap.size → ¬ S k → ¬ S' k) : QnOk w' S' q :=
  ⟨h.f.chg k (h1 _ h.f.lt h.s) (h.far.mono h.f h1), h.f0.chg k (h1 _ h.f0.lt h.s0) (h.far0.mono h.f0 h1), h.le, h.le0, h.con, h2 _ h.f.lt h.s, h2 _ h.f0.lt h.s0, h.far.mono h.f h2, h.far0.mono h.f0 h2⟩

def Own4 (B : Nat) (v0 v1 u0 u1 : Value) (k : Nat) : Prop := Own B v0 v1 k ∨ u0.ownBlock = some k ∨ u1.ownBlock = some k
def rsQ (rt : Nat → Value) (u0 u1 : Value) (i : Nat) : Value := if i = 8 then u0 else if i = 9 then u1 else rt i

structure LawQ (rt : Nat → Value) (w : World) (B : Nat) (v0 v1 u0 u1 : Value) (es : List Ent) (qs : List Qn) (w0 : World) : Prop where
  giv : GivR w B v0 v1 es (rsQ rt u0 u1)
  bel : Below w0.heap.size w0 w
  base : w0.heap.size ≤ B
  own8 : w.ownsRow (B + 1) 64 1 u0 qs.length (qs.map Qn.v)
  own9 : w.ownsRow (B + 1) 64 1 u1 qs.length (qs.map Qn.v0)
  ap8 : ∀ k, u0.ownBlock = some k → ¬ Own B v0 v1 k ∧ u1.ownBlock ≠ some k
  ap9 : ∀ k, u1.ownBlock = some k → ¬ Own B v0 v1 k
  ents : ∀ e ∈ es, (u0.ownBlock ≠ some e.b ∧ u1.ownBlock ≠ some e.b) ∧ u0.ownBlock ≠ some e.b0 ∧ u1.ownBlock ≠ some e.b0
  qents : ∀ q ∈ qs, QnOk w (Own4 B v0 v1 u0 u1) q

theorem LawQ.grow {rt : Nat → Value} {w w' : World} {B : Nat} {v0 v1 v0' v1' u0 u1 : Value} {es fs : List Ent} {qs : List Qn} {w0 : World} (h : LawQ rt w B v0 v1 u0 u1 es qs w0) (hg : GivR w' B v0' v1' (es ++ fs) (rsQ rt u0 u1)) (hc : Chg (Own B v0 v1) w w')
    (hs : ∀ k, k < w.heap.size → ¬ Own B v0 v1 k → ¬ Own B v0' v1' k) (hf : ∀ e ∈ fs, w.heap.size ≤ e.b ∧ w.heap.size ≤ e.b0) : LawQ rt w' B v0' v1' u0 u1 (es ++ fs) qs w0 := by
  have o8 := own_ge h.own8
  have o9 := own_ge h.own9
  refine ⟨hg, h.bel.trans (hc.below h.bel.size ?_), h.base, ownsRow_chg h.own8 hc (fun k hk => (h.ap8 k hk).1), ownsRow_chg h.own9 hc h.ap9, fun k hk => ⟨hs k (o8 k hk).2 (h.ap8 k hk).1, (h.ap8 k hk).2⟩, fun k hk => hs k (o9 k hk).2 (h.ap9 k hk), ?_, ?_⟩
  · intro k hk ho
    have := h.giv.own_ge ho
    have := h.base
    omega
  · intro e he
    rcases List.mem_append.1 he with he | he
    · exact h.ents e he
    · have := hf e he
      refine ⟨⟨fun hh => ?_, fun hh => ?_⟩, fun hh => ?_, fun hh => ?_⟩
      · have := (o8 _ hh).2; omega
      · have := (o9 _ hh).2; omega
      · have := (o8 _ hh).2; omega
      · have := (o9 _ hh).2; omega
  · intro q hq
    refine (h.qents q hq).step hc (fun k _ hn ho => hn (.inl ho)) ?_
    rintro k hk hn (ho | ho)
    · exact hs k hk (fun hh => hn (.inl hh)) ho
    · exact hn (.inr ho)

theorem LawQ.own_lt {rt : Nat → Value} {w : World} {B : Nat} {v0 v1 u0 u1 : Value} {es : List Ent} {qs : List Qn} {w0 : World} (h : LawQ rt w B v0 v1 u0 u1 es qs w0) {k : Nat} (hk : Own4 B v0 v1 u0 u1 k) : k < w.heap.size := by
  rcases hk with hk | hk | hk
  · exact h.giv.own_lt hk
  · exact (own_ge h.own8 k hk).2
  · exact (own_ge h.own9 k hk).2
theorem LawQ.own_ge {rt : Nat → Value} {w : World} {B : Nat} {v0 v1 u0 u1 : Value} {es : List Ent} {qs : List Qn} {w0 : World} (h : LawQ rt w B v0 v1 u0 u1 es qs w0) {k : Nat} (hk : Own4 B v0 v1 u0 u1 k) : B ≤ k := by
  rcases hk with hk | hk | hk
  · exact h.giv.own_ge hk
  · have := (Go.Proofs.YtiadccaaoenccaaDoor.own_ge h.own8 k hk).1; omega
  · have := (Go.Proofs.YtiadccaaoenccaaDoor.own_ge h.own9 k hk).1; omega
theorem LawQ.below {rt : Nat → Value} {w w' : World} {B : Nat} {v0 v1 u0 u1 : Value} {es : List Ent} {qs : List Qn} {w0 : World} (h : LawQ rt w B v0 v1 u0 u1 es qs w0) (k : Below w.heap.size w w') : LawQ rt w' B v0 v1 u0 u1 es qs w0 := by
  have := h.grow (fs := []) (w' := w') (v0' := v0) (v1' := v1) (by simpa using h.giv.below k) (.of_below k) (fun _ _ h => h) (fun e he => by cases he)
  simpa using this
theorem LawQ.cells {rt : Nat → Value} {w : World} {B : Nat} {v0 v1 u0 u1 : Value} {es : List Ent} {qs : List Qn} {w0 : World} (h : LawQ rt w B v0 v1 u0 u1 es qs w0) : (w.cell? ⟨B, 8, none⟩ = some u0 ∧ w.cell? ⟨B, 9, none⟩ = some u1) ∧ w.frozen? ⟨B, 8, none⟩ = false ∧ w.frozen? ⟨B, 9, none⟩ = false ∧ B < w.heap.size := by
  obtain ⟨cur, hc, hr⟩ := h.giv.blk
  exact ⟨⟨(cell_of_block hc 8).trans (hr.2.2.2 8 (by omega) (by omega)), (cell_of_block hc 9).trans (hr.2.2.2 9 (by omega) (by omega))⟩, frozen_of_block hc _, frozen_of_block hc _, block_lt hc⟩
theorem own_at {w : World} {base : Nat} {e : TypeId} {v : Value} {n : Nat} {xs : List Value} (h : w.ownsRow base e 1 v n xs) : ∃ a c, v = .slice a n c ∧ n ≤ maxLen ∧ ∀ k (hk : k < xs.length), ∃ g, a = some ⟨g, 0, none⟩ ∧ w.cell? ⟨g, k, none⟩ = some xs[k] := by
  obtain ⟨hl, h2⟩ := h
  rcases h2 with ⟨h2, h3⟩ | ⟨g', cap, cur, h3, h4, h5, h6, h7, h8, h9⟩
  · subst h2 h3
    exact ⟨none, 0, rfl, Nat.zero_le _, fun k hk => by omega⟩
  · refine ⟨_, cap, h3, by omega, fun k hk => ⟨g', rfl, ?_⟩⟩
    rw [cell_of_block h5]
    have : xs[k]? = some xs[k] := List.getElem?_eq_getElem hk
    rw [← this, ← h9, List.getElem?_take, if_pos (by omega), Array.getElem?_toList]
theorem conO_eq {o q : On} (h : conO o = conO q) : (o.k = q.k ∧ o.a = q.a ∧ o.b = q.b ∧ o.n = q.n) ∧ sameR o.p.g o.p.x o.p.y q.p.g q.p.x q.p.y = true := by
  unfold conO conQ at h
  simp only [Prod.mk.injEq] at h
  obtain ⟨⟨h1, h2, h3, h4⟩, h5, h6, h7⟩ := h
  refine ⟨⟨h1, h2, h3, h4⟩, ?_⟩
  unfold sameR
  rw [h5, h6, h7]
  simp
set_option maxRecDepth 100000 in
set_option maxHeartbeats 8000000 in
theorem sameOp_con (o q : On) (hc : conO o = conO q) (w : World) (ho : NqL w o.p) (hq : NqL w q.p) :
    Calls Tryd.prog 24 #[opV o, opV q] w fun e w' => e = .returned (.bool true) ∧ Below w.heap.size w w' := by
  obtain ⟨⟨e1, e2, e3, e4⟩, hs⟩ := conO_eq hc
  obtain ⟨k, a, b, n, p⟩ := o
  obtain ⟨k', a', b', n', r⟩ := q
  simp only at e1 e2 e3 e4 hs ho hq
  subst e1 e2 e3 e4
  obtain ⟨wa, hwa⟩ : ∃ x, w.alloc (.cells #[.int .i64 k, .int .i64 a, .int .i64 b, .int .i64 n, .bool p.g, .slice p.a p.n p.c, .slice p.b p.m p.d] 54) = x := ⟨_, rfl⟩
  have bx : BoxP wa w.heap.size [.int .i64 k, .int .i64 a, .int .i64 b, .int .i64 n, .bool p.g, .slice p.a p.n p.c, .slice p.b p.m p.d] := by rw [← hwa]; exact BoxP.made _ _ _
  have hba : Below w.heap.size w wa := by rw [← hwa]; exact (Below.refl _ _).alloc (Nat.le_refl _) _
  obtain ⟨wo, hwo⟩ : ∃ x, wa.alloc (.cells #[.int .i64 k, .int .i64 a, .int .i64 b, .int .i64 n, .bool r.g, .slice r.a r.n r.c, .slice r.b r.m r.d] 54) = x := ⟨_, rfl⟩
  have br : BoxP wo wa.heap.size [.int .i64 k, .int .i64 a, .int .i64 b, .int .i64 n, .bool r.g, .slice r.a r.n r.c, .slice r.b r.m r.d] := by rw [← hwo]; exact BoxP.made _ _ _
  have hbo : Below wa.heap.size wa wo := by rw [← hwo]; exact (Below.refl _ _).alloc (Nat.le_refl _) _
  have bx2 := bx.below hbo
  have hB := hba.trans (hbo.mono hba.size)
  have KR := hide (fun (W : World) (hb : Below wo.heap.size wo W) => (show Calls Tryd.prog 27 #[.agg #[.bool p.g, .slice p.a p.n p.c, .slice p.b p.m p.d], .agg #[.bool r.g, .slice r.a r.n r.c, .slice r.b r.m r.d]] W fun e w' => e = .returned (.bool true) ∧ Below W.heap.size W w' from by
    have K := sameRat_any p.g r.g p.a p.b r.a r.b p.n p.c p.m p.d r.n r.c r.m r.d p.x p.y r.x r.y W ((ho.x.below hB).below hb) ((ho.y.below hB).below hb) ((hq.x.below hB).below hb) ((hq.y.below hB).below hb)
    rw [hs] at K
    exact K))
  have HB := hide hB
  have g0 := (bx2.all 0 _ rfl).1
  have g1 := (bx2.all 1 _ rfl).1
  have g2 := (bx2.all 2 _ rfl).1
  have g3 := (bx2.all 3 _ rfl).1
  have g4 := (bx2.all 4 _ rfl).1
  have g5 := (bx2.all 5 _ rfl).1
  have g6 := (bx2.all 6 _ rfl).1
  have f0 := (br.all 0 _ rfl).1
  have f1 := (br.all 1 _ rfl).1
  have f2 := (br.all 2 _ rfl).1
  have f3 := (br.all 3 _ rfl).1
  have f4 := (br.all 4 _ rfl).1
  have f5 := (br.all 5 _ rfl).1
  have f6 := (br.all 6 _ rfl).1
  clear bx bx2 br hba hbo hB ho hq hs hc
  unfold opV
  go_enter Tryd.func24, Tryd.ntmps24
  go_wp2_with fail
  refine (unhide KR wo (Below.refl _ _)).mono ?_
  rintro _ w' ⟨rfl, hb⟩
  have HBE := hide ((unhide HB).trans (hb.mono (unhide HB).size))
  clear hb g0 g1 g2 g3 g4 g5 g6 f0 f1 f2 f3 f4 f5 f6
  go_wp2_with fail
  go_ret
  exact ⟨rfl, unhide HBE⟩
theorem con_at {os qs : List On} (h : os.map conO = qs.map conO) {i : Nat} {o q : On} (ho : os[i]? = some o) (hq : qs[i]? = some q) : conO o = conO q := by
  have h1 : (os.map conO)[i]? = some (conO o) := by simp [ho]
  have h2 : (qs.map conO)[i]? = some (conO q) := by simp [hq]
  rw [h, h2] at h1
  exact (Option.some.inj h1).symm
set_option maxRecDepth 100000 in
set_option maxHeartbeats 16000000 in
theorem sameTape_con (i : Int) (a : Option Addr) (n c : Nat) (os : List On) (b : Option Addr) (m d : Nat) (a' : Option Addr) (c' : Nat) (qs : List On) (b' : Option Addr) (d' : Nat) (ys : List Int) (w : World)
    (ho : SlO w a n c os) (hy : SlI w b m d ys) (hq : SlO w a' n c' qs) (hy' : SlI w b' m d' ys) (hn : n ≤ 140737488355328) (hm : m ≤ 140737488355328) (hc : os.map conO = qs.map conO) :
    Calls Tryd.prog 9 #[tapV i a n c b m d, tapV i a' n c' b' m d'] w fun e w' => e = .returned (.bool true) ∧ Below w.heap.size w w' := by
  obtain ⟨wa, hwa⟩ : ∃ x, w.alloc (.cells #[.int .i64 i, .slice a n c, .slice b m d] 25) = x := ⟨_, rfl⟩
  have bx : BoxP wa w.heap.size [.int .i64 i, .slice a n c, .slice b m d] := by rw [← hwa]; exact BoxP.made _ _ _
  have hba : Below w.heap.size w wa := by rw [← hwa]; exact (Below.refl _ _).alloc (Nat.le_refl _) _
  obtain ⟨wo, hwo⟩ : ∃ x, wa.alloc (.cells #[.int .i64 i, .slice a' n c', .slice b' m d'] 25) = x := ⟨_, rfl⟩
  have br : BoxP wo wa.heap.size [.int .i64 i, .slice a' n c', .slice b' m d'] := by rw [← hwo]; exact BoxP.made _ _ _
  have hbo : Below wa.heap.size wa wo := by rw [← hwo]; exact (Below.refl _ _).alloc (Nat.le_refl _) _
  have bx2 := bx.below hbo
  have hB := hba.trans (hbo.mono hba.size)
  have H1 := hide (ho.below hB)
  have H2 := hide (hq.below hB)
  have HC := hide hc
  have HB := hide hB
  have KI := hide (fun (W : World) (hb : Below wo.heap.size wo W) => sameInts_eq b b' m d d' ys W ((hy.below hB).below hb) ((hy'.below hB).below hb) hm)
  have g0 := (bx2.all 0 _ rfl).1
  have g1 := (bx2.all 1 _ rfl).1
  have g2 := (bx2.all 2 _ rfl).1
  have f0 := (br.all 0 _ rfl).1
  have f1 := (br.all 1 _ rfl).1
  have f2 := (br.all 2 _ rfl).1
  have hNN : ((n : Int) != (n : Int)) = false := by simp
  have hII : (i != i) = false := by simp
  clear bx bx2 br hba hbo hB ho hq hy hy' hc
  unfold tapV
  go_enter Tryd.func9, Tryd.ntmps9
  go_wp2_with fail
  refine (unhide KI wo (Below.refl _ _)).mono ?_
  rintro _ w1 ⟨rfl, dm, rfl⟩
  have HB1 := hide (show Below wo.heap.size wo (wo.drewN dm) from ⟨rfl, rfl, rfl, Nat.le_refl _, fun _ _ => rfl⟩)
  clear hwa hwo
  go_wp2_with fail
  go_loopw [5] (fun iv wr => ∃ k : Nat, k ≤ n ∧ iv = .int .i64 k ∧ Hid (Below wo.heap.size wo wr)) (fun iv _ => n - (intOf iv).toNat)
  case atStart => exact ⟨0, Nat.zero_le _, rfl, unhide HB1⟩
  case round =>
    obtain ⟨k, hk, rfl, HBr⟩ := hrel
    have r1 := ((unhide HBr).cell (p := ⟨w.heap.size, 1, none⟩) (World.block_lt_of_cell? _ _ g1)).trans g1
    have s1 := ((unhide HBr).cell (p := ⟨wa.heap.size, 1, none⟩) (World.block_lt_of_cell? _ _ f1)).trans f1
    by_cases hlt : k < n
    · have hlt' : (k:Int) < (n:Int) := by omega
      obtain ⟨b1, off, o, rfl, hoo, O, hok⟩ := ((unhide H1).below (unhide HBr)).at' hlt
      obtain ⟨b2, off', q, rfl, hqq, Q, hqk⟩ := ((unhide H2).below (unhide HBr)).at' hlt
      have K := hide (fun (W : World) (hb : Below wr.heap.size wr W) => (show Calls Tryd.prog 24 #[.agg #[.int .i64 o.k, .int .i64 o.a, .int .i64 o.b, .int .i64 o.n, .bool o.p.g, .slice o.p.a o.p.n o.p.c, .slice o.p.b o.p.m o.p.d], .agg #[.int .i64 q.k, .int .i64 q.a, .int .i64 q.b, .int .i64 q.n, .bool q.p.g, .slice q.p.a q.p.n q.p.c, .slice q.p.b q.p.m q.p.d]] W fun e w' => e = .returned (.bool true) ∧ Below W.heap.size W w' from sameOp_con o q (con_at (unhide HC) hoo hqq) W (hok.below hb) (hqk.below hb)))
      obtain ⟨c0, c1, c2, c3, c4, c5, c6⟩ := O
      obtain ⟨e0, e1, e2, e3, e4, e5, e6⟩ := Q
      have Fr1 := fun x : Ext wr => x.cell r1
      have Fs1 := fun x : Ext wr => x.cell s1
      have Fc0 := fun x : Ext wr => x.cell c0
      have Fc1 := fun x : Ext wr => x.cell c1
      have Fc2 := fun x : Ext wr => x.cell c2
      have Fc3 := fun x : Ext wr => x.cell c3
      have Fc4 := fun x : Ext wr => x.cell c4
      have Fc5 := fun x : Ext wr => x.cell c5
      have Fc6 := fun x : Ext wr => x.cell c6
      have Fe0 := fun x : Ext wr => x.cell e0
      have Fe1 := fun x : Ext wr => x.cell e1
      have Fe2 := fun x : Ext wr => x.cell e2
      have Fe3 := fun x : Ext wr => x.cell e3
      have Fe4 := fun x : Ext wr => x.cell e4
      have Fe5 := fun x : Ext wr => x.cell e5
      have Fe6 := fun x : Ext wr => x.cell e6
      have hNE := Ext.ne wr
      clear hok hqk hoo hqq
      go_wp2_with fail
      refine wp_region_ext (by kernel_rfl) (by kernel_rfl) ?_
      repeat (go_big_quiet_step (first | (go_at_call 24; rename_i x; exact Ext.call (unhide K x.w x.bel) (fun e w' h => h))))
      refine wpQuiet_nil ?_
      rintro _ ⟨xE, rfl⟩
      have HBE := hide ((unhide HBr).trans (xE.bel.mono (unhide HBr).size))
      clear Fr1 Fs1 Fc0 Fc1 Fc2 Fc3 Fc4 Fc5 Fc6 Fe0 Fe1 Fe2 Fe3 Fe4 Fe5 Fe6 hNE
      go_wp2_with fail
      exact ⟨⟨k + 1, by omega, by go_num, unhide HBE⟩, by simp [intOf]; omega⟩
    · obtain rfl : k = n := by omega
      have hlt' : ¬ (k:Int) < (k:Int) := by omega
      go_wp2_with fail
      go_ret
      exact ⟨rfl, (unhide HB).trans ((unhide HBr).mono (unhide HB).size)⟩
structure GrO (S : Nat → Prop) (w wr : World) (v : Value) (qs : List On) : Prop where
  own : wr.ownsRow w.heap.size 54 7 v qs.length (celO qs)
  each : ∀ q ∈ qs, NqL wr q.p
  far : ∀ q ∈ qs, ∀ k, nqB q.p k → v.ownBlock ≠ some k ∧ ¬ S k
  bel : Chg S w wr
theorem GrO.start (S : Nat → Prop) (w : World) : GrO S w w (.slice none 0 0) [] := ⟨World.ownsRow_nil _ _ _ _, (fun q hq => by cases hq), (fun q hq => by cases hq), Chg.refl _ _⟩
theorem GrO.below {S : Nat → Prop} {w wr w1 : World} {v : Value} {qs : List On} (h : GrO S w wr v qs) (hb : Below wr.heap.size wr w1) : GrO S w w1 v qs :=
  ⟨ownsRow_chg (S := fun _ => False) h.own (Chg.of_below hb) (fun _ _ x => x), fun q hq => (h.each q hq).below hb, h.far, h.bel.trans (Chg.of_below hb)⟩
theorem GrO.app {S : Nat → Prop} {w wr w1 w2 : World} {v : Value} {qs : List On} {q : On} {g cap H : Nat} (h : GrO S w wr v qs) (hb : Below wr.heap.size wr w1) (hq : NqL w1 q.p) (hf : ∀ k, nqB q.p k → wr.heap.size ≤ k ∧ ¬ S k)
    (hg : (w1.alloc (.cells (cellsO q).toArray 54)).grownBy w2 v.ownBlock) (hown : w2.ownsRow w.heap.size 54 7 (.slice (some ⟨g, 0, none⟩) (qs.length + 1) cap) (qs.length + 1) (celO qs ++ cellsO q))
    (hat : v.ownBlock = some g ∨ g = H) (hH : (w1.alloc (.cells (cellsO q).toArray 54)).heap.size = H) : GrO S w w2 (.slice (some ⟨g, 0, none⟩) (qs.length + 1) cap) (qs ++ [q]) := by
  have hal : Below w1.heap.size w1 (w1.alloc (.cells (cellsO q).toArray 54)) := (Below.refl _ _).alloc (Nat.le_refl _) _
  have hc : Chg (fun j => v.ownBlock = some j) (w1.alloc (.cells (cellsO q).toArray 54)) w2 := ⟨hg.os, hg.tape, hg.output, hg.size, fun j hj hs => hg.block j hj (fun e => hs e.symm)⟩
  have h1 := (h.below hb).below hal
  have hs1 := hb.size
  have hs2 := hal.size
  have olt : ∀ k, v.ownBlock = some k → w.heap.size ≤ k ∧ k < wr.heap.size := fun k e => own_ge h.own k e
  refine ⟨?_, fun p hp => ?_, fun p hp k hk => ?_, chg_then h1.bel hc (fun j hj _ e => by have := (olt j e).1; omega)⟩
  · rw [List.length_append, celO_app]
    have e : celO [q] = cellsO q := by simp [celO]
    rw [e]
    exact hown
  · rcases List.mem_append.1 hp with hp | hp
    · exact (h1.each p hp).st hc (fun k hk => (h.far p hp k hk).1)
    · obtain rfl := List.mem_singleton.1 hp
      exact (hq.below hal).st hc (fun k hk e => by have := (hf k hk).1; have := (olt k e).2; omega)
  · have hgk : g ≠ k := by
      rcases List.mem_append.1 hp with hp | hp
      · have hk2 := (h.each p hp).lt k hk
        rcases hat with e | e
        · intro e2; rw [e2] at e; exact (h.far p hp k hk).1 e
        · omega
      · obtain rfl := List.mem_singleton.1 hp
        have h3 := (hf k hk).1
        rcases hat with e | e
        · have := (olt g e).2; omega
        · have hk2 := hq.lt k hk; omega
    refine ⟨fun e => hgk (by simpa [Value.ownBlock] using e), ?_⟩
    rcases List.mem_append.1 hp with hp | hp
    · exact (h.far p hp k hk).2
    · obtain rfl := List.mem_singleton.1 hp
      exact (hf k hk).2
theorem GrO.set {S : Nat → Prop} {w wr : World} {v : Value} {qs : List On} (h : GrO S w wr v qs) {X : Nat} (hX : X < w.heap.size) (hS : S X) (i : Nat) (u : Value) : GrO S w (wr.setCell ⟨X, i, none⟩ u) v qs := by
  have hk : Chg (fun j => j = X) wr (wr.setCell ⟨X, i, none⟩ u) := Chg.of_set wr X i u rfl
  refine ⟨ownsRow_chg h.own hk (fun k e e2 => by have := (own_ge h.own k e).1; omega), fun q hq => (h.each q hq).st hk (fun k hk2 e => (h.far q hq k hk2).2 (by rw [e]; exact hS)), h.far, h.bel.trans (hk.mono (fun k _ e => by rw [e]; exact hS))⟩
theorem GrO.mono {S S' : Nat → Prop} {w wr : World} {v : Value} {qs : List On} (h : GrO S w wr v qs) (hs : ∀ k, S k → S' k) (hf : ∀ q ∈ qs, ∀ k, nqB q.p k → ¬ S' k) : GrO S' w wr v qs := ⟨h.own, h.each, fun q hq k hk => ⟨(h.far q hq k hk).1, hf q hq k hk⟩, h.bel.mono (fun k _ => hs k)⟩
theorem GrO.slo {S : Nat → Prop} {w wr : World} {v : Value} {qs : List On} (h : GrO S w wr v qs) : ∃ a c, v = .slice a qs.length c ∧ SlO wr a qs.length c qs := by
  rcases h.own.2 with ⟨e, hk⟩ | ⟨g, cap, cur, e, q1, q2, q3, q4, q5, q6⟩
  · have hq : qs = [] := List.length_eq_zero_iff.1 (by first | exact hk | simpa using hk)
    subst hq
    exact ⟨none, 0, e, ⟨rfl, Nat.le_refl _, .inl rfl, fun o ho => by cases ho⟩⟩
  · have hown := h.own
    rw [e] at hown
    exact ⟨some ⟨g, 0, none⟩, cap, e, (FilC.of_own hown).slo rfl q3 h.each⟩
def twoK (k : Int) : Bool := decide (3 ≤ k) && decide (k ≤ 6)
def oneK (k : Int) : Bool := decide (7 ≤ k) && decide (k ≤ 8)
def blankQ (p : Nq) : Bool := !p.g && decide (p.x = []) && decide (p.y = [])
def unuO (o : On) : Bool := (decide (o.k = 2) && decide (o.a ≠ 0)) || (!twoK o.k && decide (o.b ≠ 0)) || (decide (o.k ≠ 8) && decide (o.n ≠ 0)) || (decide (o.k ≠ 2) && !blankQ o.p)
def opsL (o : On) : List Int := if twoK o.k then [o.a, o.b] else if oneK o.k then [o.a] else []
def offI (v : Int) (n : Int) : Bool := decide (v < 0) || decide (n ≤ v)
def opF (inp : Int) (i : Nat) (o : On) : Int :=
  if o.k < 1 ∨ 8 < o.k then 103 else if unuO o then 104 else if o.k = 1 ∧ offI o.a inp = true then 105 else if o.k = 2 ∧ MayR o.p.g o.p.x o.p.y = false then 40 else if (opsL o).any (fun v => offI v i) = true then 106 else if o.n < -1024 ∨ 1024 < o.n then 107 else 0
def opsF (inp : Int) : Nat → List On → Option (Int × Int)
  | _, [] => none
  | i, o :: os => if opF inp i o = 0 then opsF inp (i + 1) os else some ((i : Int), opF inp i o)
def outsF (n : Nat) : Nat → List Int → Option (Int × Int)
  | _, [] => none
  | i, y :: ys => if offI y n = true then some ((n : Int) + i, 108) else outsF n (i + 1) ys
def chF (inp : Int) (os : List On) (ys : List Int) : Int × Int :=
  if inp < 0 ∨ 64 < inp then (-1, 100) else if 2048 < os.length then (-1, 101) else if ys.length = 0 ∨ 64 < ys.length then (-1, 102) else
    match opsF inp 0 os with
    | some r => r
    | none => match outsF os.length 0 ys with
      | some r => r
      | none => (0, 0)
theorem opsF_drop (inp : Int) (os : List On) {k : Nat} {o : On} (h : os[k]? = some o) (i : Nat) : opsF inp i (os.drop k) = if opF inp i o = 0 then opsF inp (i + 1) (os.drop (k + 1)) else some ((i : Int), opF inp i o) := by
  obtain ⟨hk, rfl⟩ := List.getElem?_eq_some_iff.1 h
  rw [List.drop_eq_getElem_cons hk]
  rfl
theorem outsF_drop (n : Nat) (ys : List Int) {k : Nat} (hk : k < ys.length) (i : Nat) : outsF n i (ys.drop k) = if offI (ys.getD k 0) n = true then some ((n : Int) + i, 108) else outsF n (i + 1) (ys.drop (k + 1)) := by
  rw [List.drop_eq_getElem_cons hk, List.getD_eq_getElem?_getD, List.getElem?_eq_getElem hk]
  rfl
theorem opsF_end (inp : Int) (os : List On) {k : Nat} (h : os.length = k) (i : Nat) : opsF inp i (os.drop k) = none := by
  rw [List.drop_of_length_le (by omega)]
  rfl
theorem outsF_end (n : Nat) (ys : List Int) {k : Nat} (h : ys.length = k) (i : Nat) : outsF n i (ys.drop k) = none := by
  rw [List.drop_of_length_le (by omega)]
  rfl
theorem opF_con {o q : On} (h : conO o = conO q) (inp : Int) (i : Nat) : opF inp i o = opF inp i q ∧ opsL o = opsL q := by
  obtain ⟨k, a, b, n, p⟩ := o
  obtain ⟨k', a', b', n', r⟩ := q
  unfold conO conQ at h
  simp only [Prod.mk.injEq] at h
  obtain ⟨⟨rfl, rfl, rfl, rfl⟩, h1, h2, h3⟩ := h
  unfold opF unuO opsL blankQ
  simp only [h1, h2, h3]
  exact ⟨trivial, trivial⟩
theorem opsF_con (inp : Int) : ∀ (os qs : List On) (i : Nat), os.map conO = qs.map conO → opsF inp i os = opsF inp i qs
  | [], [], i, _ => rfl
  | o :: os, q :: qs, i, h => by
    simp only [List.map_cons, List.cons.injEq] at h
    unfold opsF
    rw [(opF_con h.1 inp i).1, opsF_con inp os qs (i + 1) h.2]
  | [], q :: qs, i, h => by simp at h
  | o :: os, [], i, h => by simp at h
theorem chF_con {os qs : List On} (h : os.map conO = qs.map conO) (inp : Int) (ys : List Int) : chF inp os ys = chF inp qs ys := by
  have hl : os.length = qs.length := by simpa using congrArg List.length h
  unfold chF
  rw [opsF_con inp os qs 0 h, hl]
structure TpOk (inp : Int) (os : List On) (ys : List Int) : Prop where
  li : 0 ≤ inp ∧ inp ≤ 64
  lo : os.length ≤ 2048
  ly : 0 < ys.length ∧ ys.length ≤ 64
  op : ∀ i o, os[i]? = some o → opF inp i o = 0
  out : ∀ y ∈ ys, 0 ≤ y ∧ y < os.length
theorem opsF_none (inp : Int) : ∀ (os : List On) (i : Nat), opsF inp i os = none → ∀ j o, os[j]? = some o → opF inp (i + j) o = 0
  | [], i, _, j, o, ho => by simp at ho
  | q :: qs, i, h, j, o, ho => by
    unfold opsF at h
    split at h
    · rename_i h0
      cases j with
      | zero => simp at ho; subst ho; simpa using h0
      | succ j =>
        have := opsF_none inp qs (i + 1) h j o (by simpa using ho)
        rw [show i + (j + 1) = i + 1 + j from by omega]
        exact this
    · cases h
theorem opsF_ne (inp : Int) : ∀ (os : List On) (i : Nat) (r : Int × Int), opsF inp i os = some r → r.2 ≠ 0
  | [], i, r, h => by cases h
  | q :: qs, i, r, h => by
    unfold opsF at h
    split at h
    · exact opsF_ne inp qs (i + 1) r h
    · rename_i h0
      cases h
      exact h0
theorem outsF_none (n : Nat) : ∀ (ys : List Int) (i : Nat), outsF n i ys = none → ∀ y ∈ ys, 0 ≤ y ∧ y < n
  | [], i, _, y, hy => by cases hy
  | q :: qs, i, h, y, hy => by
    unfold outsF at h
    split at h
    · cases h
    · rename_i h0
      rcases List.mem_cons.1 hy with rfl | hy
      · unfold offI at h0
        simp only [Bool.or_eq_true, decide_eq_true_eq, not_or] at h0
        omega
      · exact outsF_none n qs (i + 1) h y hy
theorem outsF_ne (n : Nat) : ∀ (ys : List Int) (i : Nat) (r : Int × Int), outsF n i ys = some r → r.2 ≠ 0
  | [], i, r, h => by cases h
  | q :: qs, i, r, h => by
    unfold outsF at h
    split at h
    · cases h; exact (by decide : (108 : Int) ≠ 0)
    · exact outsF_ne n qs (i + 1) r h
theorem TpOk.of {inp : Int} {os : List On} {ys : List Int} (h : (chF inp os ys).2 = 0) : TpOk inp os ys := by
  unfold chF at h
  split at h
  · cases h
  split at h
  · cases h
  split at h
  · cases h
  rename_i h1 h2 h3
  split at h
  · rename_i r hr
    exact absurd h (opsF_ne inp os 0 r hr)
  · rename_i ho
    split at h
    · rename_i r hr
      exact absurd h (outsF_ne os.length ys 0 r hr)
    · rename_i hy
      exact ⟨by omega, by omega, by omega, fun i o hi => by simpa using opsF_none inp os 0 ho i o hi, outsF_none os.length ys 0 hy⟩
theorem TpOk.ch {inp : Int} {os : List On} {ys : List Int} (h : (chF inp os ys).2 = 0) : chF inp os ys = (0, 0) := by
  unfold chF at h ⊢
  split at h
  · cases h
  split at h
  · cases h
  split at h
  · cases h
  rename_i h1 h2 h3
  rw [if_neg h1, if_neg h2, if_neg h3]
  split at h
  · rename_i r hr
    exact absurd h (opsF_ne inp os 0 r hr)
  · rename_i ho
    split at h
    · rename_i r hr
      exact absurd h (outsF_ne os.length ys 0 r hr)
    · rename_i hy
      first | rfl | simp only [ho] | simp only [hy]
theorem op_ok {inp : Int} {i : Nat} {o : On} (h : opF inp i o = 0) : (1 ≤ o.k ∧ o.k ≤ 8) ∧ (∀ v ∈ opsL o, 0 ≤ v ∧ v < i) ∧ unuO o = false ∧ (o.k = 1 → 0 ≤ o.a ∧ o.a < inp) ∧ (o.k = 2 → MayR o.p.g o.p.x o.p.y = true) ∧ (-1024 ≤ o.n ∧ o.n ≤ 1024) := by
  unfold opF at h
  split at h
  · cases h
  split at h
  · cases h
  split at h
  · cases h
  split at h
  · cases h
  split at h
  · cases h
  split at h
  · cases h
  rename_i h1 h2 h3 h4 h5 h6
  refine ⟨by omega, fun v hv => ?_, by simpa using h2, fun e => ?_, fun e => ?_, by omega⟩
  · simp only [List.any_eq_true, not_exists, not_and] at h5
    have := h5 v hv
    unfold offI at this
    simp only [Bool.or_eq_true, decide_eq_true_eq, not_or] at this
    omega
  · have : ¬ offI o.a inp = true := fun h => h3 ⟨e, h⟩
    unfold offI at this
    simp only [Bool.or_eq_true, decide_eq_true_eq, not_or] at this
    omega
  · cases hm : MayR o.p.g o.p.x o.p.y
    · exact absurd ⟨e, hm⟩ h4
    · rfl
end Go.Proofs.YtiadccaaoenccaaDoor
