/- Rt4 -/
import Derived.Test.YtbbicappjicblaaGreatDoorRv2
import Derived.Test.YtbbicappjicblaaGreatDoorRv3
import Derived.Test.YtbbicappjicblaaGreatDoorTa0
import Derived.Test.YtbbicappjicblaaGreatDoorWie
import Derived.Test.YtbbicappjicblaaGreatDoorTb0
import Derived.Test.YtbbicappjicblaaGreatDoorTe4
import Derived.Test.YtbbicappjicblaaGreatDoorBy2
namespace Go.Proofs.YtbbicappjicblaaGreatDoor
open Go.RowKit Go.Deep
set_option linter.unusedVariables false
theorem FarQ.mono {w : World} {A N : Nat} {ps : List Nq} {S T : Nat → Prop} (h : FarQ S ps) (hf : FilQ w A N ps) (hs : ∀ k, k < w.heap.size → ¬ S k → ¬ T k) : FarQ T ps :=
 fun p hp => ⟨fun z hz hne => hs _ ((hf.each p hp).1.1.block_lt hne z hz) ((h p hp).1 z hz hne), fun z hz hne => hs _ ((hf.each p hp).1.2.block_lt hne z hz) ((h p hp).2 z hz hne)⟩

structure Qn where
 b : Nat
 c : Nat
 ps : List Nq
 b0 : Nat
 c0 : Nat
 ps0 : List Nq
def Qn.v (q : Qn) : Value := .slice (some ⟨q.b, 0, none⟩) q.ps.length q.c
def Qn.v0 (q : Qn) : Value := .slice (some ⟨q.b0, 0, none⟩) q.ps0.length q.c0
structure QnOk (w : World) (S : Nat → Prop) (q : Qn) : Prop where
 f : FilQ w q.b q.c q.ps
 f0 : FilQ w q.b0 q.c0 q.ps0
 le : q.ps.length ≤ q.c
 le0 : q.ps0.length ≤ q.c0
 con : q.ps.map conQ = q.ps0.map conQ
 s : ¬ S q.b
 s0 : ¬ S q.b0
 far : FarQ S q.ps
 far0 : FarQ S q.ps0
theorem QnOk.step {w w' : World} {S S' T : Nat → Prop} {q : Qn} (h : QnOk w S q) (k : Chg T w w') (h1 : ∀ k, k < w.heap.size → ¬ S k → ¬ T k) (h2 : ∀ k, k < w.heap.size → ¬ S k → ¬ S' k) : QnOk w' S' q :=
 ⟨h.f.chg k (h1 _ h.f.lt h.s) (h.far.mono h.f h1), h.f0.chg k (h1 _ h.f0.lt h.s0) (h.far0.mono h.f0 h1), h.le, h.le0, h.con, h2 _ h.f.lt h.s, h2 _ h.f0.lt h.s0, h.far.mono h.f h2, h.far0.mono h.f0 h2⟩

def Own4 (B : Nat) (v0 v1 u0 u1 : Value) (k : Nat) : Prop := Own B v0 v1 k ∨ u0.ownBlock = some k ∨ u1.ownBlock = some k
def rsQ (rt : Nat → Value) (u0 u1 : Value) (i : Nat) : Value := if i = 8 then u0 else if i = 9 then u1 else rt i

structure LawQ (rt : Nat → Value) (w : World) (B : Nat) (v0 v1 u0 u1 : Value) (es : List Ent) (qs : List Qn) (w0 : World) : Prop where
 giv : GivR w B v0 v1 es (rsQ rt u0 u1)
 bel : Below w0.heap.size w0 w
 base : w0.heap.size ≤ B
 own8 : w.ownsRow (B + 1) 92 1 u0 qs.length (qs.map Qn.v)
 own9 : w.ownsRow (B + 1) 92 1 u1 qs.length (qs.map Qn.v0)
 ap8 : ∀ k, u0.ownBlock = some k → ¬ Own B v0 v1 k ∧ u1.ownBlock ≠ some k
 ap9 : ∀ k, u1.ownBlock = some k → ¬ Own B v0 v1 k
 ents : ∀ e ∈ es, (u0.ownBlock ≠ some e.b ∧ u1.ownBlock ≠ some e.b) ∧ u0.ownBlock ≠ some e.b0 ∧ u1.ownBlock ≠ some e.b0
 qents : ∀ q ∈ qs, QnOk w (Own4 B v0 v1 u0 u1) q

theorem LawQ.grow {rt : Nat → Value} {w w' : World} {B : Nat} {v0 v1 v0' v1' u0 u1 : Value} {es fs : List Ent} {qs : List Qn} {w0 : World} (h : LawQ rt w B v0 v1 u0 u1 es qs w0) (hg : GivR w' B v0' v1' (es ++ fs) (rsQ rt u0 u1)) (hc : Chg (Own B v0 v1) w w')
  (hs : ∀ k, k < w.heap.size → ¬ Own B v0 v1 k → ¬ Own B v0' v1' k) (hf : ∀ e ∈ fs, w.heap.size ≤ e.b ∧ w.heap.size ≤ e.b0) : LawQ rt w' B v0' v1' u0 u1 (es ++ fs) qs w0 := by
 have o8 := own_ge h.own8
 have o9 := own_ge h.own9
 refine ⟨hg, h.bel.trans (hc.below h.bel.size ?_), h.base, ownsRow_chg h.own8 hc (fun k hk => (h.ap8 k hk).1), ownsRow_chg h.own9 hc h.ap9, fun k hk => ⟨hs k (o8 k hk).2 (h.ap8 k hk).1, (h.ap8 k hk).2⟩, fun k hk => hs k (o9 k hk).2 (h.ap9 k hk), ?_, ?_⟩
 ·intro k hk ho
  have := h.giv.own_ge ho
  have := h.base
  omega
 ·intro e he
  rcases List.mem_append.1 he with he | he
  ·exact h.ents e he
  ·have := hf e he
   refine ⟨⟨fun hh => ?_, fun hh => ?_⟩, fun hh => ?_, fun hh => ?_⟩
   ·have := (o8 _ hh).2; omega
   ·have := (o9 _ hh).2; omega
   ·have := (o8 _ hh).2; omega
   ·have := (o9 _ hh).2; omega
 ·intro q hq
  refine (h.qents q hq).step hc (fun k _ hn ho => hn (.inl ho)) ?_
  rintro k hk hn (ho | ho)
  ·exact hs k hk (fun hh => hn (.inl hh)) ho
  ·exact hn (.inr ho)

theorem LawQ.own_lt {rt : Nat → Value} {w : World} {B : Nat} {v0 v1 u0 u1 : Value} {es : List Ent} {qs : List Qn} {w0 : World} (h : LawQ rt w B v0 v1 u0 u1 es qs w0) {k : Nat} (hk : Own4 B v0 v1 u0 u1 k) : k < w.heap.size := by
 rcases hk with hk | hk | hk
 ·exact h.giv.own_lt hk
 ·exact (own_ge h.own8 k hk).2
 ·exact (own_ge h.own9 k hk).2
theorem LawQ.own_ge {rt : Nat → Value} {w : World} {B : Nat} {v0 v1 u0 u1 : Value} {es : List Ent} {qs : List Qn} {w0 : World} (h : LawQ rt w B v0 v1 u0 u1 es qs w0) {k : Nat} (hk : Own4 B v0 v1 u0 u1 k) : B ≤ k := by
 rcases hk with hk | hk | hk
 ·exact h.giv.own_ge hk
 ·have := (Go.Proofs.YtbbicappjicblaaGreatDoor.own_ge h.own8 k hk).1; omega
 ·have := (Go.Proofs.YtbbicappjicblaaGreatDoor.own_ge h.own9 k hk).1; omega
theorem LawQ.below {rt : Nat → Value} {w w' : World} {B : Nat} {v0 v1 u0 u1 : Value} {es : List Ent} {qs : List Qn} {w0 : World} (h : LawQ rt w B v0 v1 u0 u1 es qs w0) (k : Below w.heap.size w w') : LawQ rt w' B v0 v1 u0 u1 es qs w0 := by
 have := h.grow (fs := []) (w' := w') (v0' := v0) (v1' := v1) (by simpa using h.giv.below k) (.of_below k) (fun _ _ h => h) (fun e he => by cases he)
 simpa using this
theorem LawQ.cells {rt : Nat → Value} {w : World} {B : Nat} {v0 v1 u0 u1 : Value} {es : List Ent} {qs : List Qn} {w0 : World} (h : LawQ rt w B v0 v1 u0 u1 es qs w0) : (w.cell? ⟨B, 8, none⟩ = some u0 ∧ w.cell? ⟨B, 9, none⟩ = some u1) ∧ w.frozen? ⟨B, 8, none⟩ = false ∧ w.frozen? ⟨B, 9, none⟩ = false ∧ B < w.heap.size := by
 obtain ⟨cur, hc, hr⟩ := h.giv.blk
 exact ⟨⟨(cell_of_block hc 8).trans (hr.2.2.2 8 (by omega) (by omega)), (cell_of_block hc 9).trans (hr.2.2.2 9 (by omega) (by omega))⟩, frozen_of_block hc _, frozen_of_block hc _, block_lt hc⟩
theorem own_at {w : World} {base : Nat} {e : TypeId} {v : Value} {n : Nat} {xs : List Value} (h : w.ownsRow base e 1 v n xs) : ∃ a c, v = .slice a n c ∧ n ≤ maxLen ∧ ∀ k (hk : k < xs.length), ∃ g, a = some ⟨g, 0, none⟩ ∧ w.cell? ⟨g, k, none⟩ = some xs[k] := by
 obtain ⟨hl, h2⟩ := h
 rcases h2 with ⟨h2, h3⟩ | ⟨g', cap, cur, h3, h4, h5, h6, h7, h8, h9⟩
 ·subst h2 h3
  exact ⟨none, 0, rfl, Nat.zero_le _, fun k hk => by omega⟩
 ·refine ⟨_, cap, h3, by omega, fun k hk => ⟨g', rfl, ?_⟩⟩
  rw [cell_of_block h5]
  have : xs[k]? = some xs[k] := List.getElem?_eq_getElem hk
  rw [← this, ← h9, List.getElem?_take, if_pos (by omega), Array.getElem?_toList]
theorem conO_eq {o q : On} (h : conO o = conO q) : (o.k = q.k ∧ o.a = q.a ∧ o.b = q.b ∧ o.n = q.n) ∧ sameR o.p.g o.p.x o.p.y q.p.g q.p.x q.p.y = true := by
 unfold conO conQ at h
 simp only [Prod.mk.injEq] at h
 obtain ⟨⟨h1, h2, h3, h4⟩, h5, h6, h7⟩ := h
 refine ⟨⟨h1, h2, h3, h4⟩, ?_⟩
 unfold sameR
 rw [h5, h6, h7]
 simp
set_option maxRecDepth 100000 in
set_option maxHeartbeats 8000000 in
theorem sameOp_con (o q : On) (hc : conO o = conO q) (w : World) (ho : NqL w o.p) (hq : NqL w q.p) :
  Calls Tryz.prog 82 #[opV o, opV q] w fun e w' => e = .returned (.bool true) ∧ Below w.heap.size w w' := by
 obtain ⟨⟨e1, e2, e3, e4⟩, hs⟩ := conO_eq hc
 obtain ⟨k, a, b, n, p⟩ := o
 obtain ⟨k', a', b', n', r⟩ := q
 simp only at e1 e2 e3 e4 hs ho hq
 subst e1 e2 e3 e4
 obtain ⟨wa, hwa⟩ : ∃ x, w.alloc (.cells #[.int .i64 k, .int .i64 a, .int .i64 b, .int .i64 n, .bool p.g, .slice p.a p.n p.c, .slice p.b p.m p.d] 73) = x := ⟨_, rfl⟩
 have bx : BoxP wa w.heap.size [.int .i64 k, .int .i64 a, .int .i64 b, .int .i64 n, .bool p.g, .slice p.a p.n p.c, .slice p.b p.m p.d] := by rw [← hwa]; exact BoxP.made _ _ _
 have hba : Below w.heap.size w wa := by rw [← hwa]; exact (Below.refl _ _).alloc (Nat.le_refl _) _
 obtain ⟨wo, hwo⟩ : ∃ x, wa.alloc (.cells #[.int .i64 k, .int .i64 a, .int .i64 b, .int .i64 n, .bool r.g, .slice r.a r.n r.c, .slice r.b r.m r.d] 73) = x := ⟨_, rfl⟩
 have br : BoxP wo wa.heap.size [.int .i64 k, .int .i64 a, .int .i64 b, .int .i64 n, .bool r.g, .slice r.a r.n r.c, .slice r.b r.m r.d] := by rw [← hwo]; exact BoxP.made _ _ _
 have hbo : Below wa.heap.size wa wo := by rw [← hwo]; exact (Below.refl _ _).alloc (Nat.le_refl _) _
 have bx2 := bx.below hbo
 have hB := hba.trans (hbo.mono hba.size)
 have KR := hide (fun (W : World) (hb : Below wo.heap.size wo W) => (show Calls Tryz.prog 54 #[.agg #[.bool p.g, .slice p.a p.n p.c, .slice p.b p.m p.d], .agg #[.bool r.g, .slice r.a r.n r.c, .slice r.b r.m r.d]] W fun e w' => e = .returned (.bool true) ∧ Below W.heap.size W w' from by
  have K := sameRat_any p.g r.g p.a p.b r.a r.b p.n p.c p.m p.d r.n r.c r.m r.d p.x p.y r.x r.y W ((ho.x.below hB).below hb) ((ho.y.below hB).below hb) ((hq.x.below hB).below hb) ((hq.y.below hB).below hb)
  rw [hs] at K
  exact K))
 have HB := hide hB
 have g0 := (bx2.all 0 _ rfl).1
 have g1 := (bx2.all 1 _ rfl).1
 have g2 := (bx2.all 2 _ rfl).1
 have g3 := (bx2.all 3 _ rfl).1
 have g4 := (bx2.all 4 _ rfl).1
 have g5 := (bx2.all 5 _ rfl).1
 have g6 := (bx2.all 6 _ rfl).1
 have f0 := (br.all 0 _ rfl).1
 have f1 := (br.all 1 _ rfl).1
 have f2 := (br.all 2 _ rfl).1
 have f3 := (br.all 3 _ rfl).1
 have f4 := (br.all 4 _ rfl).1
 have f5 := (br.all 5 _ rfl).1
 have f6 := (br.all 6 _ rfl).1
 clear bx bx2 br hba hbo hB ho hq hs hc
 unfold opV
 go_enter Tryz.func82, Tryz.ntmps82
 go_wp2_with fail
 refine (unhide KR wo (Below.refl _ _)).mono ?_
 rintro _ w' ⟨rfl, hb⟩
 have HBE := hide ((unhide HB).trans (hb.mono (unhide HB).size))
 clear hb g0 g1 g2 g3 g4 g5 g6 f0 f1 f2 f3 f4 f5 f6
 go_wp2_with fail
 go_ret
 exact ⟨rfl, unhide HBE⟩
theorem con_at {os qs : List On} (h : os.map conO = qs.map conO) {i : Nat} {o q : On} (ho : os[i]? = some o) (hq : qs[i]? = some q) : conO o = conO q := by
 have h1 : (os.map conO)[i]? = some (conO o) := by simp [ho]
 have h2 : (qs.map conO)[i]? = some (conO q) := by simp [hq]
 rw [h, h2] at h1
 exact (Option.some.inj h1).symm
set_option maxRecDepth 100000 in
set_option maxHeartbeats 16000000 in
theorem sameTape_con (i : Int) (a : Option Addr) (n c : Nat) (os : List On) (b : Option Addr) (m d : Nat) (a' : Option Addr) (c' : Nat) (qs : List On) (b' : Option Addr) (d' : Nat) (ys : List Int) (w : World)
  (ho : SlO w a n c os) (hy : SlI w b m d ys) (hq : SlO w a' n c' qs) (hy' : SlI w b' m d' ys) (hn : n ≤ 140737488355328) (hm : m ≤ 140737488355328) (hc : os.map conO = qs.map conO) :
  Calls Tryz.prog 55 #[tapV i a n c b m d, tapV i a' n c' b' m d'] w fun e w' => e = .returned (.bool true) ∧ Below w.heap.size w w' := by
 obtain ⟨wa, hwa⟩ : ∃ x, w.alloc (.cells #[.int .i64 i, .slice a n c, .slice b m d] 25) = x := ⟨_, rfl⟩
 have bx : BoxP wa w.heap.size [.int .i64 i, .slice a n c, .slice b m d] := by rw [← hwa]; exact BoxP.made _ _ _
 have hba : Below w.heap.size w wa := by rw [← hwa]; exact (Below.refl _ _).alloc (Nat.le_refl _) _
 obtain ⟨wo, hwo⟩ : ∃ x, wa.alloc (.cells #[.int .i64 i, .slice a' n c', .slice b' m d'] 25) = x := ⟨_, rfl⟩
 have br : BoxP wo wa.heap.size [.int .i64 i, .slice a' n c', .slice b' m d'] := by rw [← hwo]; exact BoxP.made _ _ _
 have hbo : Below wa.heap.size wa wo := by rw [← hwo]; exact (Below.refl _ _).alloc (Nat.le_refl _) _
 have bx2 := bx.below hbo
 have hB := hba.trans (hbo.mono hba.size)
 have H1 := hide (ho.below hB)
 have H2 := hide (hq.below hB)
 have HC := hide hc
 have HB := hide hB
 have KI := hide (fun (W : World) (hb : Below wo.heap.size wo W) => sameInts_eq b b' m d d' ys W ((hy.below hB).below hb) ((hy'.below hB).below hb) hm)
 have g0 := (bx2.all 0 _ rfl).1
 have g1 := (bx2.all 1 _ rfl).1
 have g2 := (bx2.all 2 _ rfl).1
 have f0 := (br.all 0 _ rfl).1
 have f1 := (br.all 1 _ rfl).1
 have f2 := (br.all 2 _ rfl).1
 have hNN : ((n : Int) != (n : Int)) = false := by simp
 have hII : (i != i) = false := by simp
 clear bx bx2 br hba hbo hB ho hq hy hy' hc
 unfold tapV
 go_enter Tryz.func55, Tryz.ntmps55
 go_wp2_with fail
 refine (unhide KI wo (Below.refl _ _)).mono ?_
 rintro _ w1 ⟨rfl, dm, rfl⟩
 have HB1 := hide (show Below wo.heap.size wo (wo.drewN dm) from ⟨rfl, rfl, rfl, Nat.le_refl _, fun _ _ => rfl⟩)
 clear hwa hwo
 go_wp2_with fail
 go_loopw [5] (fun iv wr => ∃ k : Nat, k ≤ n ∧ iv = .int .i64 k ∧ Hid (Below wo.heap.size wo wr)) (fun iv _ => n - (intOf iv).toNat)
 case atStart => exact ⟨0, Nat.zero_le _, rfl, unhide HB1⟩
 case round =>
  obtain ⟨k, hk, rfl, HBr⟩ := hrel
  have r1 := ((unhide HBr).cell (p := ⟨w.heap.size, 1, none⟩) (World.block_lt_of_cell? _ _ g1)).trans g1
  have s1 := ((unhide HBr).cell (p := ⟨wa.heap.size, 1, none⟩) (World.block_lt_of_cell? _ _ f1)).trans f1
  by_cases hlt : k < n
  ·have hlt' : (k:Int) < (n:Int) := by omega
   obtain ⟨b1, off, o, rfl, hoo, O, hok⟩ := ((unhide H1).below (unhide HBr)).at' hlt
   obtain ⟨b2, off', q, rfl, hqq, Q, hqk⟩ := ((unhide H2).below (unhide HBr)).at' hlt
   have K := hide (fun (W : World) (hb : Below wr.heap.size wr W) => (show Calls Tryz.prog 82 #[.agg #[.int .i64 o.k, .int .i64 o.a, .int .i64 o.b, .int .i64 o.n, .bool o.p.g, .slice o.p.a o.p.n o.p.c, .slice o.p.b o.p.m o.p.d], .agg #[.int .i64 q.k, .int .i64 q.a, .int .i64 q.b, .int .i64 q.n, .bool q.p.g, .slice q.p.a q.p.n q.p.c, .slice q.p.b q.p.m q.p.d]] W fun e w' => e = .returned (.bool true) ∧ Below W.heap.size W w' from sameOp_con o q (con_at (unhide HC) hoo hqq) W (hok.below hb) (hqk.below hb)))
   obtain ⟨c0, c1, c2, c3, c4, c5, c6⟩ := O
   obtain ⟨e0, e1, e2, e3, e4, e5, e6⟩ := Q
   have Fr1 := fun x : Ext wr => x.cell r1
   have Fs1 := fun x : Ext wr => x.cell s1
   have Fc0 := fun x : Ext wr => x.cell c0
   have Fc1 := fun x : Ext wr => x.cell c1
   have Fc2 := fun x : Ext wr => x.cell c2
   have Fc3 := fun x : Ext wr => x.cell c3
   have Fc4 := fun x : Ext wr => x.cell c4
   have Fc5 := fun x : Ext wr => x.cell c5
   have Fc6 := fun x : Ext wr => x.cell c6
   have Fe0 := fun x : Ext wr => x.cell e0
   have Fe1 := fun x : Ext wr => x.cell e1
   have Fe2 := fun x : Ext wr => x.cell e2
   have Fe3 := fun x : Ext wr => x.cell e3
   have Fe4 := fun x : Ext wr => x.cell e4
   have Fe5 := fun x : Ext wr => x.cell e5
   have Fe6 := fun x : Ext wr => x.cell e6
   have hNE := Ext.ne wr
   clear hok hqk hoo hqq
   go_wp2_with fail
   refine wp_region_ext (by kernel_rfl) (by kernel_rfl) ?_
   repeat (go_big_quiet_step (first | (go_at_call 82; rename_i x; exact Ext.call (unhide K x.w x.bel) (fun e w' h => h))))
   refine wpQuiet_nil ?_
   rintro _ ⟨xE, rfl⟩
   have HBE := hide ((unhide HBr).trans (xE.bel.mono (unhide HBr).size))
   clear Fr1 Fs1 Fc0 Fc1 Fc2 Fc3 Fc4 Fc5 Fc6 Fe0 Fe1 Fe2 Fe3 Fe4 Fe5 Fe6 hNE
   go_wp2_with fail
   exact ⟨⟨k + 1, by omega, by go_num, unhide HBE⟩, by simp [intOf]; omega⟩
  ·obtain rfl : k = n := by omega
   have hlt' : ¬ (k:Int) < (k:Int) := by omega
   go_wp2_with fail
   go_ret
   exact ⟨rfl, (unhide HB).trans ((unhide HBr).mono (unhide HB).size)⟩
theorem any_next {p : Int → Bool} {l : List Int} {j : Nat} (hj : j < l.length) (h : (l.take j).any p = false) (hv : p (l.getD j 0) = false) : (l.take (j + 1)).any p = false := by
 rw [List.take_succ_eq_append_getElem hj, List.any_append, h]
 rw [List.getD_eq_getElem?_getD, List.getElem?_eq_getElem hj] at hv
 simpa using hv
theorem any_here {p : Int → Bool} {l : List Int} {j : Nat} (hj : j < l.length) (hv : p (l.getD j 0) = true) : l.any p = true := by
 rw [List.getD_eq_getElem?_getD, List.getElem?_eq_getElem hj] at hv
 exact List.any_eq_true.2 ⟨l[j], List.getElem_mem hj, by simpa using hv⟩
theorem opsL_len (o : On) : (opsL o).length ≤ 2 := by
 unfold opsL
 split
 ·simp
 ·split <;> simp
def KKo (o : On) (k : Nat) : Prop := o.k = (k : Int) ∧ 1 ≤ k ∧ k ≤ 8
def opR (i : Nat) (o : On) : Int := if (opsL o).any (fun v => offI v i) = true then 106 else if o.n < -1024 ∨ 1024 < o.n then 107 else 0
theorem opR_106 {i : Nat} {o : On} (h : (opsL o).any (fun v => offI v i) = true) : opR i o = 106 := by unfold opR; rw [if_pos h]
theorem opR_107 {i : Nat} {o : On} (h : (opsL o).any (fun v => offI v i) = false) (hn : o.n < -1024 ∨ 1024 < o.n) : opR i o = 107 := by unfold opR; rw [if_neg (by simp [h]), if_pos hn]
theorem opR_0 {i : Nat} {o : On} (h : (opsL o).any (fun v => offI v i) = false) (hn : ¬ (o.n < -1024 ∨ 1024 < o.n)) : opR i o = 0 := by unfold opR; rw [if_neg (by simp [h]), if_neg hn]
theorem opR_of {o : On} {k : Nat} (h : KKo o k) {inp : Int} {i : Nat} (hu : unuO o = false) (h1 : o.k = 1 → offI o.a inp = false) (h2 : o.k = 2 → MayR o.p.g o.p.x o.p.y = true) : opF inp i o = opR i o := by
 obtain ⟨e, a, b⟩ := h
 unfold opF
 rw [if_neg (by omega), if_neg (by simp [hu]), if_neg (fun h => by have := h1 h.1; rw [this] at h; exact absurd h.2 (by decide)), if_neg (fun h => by have := h2 h.1; rw [this] at h; exact absurd h.2 (by decide))]
 rfl
theorem op_104 {o : On} {k : Nat} (h : KKo o k) {inp : Int} {i : Nat} (hu : unuO o = true) : opF inp i o = 104 := by
 obtain ⟨e, a, b⟩ := h
 unfold opF
 rw [if_neg (by omega), if_pos hu]
theorem op_105 {o : On} (h : KKo o 1) {inp : Int} {i : Nat} (hu : unuO o = false) (h1 : offI o.a inp = true) : opF inp i o = 105 := by
 obtain ⟨e, a, b⟩ := h
 unfold opF
 rw [if_neg (by omega), if_neg (by simp [hu]), if_pos ⟨by simpa using e, h1⟩]
theorem op_40 {o : On} (h : KKo o 2) {inp : Int} {i : Nat} (hu : unuO o = false) (h1 : MayR o.p.g o.p.x o.p.y = false) : opF inp i o = 40 := by
 obtain ⟨e, a, b⟩ := h
 unfold opF
 rw [if_neg (by omega), if_neg (by simp [hu]), if_neg (by omega), if_pos ⟨by simpa using e, h1⟩]
set_option maxRecDepth 100000 in
set_option maxHeartbeats 16000000 in
theorem topf_any (i : Int) (a : Option Addr) (n c : Nat) (os : List On) (b : Option Addr) (m d : Nat) (at' : Nat) (o : On) (w : World) (hs : SlO w a n c os) (ho : os[at']? = some o) (hn : n ≤ 140737488355328) (hT : Tab64 w) (hS : TabSh w) :
  Calls Tryz.prog 68 #[tapV i a n c b m d, .int .i64 (at' : Int)] w fun e w' => e = .returned (.int .i64 (opF i at' o)) ∧ Below w.heap.size w w' := by
 have hat : at' < n := by have := (List.getElem?_eq_some_iff.1 ho).1; have := hs.len; omega
 obtain ⟨wa, hwa⟩ : ∃ x, w.alloc (.cells #[.int .i64 i, .slice a n c, .slice b m d] 25) = x := ⟨_, rfl⟩
 have bx : BoxP wa w.heap.size [.int .i64 i, .slice a n c, .slice b m d] := by rw [← hwa]; exact BoxP.made _ _ _
 have hba : Below w.heap.size w wa := by rw [← hwa]; exact (Below.refl _ _).alloc (Nat.le_refl _) _
 have zlt : w.heap.size < wa.heap.size := bx.lt
 obtain ⟨b1, off, o', rfl, hoo, O, hok⟩ := (hs.below hba).at' hat
 obtain rfl : o = o' := by rw [ho] at hoo; exact Option.some.inj hoo
 obtain ⟨c0, c1, c2, c3, c4, c5, c6⟩ := O
 have g1 := (bx.all 1 _ rfl).1
 have h1' : (0:Int) ≤ (at' : Int) := by omega
 have h2' : (at' : Int) < (n : Int) := by omega
 have HX := hide (And.intro bx (And.intro hba zlt))
 have HO := hide hok
 have HT := hide (And.intro (hT.below hba) (hS.below hba))
 have HI := hide hoo
 clear bx hba hs ho hok hT hS hoo
 unfold tapV
 go_enter Tryz.func68, Tryz.ntmps68
 go_wp2_with fail
 have br : BoxP (wa.alloc (.cells #[.int .i64 o.k, .int .i64 o.a, .int .i64 o.b, .int .i64 o.n, .bool o.p.g, .slice o.p.a o.p.n o.p.c, .slice o.p.b o.p.m o.p.d] 73)) wa.heap.size [.int .i64 o.k, .int .i64 o.a, .int .i64 o.b, .int .i64 o.n, .bool o.p.g, .slice o.p.a o.p.n o.p.c, .slice o.p.b o.p.m o.p.d] := BoxP.made _ _ _
 have hbo : Below wa.heap.size wa (wa.alloc (.cells #[.int .i64 o.k, .int .i64 o.a, .int .i64 o.b, .int .i64 o.n, .bool o.p.g, .slice o.p.a o.p.n o.p.c, .slice o.p.b o.p.m o.p.d] 73)) := (Below.refl _ _).alloc (Nat.le_refl _) _
 generalize wa.alloc (.cells #[.int .i64 o.k, .int .i64 o.a, .int .i64 o.b, .int .i64 o.n, .bool o.p.g, .slice o.p.a o.p.n o.p.c, .slice o.p.b o.p.m o.p.d] 73) = wo at *
 clear c0 c1 c2 c3 c4 c5 c6 g1 hwa h1' h2'
 have HBo := hide (show Below w.heap.size w wo from (unhide HX).2.1.trans (hbo.mono (unhide HX).2.1.size))
 have HOo := hide ((unhide HO).below hbo)
 have HTo := hide (show Tab64 wo ∧ TabSh wo from ⟨(unhide HT).1.below hbo, (unhide HT).2.below hbo⟩)
 have bx2 := (unhide HX).1.below hbo
 have g0 := (bx2.all 0 _ rfl).1
 have y0 := (br.all 0 _ rfl).1
 have y1 := (br.all 1 _ rfl).1
 have y2 := (br.all 2 _ rfl).1
 have y3 := (br.all 3 _ rfl).1
 have y4 := (br.all 4 _ rfl).1
 have y5 := (br.all 5 _ rfl).1
 have y6 := (br.all 6 _ rfl).1
 clear br hbo bx2 HO HT
 refine (tisKind_any o.k _).mono ?_
 rintro _ wq ⟨rfl, hw⟩
 obtain rfl := hw.symm
 clear hw
 by_cases hk : 1 ≤ o.k ∧ o.k ≤ 8
 rotate_left
 ·have HR := hide (show opF i at' o = 103 by unfold opF; rw [if_pos (by omega)])
  rw [show (decide (1 ≤ o.k) && decide (o.k ≤ 8)) = false by simp; omega]
  go_wp2_with fail
  try go_ret
  exact ⟨by rw [unhide HR]; rfl, unhide HBo⟩
 rw [show (decide (1 ≤ o.k) && decide (o.k ≤ 8)) = true by simp; omega]
 obtain ⟨k, hkk⟩ : ∃ k : Nat, o.k = (k : Int) := ⟨o.k.toNat, by omega⟩
 have hk1 : 1 ≤ k := by omega
 have hk8 : k ≤ 8 := by omega
 have HKs := hide (fun (W : World) (hb : Below wo.heap.size wo W) => tshape_any k hk1 hk8 W ((unhide HTo).2.below hb))
 have HKl := hide (fun (W : World) => (by
  have K := tleaves_any o k hkk hk1 hk8 W (unhide HOo).x.len.symm (unhide HOo).y.len.symm
  unfold opV at K
  rw [hkk] at K
  exact K : Calls Tryz.prog 89 #[.agg (shV k).toArray, .agg #[.int .i64 (k : Int), .int .i64 o.a, .int .i64 o.b, .int .i64 o.n, .bool o.p.g, .slice o.p.a o.p.n o.p.c, .slice o.p.b o.p.m o.p.d]] W fun e w' => e = .returned (.bool (!unuO o)) ∧ Below W.heap.size W w'))
 have Fy0 := fun x : Ext wo => x.cell y0
 have Fy1 := fun x : Ext wo => x.cell y1
 have Fy2 := fun x : Ext wo => x.cell y2
 have Fy3 := fun x : Ext wo => x.cell y3
 have Fy4 := fun x : Ext wo => x.cell y4
 have Fy5 := fun x : Ext wo => x.cell y5
 have Fy6 := fun x : Ext wo => x.cell y6
 have hNE := Ext.ne wo
 have HKK := hide (show KKo o k from ⟨hkk, hk1, hk8⟩)
 rw [hkk] at *
 clear hk hkk
 go_wp2_with fail
 refine wp_region_ext (by kernel_rfl) (by kernel_rfl) ?_
 repeat (go_big_quiet_step (first | (go_at_call 88; rename_i x; exact Ext.call (unhide HKs x.w x.bel) (fun e w' h => h)) | (go_at_call 89; rename_i x; exact Ext.call (unhide HKl x.w) (fun e w' h => h))))
 refine wpQuiet_nil ?_
 rintro _ ⟨xE, rfl⟩
 have bE := xE.bel
 generalize xE.w = wq at *
 have HBq := hide ((unhide HBo).trans (bE.mono (unhide HBo).size))
 have HOq := hide ((unhide HOo).below bE)
 have HTq := hide (show Tab64 wq ∧ TabSh wq from ⟨(unhide HTo).1.below bE, (unhide HTo).2.below bE⟩)
 have q0 := (bE.cell (World.block_lt_of_cell? _ _ y0)).trans y0
 have q1 := (bE.cell (World.block_lt_of_cell? _ _ y1)).trans y1
 have q2 := (bE.cell (World.block_lt_of_cell? _ _ y2)).trans y2
 have q3 := (bE.cell (World.block_lt_of_cell? _ _ y3)).trans y3
 have q4 := (bE.cell (World.block_lt_of_cell? _ _ y4)).trans y4
 have q5 := (bE.cell (World.block_lt_of_cell? _ _ y5)).trans y5
 have q6 := (bE.cell (World.block_lt_of_cell? _ _ y6)).trans y6
 have r0 := (bE.cell (World.block_lt_of_cell? _ _ g0)).trans g0
 clear Fy0 Fy1 Fy2 Fy3 Fy4 Fy5 Fy6 hNE bE y0 y1 y2 y3 y4 y5 y6 g0 HBo HOo HTo HKs HKl xE
 cases hu : unuO o
 rotate_left
 ·have HR := hide (op_104 (unhide HKK) hu (inp := i) (i := at'))
  clear hu
  go_wp2_with fail
  try go_ret
  exact ⟨by rw [unhide HR]; rfl, unhide HBq⟩
 have HU := hide hu
 clear hu
 by_cases k1 : k = 1
 focus
  have k1' : (o.k == 1) = true := by have := (unhide HKK).1; simp; omega
  have k2' : (o.k == 2) = false := by have := (unhide HKK).1; simp; omega
  have HK1 := hide k1
  clear k1
  cases ho1 : offI o.a i
  rotate_left
  ·have HR := hide (op_105 ((unhide HK1) ▸ unhide HKK) (unhide HU) ho1 (i := at'))
   have KB := fun W => tbelow_any o.a i W
   rw [ho1] at KB
   have HK := hide KB
   clear KB ho1
   go_wp2_with fail
   refine (unhide HK _).mono ?_
   rintro _ wz ⟨rfl, hw⟩
   obtain rfl := hw.symm
   clear hw
   go_wp2_with fail
   try go_ret
   exact ⟨by rw [unhide HR]; rfl, unhide HBq⟩
  have HF := hide (opR_of (unhide HKK) (unhide HU) (fun _ => ho1) (fun e => by have := (unhide HKK).1; have := unhide HK1; omega) (i := at'))
  have KB := fun W => tbelow_any o.a i W
  rw [ho1] at KB
  have HK := hide KB
  clear KB ho1
  go_wp2_with fail
  refine (unhide HK _).mono ?_
  rintro _ wz ⟨rfl, hw⟩
  obtain rfl := hw.symm
  clear hw HK
  go_wp2_with fail
 rotate_left
 focus
  have k1' : (o.k == 1) = false := by have := (unhide HKK).1; simp; omega
  by_cases k2 : k = 2
  focus
   have k2' : (o.k == 2) = true := by have := (unhide HKK).1; simp; omega
   have HK2 := hide k2
   clear k2
   have HM := hide (fun (W : World) (hb : Below wq.heap.size wq W) => ratMay_any o.p.g o.p.a o.p.b o.p.n o.p.c o.p.m o.p.d o.p.x o.p.y W ((unhide HOq).x.below hb) ((unhide HOq).y.below hb) (unhide HOq).ox (unhide HOq).oy ((unhide HTq).1.below hb))
   unfold ratV at HM
   cases hm : MayR o.p.g o.p.x o.p.y
   ·have HR := hide (op_40 ((unhide HK2) ▸ unhide HKK) (unhide HU) hm (inp := i) (i := at'))
    rw [hm] at HM
    clear hm
    go_wp2_with fail
    refine (unhide HM _ (Below.refl _ _)).mono ?_
    rintro _ wz ⟨rfl, hb⟩
    have HBz := hide ((unhide HBq).trans (hb.mono (unhide HBq).size))
    clear hb
    go_wp2_with fail
    try go_ret
    exact ⟨by rw [unhide HR]; rfl, unhide HBz⟩
   have HF := hide (opR_of (unhide HKK) (unhide HU) (fun e => by have := (unhide HKK).1; have := unhide HK2; omega) (fun _ => hm) (inp := i) (i := at'))
   rw [hm] at HM
   clear hm
   go_wp2_with fail
   refine (unhide HM _ (Below.refl _ _)).mono ?_
   rintro _ wq ⟨rfl, bE⟩
   have HBq := hide ((unhide HBq).trans (bE.mono (unhide HBq).size))
   have HOq := hide ((unhide HOq).below bE)
   have q0 := (bE.cell (World.block_lt_of_cell? _ _ q0)).trans q0
   have q1 := (bE.cell (World.block_lt_of_cell? _ _ q1)).trans q1
   have q2 := (bE.cell (World.block_lt_of_cell? _ _ q2)).trans q2
   have q3 := (bE.cell (World.block_lt_of_cell? _ _ q3)).trans q3
   have q4 := (bE.cell (World.block_lt_of_cell? _ _ q4)).trans q4
   have q5 := (bE.cell (World.block_lt_of_cell? _ _ q5)).trans q5
   have q6 := (bE.cell (World.block_lt_of_cell? _ _ q6)).trans q6
   clear bE HM
   go_wp2_with fail
  rotate_left
  focus
   have k2' : (o.k == 2) = false := by have := (unhide HKK).1; simp; omega
   have HF := hide (opR_of (unhide HKK) (unhide HU) (fun e => by have := (unhide HKK).1; omega) (fun e => by have := (unhide HKK).1; omega) (inp := i) (i := at'))
   clear k1 k2
   go_wp2_with fail
 all_goals
  have HP := hide (fun (W : World) => (by
   have K := toperands_any o (by have := (unhide HKK).1; omega) (by have := (unhide HKK).1; omega) W
   unfold opV at K
   exact K : Calls Tryz.prog 86 #[.agg #[.int .i64 o.k, .int .i64 o.a, .int .i64 o.b, .int .i64 o.n, .bool o.p.g, .slice o.p.a o.p.n o.p.c, .slice o.p.b o.p.m o.p.d]] W (OpsA W (opsL o))))
  refine (unhide HP _).mono ?_
  rintro _ w1 ⟨z, m1, c1, rfl, hz, hnew, bE⟩
  have HB1 := hide ((unhide HBq).trans (bE.mono (unhide HBq).size))
  have HZ := hide hz
  have q3 := (bE.cell (World.block_lt_of_cell? _ _ q3)).trans q3
  clear hz hnew bE HP
  go_wp2_with fail
  go_loopw [46] (fun iv wr => ∃ j : Nat, j ≤ m1 ∧ iv = .int .i64 (j : Int) ∧ wr = w1 ∧ Hid (((opsL o).take j).any (fun v => offI v at') = false)) (fun iv _ => m1 - (intOf iv).toNat)
  case atStart => exact ⟨0, Nat.zero_le _, rfl, rfl, hide (by simp)⟩
  case round =>
   obtain ⟨j, hj, rfl, rfl, HA⟩ := hrel
   have hml := (unhide HZ).len
   have hl2 : m1 ≤ 2 := by have := opsL_len o; omega
   by_cases hlt : j < m1
   ·have hlt' : (j : Int) < (m1 : Int) := by omega
    obtain ⟨zb, zo, rfl, hc⟩ := (unhide HZ).at (by omega)
    have sk := hc j hlt
    obtain ⟨v, hv⟩ : ∃ v, (opsL o).getD j 0 = v := ⟨_, rfl⟩
    rw [hv] at sk
    have KB := fun W => tbelow_any v at' W
    cases hof : offI v at'
    ·have HN := hide (any_next (p := fun v => offI v at') (by omega) (unhide HA) (by rw [hv]; exact hof))
     rw [hof] at KB
     have HK := hide KB
     clear KB hof hc hv hml
     go_wp2_with fail
     refine (unhide HK _).mono ?_
     rintro _ wz ⟨rfl, hw⟩
     obtain rfl := hw.symm
     clear hw HK
     go_wp2_with fail
     exact ⟨⟨j + 1, by omega, by (first | rfl | go_num), (by first | rfl | trivial), HN⟩, by simp [intOf]; omega⟩
    ·have HN := hide (opR_106 (o := o) (i := at') (any_here (j := j) (p := fun v => offI v at') (by omega) (by rw [hv]; exact hof)))
     rw [hof] at KB
     have HK := hide KB
     clear KB hof hc hv hml
     go_wp2_with fail
     refine (unhide HK _).mono ?_
     rintro _ wz ⟨rfl, hw⟩
     obtain rfl := hw.symm
     clear hw HK
     go_wp2_with fail
     try go_ret
     exact ⟨by rw [unhide HF, unhide HN]; rfl, unhide HB1⟩
   ·obtain rfl : j = m1 := by omega
    have hlt' : ¬ (j : Int) < (j : Int) := by omega
    have hA : (opsL o).any (fun v => offI v at') = false := by have := unhide HA; rwa [List.take_of_length_le (by omega)] at this
    by_cases n1 : o.n < -1024
    ·have HN := hide (opR_107 hA (.inl n1))
     clear hA hml
     go_wp2_with fail
     try go_ret
     exact ⟨by rw [unhide HF, unhide HN]; rfl, unhide HB1⟩
    ·by_cases n2 : 1024 < o.n
     ·have HN := hide (opR_107 hA (.inr n2))
      clear hA hml
      go_wp2_with fail
      try go_ret
      exact ⟨by rw [unhide HF, unhide HN]; rfl, unhide HB1⟩
     ·have HN := hide (opR_0 hA (by omega))
      clear hA hml
      go_wp2_with fail
      try go_ret
      exact ⟨by rw [unhide HF, unhide HN]; rfl, unhide HB1⟩
set_option maxRecDepth 100000 in
set_option maxHeartbeats 16000000 in
theorem wunused_any (o : On) (w : World) (hx : o.p.n = o.p.x.length) (hy : o.p.m = o.p.y.length) :
    Calls Tryz.prog 74 #[opV o] w fun e w' => e = .returned (.bool (unuO o)) ∧ Below w.heap.size w w' := by
  obtain ⟨k, a, b, n, p⟩ := o
  simp only at hx hy
  obtain ⟨wo, hwo⟩ : ∃ x, w.alloc (.cells #[.int .i64 k, .int .i64 a, .int .i64 b, .int .i64 n, .bool p.g, .slice p.a p.n p.c, .slice p.b p.m p.d] 73) = x := ⟨_, rfl⟩
  have br : BoxP wo w.heap.size [.int .i64 k, .int .i64 a, .int .i64 b, .int .i64 n, .bool p.g, .slice p.a p.n p.c, .slice p.b p.m p.d] := by rw [← hwo]; exact BoxP.made _ _ _
  have hbo : Below w.heap.size w wo := by rw [← hwo]; exact (Below.refl _ _).alloc (Nat.le_refl _) _
  have f0 := (br.all 0 _ rfl).1
  have f1 := (br.all 1 _ rfl).1
  have f2 := (br.all 2 _ rfl).1
  have f3 := (br.all 3 _ rfl).1
  have f4 := (br.all 4 _ rfl).1
  have f5 := (br.all 5 _ rfl).1
  have f6 := (br.all 6 _ rfl).1
  have HB := hide hbo
  have KT := hide (fun W => two_any k W)
  have KN := hide (fun (W : World) => wnone_any p W hx hy)
  clear br hbo hx hy
  obtain ⟨A1, t2⟩ : ∃ x, (k == 2) = x := ⟨_, rfl⟩
  obtain ⟨a0, ta⟩ : ∃ x, (a != 0) = x := ⟨_, rfl⟩
  obtain ⟨T, tt⟩ : ∃ x, twoK k = x := ⟨_, rfl⟩
  obtain ⟨b0, tb⟩ : ∃ x, (b != 0) = x := ⟨_, rfl⟩
  obtain ⟨K8, t8⟩ : ∃ x, (k != 8) = x := ⟨_, rfl⟩
  obtain ⟨n0, tn⟩ : ∃ x, (n != 0) = x := ⟨_, rfl⟩
  obtain ⟨bl, tl⟩ : ∃ x, blankQ p = x := ⟨_, rfl⟩
  have n2 : (k != 2) = !A1 := by rw [← t2]; rfl
  have hR : unuO ⟨k, a, b, n, p⟩ = ((A1 && a0) || (!T && b0) || (K8 && n0) || (!A1 && !bl)) := by
    rw [← t2, ← ta, ← tt, ← tb, ← t8, ← tn, ← tl]
    unfold unuO
    have q1 : ∀ x y : Int, decide (x = y) = (x == y) := fun x y => rfl
    simp [bne, q1]
  rw [hR]
  rw [tt] at KT
  rw [tl] at KN
  clear hR tt tl
  unfold opV
  cases A1 <;> cases a0
  all_goals
    simp only [Bool.not_false, Bool.not_true] at n2
    go_enter Tryz.func74, Tryz.ntmps74
    go_wp2_with fail
    first
    | (go_ret; exact ⟨rfl, unhide HB⟩)
    | (refine (unhide KT wo).mono ?_
       rintro _ wz ⟨rfl, hw⟩
       obtain rfl := hw.symm
       clear hw
       cases T <;> cases b0 <;> cases K8 <;> cases n0
       all_goals
         go_wp2_with fail
         first
         | (go_ret; exact ⟨rfl, unhide HB⟩)
         | (refine (unhide KN _).mono ?_
            rintro _ w' ⟨rfl, hb⟩
            have HE := hide ((unhide HB).trans (hb.mono (unhide HB).size))
            clear hb
            go_wp2_with fail
            go_ret
            exact ⟨by simp, unhide HE⟩))
end Go.Proofs.YtbbicappjicblaaGreatDoor
