/- Ta1 -/
import Derived.Test.YtbbicappjicblaaGreatDoorTa0
import Derived.Test.YtbbicappjicblaaGreatDoorRv5
import Derived.Test.YtbbicappjicblaaGreatDoorTb0
import Derived.Test.YtbbicappjicblaaGreatDoorNMul
namespace Go.Proofs.YtbbicappjicblaaGreatDoor
open Go.RowKit Go.Deep
set_option linter.unusedVariables false
theorem Tryz.info_op : (Tryz.prog.info? 73).map (fun i => (i.zero, i.size, i.bytes)) = some (some (.agg #[.int .i64 0, .int .i64 0, .int .i64 0, .int .i64 0, .bool false, .slice none 0 0, .slice none 0 0]), 7, 88) := by kernel_rfl
def zO : Array Value := #[.int .i64 0, .int .i64 0, .int .i64 0, .int .i64 0, .bool false, .slice none 0 0, .slice none 0 0]
theorem make_ops (n : Nat) (hn : n ≤ 1599289641000) (w : World) : (Instr.makeSlice 22 (.int .i64 (n : Int)) (.int .i64 ((n : Int) + 3))).run Tryz.prog w = .ok (.slice (some ⟨w.heap.size, 0, none⟩) n (n + 3)) (w.alloc (.cells (madeCells zO ((n + 3) * 7)) 73)) := by
 obtain ⟨i, hi, hzz⟩ := Option.map_eq_some_iff.1 Tryz.info_op
 simp only [Prod.mk.injEq] at hzz
 obtain ⟨hz, hs, hb⟩ := hzz
 have hr := run_make (P := Tryz.prog) w 22 73 i _ Tryz.underlying22 hi hz .i64 .i64 n ((n : Int) + 3) (by omega) (by omega) (by rw [hb]; omega) (by omega)
 rw [hs, show ((n : Int) + 3).toNat = n + 3 from by omega, show ((n : Int)).toNat = n from by omega] at hr
 exact hr
structure CpT (w wr : World) (A N k : Nat) (os qs : List On) : Prop where
 fil : FilC 73 wr A (N * 7) (celO qs)
 len : qs.length = k
 con : qs.map conO = (os.take k).map conO
 each : ∀ q ∈ qs, NqL wr q.p
 far : ∀ q ∈ qs, FarN (fun j => j ≤ A) q.p
 bel : Below w.heap.size w wr
 sz : ∀ q ∈ qs, q.p.n ≤ 35184372088000 ∧ q.p.m ≤ 35184372088000
theorem CpT.begin (w : World) (n : Nat) (os : List On) : CpT w (w.alloc (.cells (madeCells zO ((n + 3) * 7)) 73)) w.heap.size (n + 3) 0 os [] :=
 ⟨FilC.made _ w _ _ (size_madeCells _ _), rfl, by simp, (fun q hq => by cases hq), (fun q hq => by cases hq), (Below.refl _ _).alloc (Nat.le_refl _) _, (fun q hq => by cases hq)⟩
theorem CpT.next {w wr w1 wk wf : World} {A N k : Nat} {os qs : List On} {o : On} (h : CpT w wr A N k os qs) (hA : w.heap.size ≤ A) (ho : os[k]? = some o) (hok : Ok o.p.x ∧ Ok o.p.y) (hsz : o.p.n ≤ 35184372088000 ∧ o.p.m ≤ 35184372088000)
  (hc1 : Chg (fun j => j = A) wr w1) {a1 a2 : Option Addr} {d1 d2 : Nat} (s1 : Sl wk a1 o.p.n d1 o.p.x) (s2 : Sl wk a2 o.p.m d2 o.p.y) (n1 : NewAt w1.heap.size a1) (n2 : NewAt w1.heap.size a2) (b1 : Below w1.heap.size w1 wk)
  (hf : FilC 73 wf A (N * 7) (celO (qs ++ [⟨o.k, o.a, o.b, o.n, ⟨o.p.g, a1, o.p.n, d1, o.p.x, a2, o.p.m, d2, o.p.y⟩⟩]))) (hcf : Chg (fun j => j = A) wk wf) :
  CpT w wf A N (k + 1) os (qs ++ [⟨o.k, o.a, o.b, o.n, ⟨o.p.g, a1, o.p.n, d1, o.p.x, a2, o.p.m, d2, o.p.y⟩⟩]) := by
 have hlt := h.fil.lt
 have z1 := hc1.size
 have z2 := h.bel.size
 have nA1 : ∀ z, a1 = some z → ¬ z.block ≤ A := fun z hz => by have := n1 z hz; omega
 have nA2 : ∀ z, a2 = some z → ¬ z.block ≤ A := fun z hz => by have := n2 z hz; omega
 refine ⟨hf, by simp [h.len], ?_, ?_, ?_, ?_, ?_⟩
 ·rw [List.map_append, h.con, List.take_add_one, ho]
  simp [conO, conQ]
 ·intro q hq
  rcases List.mem_append.1 hq with e | e
  ·have f := h.far q e
   have fA : FarN (fun j => j = A) q.p := ⟨fun z hz hne e2 => f.x z hz hne (Nat.le_of_eq e2), fun z hz hne e2 => f.y z hz hne (Nat.le_of_eq e2)⟩
   exact ((((h.each q e).chg hc1 fA).below b1).chg hcf fA)
  ·obtain rfl := List.mem_singleton.1 e
   exact ⟨s1.chg hcf (fun z hz _ e2 => nA1 z hz (Nat.le_of_eq e2)), s2.chg hcf (fun z hz _ e2 => nA2 z hz (Nat.le_of_eq e2)), hok.1, hok.2⟩
 ·intro q hq
  rcases List.mem_append.1 hq with e | e
  ·exact h.far q e
  ·obtain rfl := List.mem_singleton.1 e
   exact ⟨fun z hz _ => nA1 z hz, fun z hz _ => nA2 z hz⟩
 ·exact ((h.bel.trans (hc1.below z2 (fun k hk e => by omega))).trans (b1.mono (by omega))).trans (hcf.below (by have := b1.size; omega) (fun k hk e => by omega))
 ·intro q hq
  rcases List.mem_append.1 hq with e | e
  ·exact h.sz q e
  ·obtain rfl := List.mem_singleton.1 e
   exact hsz

theorem CpT.out {w wo wr wk wf : World} {A N k X : Nat} {os qs : List On} (h : CpT wo wr A N k os qs) (hB : Below w.heap.size w wo) (hk : Below wr.heap.size wr wk) (hc : Chg (fun j => j = X) wk wf) (h1 : w.heap.size ≤ X) (h2 : X < A) : CpT w wf A N k os qs := by
 have hlt := h.fil.lt
 have z := h.bel.size
 have zk := hk.size
 have fX : ∀ q ∈ qs, FarN (fun j => j = X) q.p := fun q hq => ⟨fun z hz hne e => (h.far q hq).x z hz hne (by show z.block ≤ A; omega), fun z hz hne e => (h.far q hq).y z hz hne (by show z.block ≤ A; omega)⟩
 refine ⟨(h.fil.below hk).chg hc (by omega), h.len, h.con, fun q hq => ((h.each q hq).below hk).chg hc (fX q hq), h.far, ?_, h.sz⟩
 have z0 := hB.size
 exact ((hB.trans (h.bel.mono z0)).trans (hk.mono (by omega))).trans (hc.below (by omega) (fun j hj e => by omega))
set_option maxRecDepth 100000 in
set_option maxHeartbeats 16000000 in
theorem copyTape_any (i : Int) (a : Option Addr) (n c : Nat) (os : List On) (b : Option Addr) (m d : Nat) (ys : List Int) (w : World) (hs : SlO w a n c os) (hy : SlI w b m d ys) (hn : n ≤ 1599289641000) (hm : m ≤ 17592186044000) (hz : ∀ o ∈ os, o.p.n ≤ 35184372088000 ∧ o.p.m ≤ 35184372088000) :
  Calls Tryz.prog 21 #[tapV i a n c b m d] w fun e w' => ∃ A b' d' qs, e = .returned (tapV i (some ⟨A, 0, none⟩) n (n + 3) b' m d') ∧ w.heap.size ≤ A ∧ CpT w w' A (n + 3) n os qs ∧ (SlI w' b' m d' ys ∧ NewAt w.heap.size b') := by
 have hmk := make_ops n hn
 obtain ⟨wa, hwa⟩ : ∃ x, w.alloc (.cells #[.int .i64 i, .slice a n c, .slice b m d] 25) = x := ⟨_, rfl⟩
 have bx : BoxP wa w.heap.size [.int .i64 i, .slice a n c, .slice b m d] := by rw [← hwa]; exact BoxP.made _ _ _
 have hba : Below w.heap.size w wa := by rw [← hwa]; exact (Below.refl _ _).alloc (Nat.le_refl _) _
 obtain ⟨wo, hwo⟩ : ∃ x, wa.alloc (.cells #[.int .i64 0, .slice none 0 0, .slice none 0 0] 25) = x := ⟨_, rfl⟩
 have br : BoxP wo wa.heap.size [.int .i64 0, .slice none 0 0, .slice none 0 0] := by rw [← hwo]; exact BoxP.made _ _ _
 have hbo : Below wa.heap.size wa wo := by rw [← hwo]; exact (Below.refl _ _).alloc (Nat.le_refl _) _
 have bx2 := bx.below hbo
 have hB := hba.trans (hbo.mono hba.size)
 have H := hide (hs.below hB)
 have HY := hide (hy.below hB)
 have HZ := hide hz
 clear hs hy hz bx
 unfold tapV
 go_enter Tryz.func21, Tryz.ntmps21
 have p0 := (bx2.all 0 _ rfl).1
 have p1 := (bx2.all 1 _ rfl).1
 have p2 := (bx2.all 2 _ rfl).1
 clear bx2 hbo
 go_wp2_with fail
 go_loopw [4] (fun iv wr => ∃ k : Nat, k ≤ n ∧ iv = .int .i64 k ∧ ∃ qs, Hid (CpT wo wr wo.heap.size (n + 3) k os qs)) (fun iv _ => n - (intOf iv).toNat)
 case atStart => exact ⟨0, Nat.zero_le _, rfl, [], CpT.begin wo n os⟩
 case round =>
  obtain ⟨k, hk, rfl, qs, HC⟩ := hrel
  have bel := (unhide HC).bel
  have r0 := (bel.cell (p := ⟨w.heap.size, 0, none⟩) (World.block_lt_of_cell? _ _ p0)).trans p0
  have r1 := (bel.cell (p := ⟨w.heap.size, 1, none⟩) (World.block_lt_of_cell? _ _ p1)).trans p1
  have r2 := (bel.cell (p := ⟨w.heap.size, 2, none⟩) (World.block_lt_of_cell? _ _ p2)).trans p2
  by_cases hlt : k < n
  ·have hlt' : (k:Int) < (n:Int) := by omega
   obtain ⟨b', off, o, rfl, ho, O, hok⟩ := ((unhide H).below bel).at' hlt
   have hnb : b' ≠ wo.heap.size := by
    obtain ⟨b2, off2, o2, e2, _, O2, _⟩ := (unhide H).at' hlt
    cases e2
    have : b' < wo.heap.size := World.block_lt_of_cell? _ _ O2.c0
    omega
   obtain ⟨c0, c1, c2, c3, c4, c5, c6⟩ := O
   obtain ⟨⟨x0, q0⟩, f0⟩ := (unhide HC).fil.cellsAt (j := k * 7) (by omega)
   obtain ⟨⟨x1, q1⟩, f1⟩ := (unhide HC).fil.cellsAt (j := k * 7 + 1) (by omega)
   obtain ⟨⟨x2, q2⟩, f2⟩ := (unhide HC).fil.cellsAt (j := k * 7 + 2) (by omega)
   obtain ⟨⟨x3, q3⟩, f3⟩ := (unhide HC).fil.cellsAt (j := k * 7 + 3) (by omega)
   obtain ⟨⟨x4, q4⟩, f4⟩ := (unhide HC).fil.cellsAt (j := k * 7 + 4) (by omega)
   obtain ⟨⟨x5, q5⟩, f5⟩ := (unhide HC).fil.cellsAt (j := k * 7 + 5) (by omega)
   obtain ⟨⟨x6, q6⟩, f6⟩ := (unhide HC).fil.cellsAt (j := k * 7 + 6) (by omega)
   have HO := hide (And.intro ho hok)
   clear ho hok bel hwo br hba
   repeat ((fail_if_success (with_reducible (show Code.wp _ _ _ _ (World.setCell _ ⟨_, k * 7 + 6, none⟩ _)))); (first | go_values | go_skip | go_guarded | go_step | go_upon | go_back))
   have S7 := (unhide HC).fil.seven (unhide HC).len (by omega) o
   have HT := hide (fun (w1 wk wf : World) (hc1 : Chg (fun j => j = wo.heap.size) wr w1) (a1 a2 : Option Addr) (d1 d2 : Nat) (s1 : Sl wk a1 o.p.n d1 o.p.x) (s2 : Sl wk a2 o.p.m d2 o.p.y) (n1 : NewAt w1.heap.size a1) (n2 : NewAt w1.heap.size a2) (b1 : Below w1.heap.size w1 wk) (hf : FilC 73 wf wo.heap.size ((n + 3) * 7) (celO (qs ++ [⟨o.k, o.a, o.b, o.n, ⟨o.p.g, a1, o.p.n, d1, o.p.x, a2, o.p.m, d2, o.p.y⟩⟩]))) (hcf : Chg (fun j => j = wo.heap.size) wk wf) => (unhide HC).next (Nat.le_refl _) (unhide HO).1 ⟨(unhide HO).2.ox, (unhide HO).2.oy⟩ (unhide HZ o (List.mem_of_getElem? (unhide HO).1)) hc1 s1 s2 n1 n2 b1 hf hcf)
   have HL := hide (unhide HC).len
   generalize (((((((wr.setCell ⟨wo.heap.size, k * 7, none⟩ (.int .i64 o.k)).setCell ⟨wo.heap.size, k * 7 + 1, none⟩ (.int .i64 o.a)).setCell ⟨wo.heap.size, k * 7 + 2, none⟩ (.int .i64 o.b)).setCell ⟨wo.heap.size, k * 7 + 3, none⟩ (.int .i64 o.n)).setCell ⟨wo.heap.size, k * 7 + 4, none⟩ (.bool o.p.g)).setCell ⟨wo.heap.size, k * 7 + 5, none⟩ (.slice o.p.a o.p.n o.p.c)).setCell ⟨wo.heap.size, k * 7 + 6, none⟩ (.slice o.p.b o.p.m o.p.d)) = w1 at *
   obtain ⟨F7, C7⟩ := S7
   have hne : w.heap.size ≠ wo.heap.size := by have : w.heap.size < wo.heap.size := World.block_lt_of_cell? _ _ p0; omega
   have t1 := C7.cell hne r1
   have u4 := C7.cell hnb c4
   have u5 := C7.cell hnb c5
   have u6 := C7.cell hnb c6
   have hfar : FarN (fun j => j = wo.heap.size) o.p := by
    have ok := (unhide H).each o (List.mem_of_getElem? (unhide HO).1)
    exact ⟨fun z hz hx e => by have := ok.x.block_lt hx z hz; omega, fun z hz hx e => by have := ok.y.block_lt hx z hz; omega⟩
   have KC := copyRat_any o.p.g o.p.a o.p.b o.p.n o.p.c o.p.m o.p.d o.p.x o.p.y w1 ((unhide HO).2.chg C7 hfar).x ((unhide HO).2.chg C7 hfar).y (unhide HZ o (List.mem_of_getElem? (unhide HO).1)).1 (unhide HZ o (List.mem_of_getElem? (unhide HO).1)).2
   unfold ratV at KC
   have KC' := hide KC
   have HLn := hide (And.intro (unhide HO).2.x.len (unhide HO).2.y.len)
   have HF7 := hide F7
   have HC7 := hide C7
   clear KC F7 C7 c0 c1 c2 c3 c4 c5 c6 q0 q1 q2 q3 q4 q5 q6 f0 f1 f2 f3 f4 f5 f6 hfar r0 r1 r2 HO HC
   go_wp2_with fail
   refine (unhide KC').mono ?_
   rintro _ wk ⟨v, rfl, a1, m1, d1, a2, m2, d2, rfl, s1, s2, n1, n2, b1⟩
   obtain rfl : o.p.n = m1 := by have := s1.len; have := (unhide HLn).1; omega
   obtain rfl : o.p.m = m2 := by have := s2.len; have := (unhide HLn).2; omega
   unfold ratV
   have F8 := (unhide HF7).below b1
   obtain ⟨⟨x4, q4⟩, f4⟩ := F8.cellsAt (j := k * 7 + 4) (by omega)
   obtain ⟨⟨x5, q5⟩, f5⟩ := F8.cellsAt (j := k * 7 + 5) (by omega)
   obtain ⟨⟨x6, q6⟩, f6⟩ := F8.cellsAt (j := k * 7 + 6) (by omega)
   have S3 := F8.three (unhide HL) (by omega) o.p.g a1 a2 o.p.n d1 o.p.m d2 o.p.x o.p.y
   have HF := hide (unhide HT w1 wk _ (unhide HC7) a1 a2 d1 d2 s1 s2 n1 n2 b1 S3.1 S3.2)
   clear S3 F8 s1 s2 n1 n2 b1 HT HF7 HC7 KC' t1 u4 u5 u6
   go_wp2_with fail
   exact ⟨⟨k + 1, by omega, by go_num, _, unhide HF⟩, by simp [intOf]; omega⟩
  ·obtain rfl : k = n := by omega
   have hlt' : ¬ (k:Int) < (k:Int) := by omega
   have HBW := hide bel
   have HO := hide (And.intro (br.below bel) (And.intro hba (And.intro hB (And.intro (show w.heap.size < wa.heap.size by rw [← hwa]; simp) br.lt))))
   have hne1 : w.heap.size ≠ wa.heap.size := by have := (unhide HO).2.2.2.1; omega
   have hne3 : wa.heap.size ≠ w.heap.size := fun e => hne1 e.symm
   clear br hba bel hwo hwa hB
   go_wp2_with fail
   go_region_held3 (fun w' => w'.cell? ⟨w.heap.size, 0, none⟩ = some (.int .i64 i) ∧ w'.cell? ⟨w.heap.size, 1, none⟩ = some (.slice a k c) ∧ w'.cell? ⟨w.heap.size, 2, none⟩ = some (.slice b m d)) (first | go_keep | (exact ⟨k0, k1, k2⟩))
    ((go_at_call 47; refine (copy_anyI b m d ys _ ((unhide HY).below ((unhide HBW).trans ((Below.refl _ _).drew.mono (unhide HBW).size))) (by omega)).mono ?_; rintro _ wk ⟨cur, rfl, hblk, hsz, hpre, hhs, hbel⟩; have hb_k : Below wr.heap.size wr wk := (Below.refl _ _).drew.trans hbel; have k0 := (hb_k.cell (p := ⟨w.heap.size, 0, none⟩) (World.block_lt_of_cell? _ _ r0)).trans r0; have k1 := (hb_k.cell (p := ⟨w.heap.size, 1, none⟩) (World.block_lt_of_cell? _ _ r1)).trans r1; have k2 := (hb_k.cell (p := ⟨w.heap.size, 2, none⟩) (World.block_lt_of_cell? _ _ r2)).trans r2; have hO := (unhide HO).1.below hb_k; have q0 := (hO.all 0 _ rfl).1; have q1 := (hO.all 1 _ rfl).1; have q2 := (hO.all 2 _ rfl).1; have g0 := (hO.all 0 _ rfl).2; have g1 := (hO.all 1 _ rfl).2; have g2 := (hO.all 2 _ rfl).2; have HS := hide (And.intro (sl_of_ownI (own_of_copyI (unhide HY).len hm hblk hsz hpre)) (And.intro hb_k hO)); clear hblk hsz hpre hhs hbel hb_k hO))
   have H4 := hide (three_set wk wa.heap.size (.int .i64 i) (.slice (some ⟨wo.heap.size, 0, none⟩) k (k + 3)) (.slice (some ⟨wr.heap.size, 0, none⟩) m (m + 3)) (fun j hj => by
    match j, hj with
    | 0, _ => exact ⟨_, q0⟩
    | 1, _ => exact ⟨_, q1⟩
    | 2, _ => exact ⟨_, q2⟩))
   clear q0 q1 q2 g0 g1 g2
   try go_wp2_with fail
   obtain ⟨t0, t1, t2, c4⟩ := unhide H4
   generalize ((wk.setCell ⟨wa.heap.size, 0, none⟩ (.int .i64 i)).setCell ⟨wa.heap.size, 1, none⟩ (.slice (some ⟨wo.heap.size, 0, none⟩) k (k + 3))).setCell ⟨wa.heap.size, 2, none⟩ (.slice (some ⟨wr.heap.size, 0, none⟩) m (m + 3)) = wf at *
   refine bodyPost_ret (by simp [results, Tryz.results21, go_sem, t0, t1, t2]; try rfl) rfl ?_
   obtain ⟨hx, hy, hz, hw, e1⟩ := unhide HO
   obtain ⟨s1, s2, s3⟩ := unhide HS
   have z1 := hx.lt
   have z2 := (unhide HBW).size
   have z3 := hz.size
   refine ⟨wo.heap.size, _, _, qs, rfl, z3, (unhide HC).out hz s2 c4 hy.size e1, s1.chg c4 ?_, ?_⟩
   ·rintro x hx _ e
    cases hx
    have : wr.heap.size = wa.heap.size := e
    omega
   ·intro x hx
    cases hx
    show w.heap.size ≤ wr.heap.size
    omega
theorem chg_then {S T : Nat → Prop} {a b c : World} (h : Chg S a b) (k : Chg T b c) (hs : ∀ k, k < a.heap.size → ¬ S k → ¬ T k) : Chg S a c :=
 ⟨k.os.trans h.os, k.tape.trans h.tape, k.output.trans h.output, Nat.le_trans h.size k.size, fun i hi hS => (k.block i (Nat.lt_of_lt_of_le hi h.size) (hs i hi hS)).trans (h.block i hi hS)⟩
structure RtT (w wr : World) (Q : Nat → Prop) (B : Nat) (f f' : Nat → Value) (A N k : Nat) (es fs : List Ent) (is : List EntI) (ts : List Tn) (os qs : List On) : Prop where
 law : GvT wr B f' (fun j => Q j ∨ j = A) (es ++ fs) is ts
 cnt : fs.length = 2 * k
 chg : Chg (GO B f) w wr
 safe : ∀ j, j < w.heap.size → ¬ GO B f j → ¬ GO B f' j
 fil : FilC 73 wr A (N * 7) (celO qs)
 len : qs.length = k
 con : qs.map conO = (os.take k).map conO
 each : ∀ q ∈ qs, NqL wr q.p
 far : ∀ q ∈ qs, ∀ j, nqB q.p j → ¬ GS B f' (fun j => Q j ∨ j = A) j
 sz : ∀ q ∈ qs, q.p.n ≤ 35184372088000 ∧ q.p.m ≤ 35184372088000
theorem RtT.begin {w : World} {Q : Nat → Prop} {B : Nat} {f : Nat → Value} {es : List Ent} {is : List EntI} {ts : List Tn} (h : GvT w B f Q es is ts) (n : Nat) (os : List On) : RtT w (w.alloc (.cells (madeCells zO ((n + 3) * 7)) 73)) Q B f f w.heap.size (n + 3) 0 es [] is ts os [] :=
 ⟨by simpa using h.fresh _, rfl, Chg.of_alloc _ _, (fun _ _ h => h), FilC.made _ w _ _ (size_madeCells _ _), rfl, by simp, (fun q hq => by cases hq), (fun q hq => by cases hq), (fun q hq => by cases hq)⟩
theorem RtT.next {w wr w1 wk wf : World} {Q : Nat → Prop} {B : Nat} {f f' : Nat → Value} {A N k : Nat} {es fs : List Ent} {is : List EntI} {ts : List Tn} {os qs : List On} {o : On} (h : RtT w wr Q B f f' A N k es fs is ts os qs) (hA : w.heap.size ≤ A) (ho : os[k]? = some o) (hok : Ok o.p.x ∧ Ok o.p.y) (hl : o.p.x.length = o.p.n ∧ o.p.y.length = o.p.m) (hsz : o.p.n ≤ 35184372088000 ∧ o.p.m ≤ 35184372088000)
  (hc1 : Chg (fun j => j = A) wr w1) {v0 v1 : Value} {E1 E2 : Ent} (hP : GrPost w1 wk B (f' 0) (f' 1) v0 v1 (es ++ fs) f' o.p.x o.p.y E1 E2)
  (hf : FilC 73 wk A (N * 7) (celO (qs ++ [o])) → FilC 73 wf A (N * 7) (celO (qs ++ [⟨o.k, o.a, o.b, o.n, ⟨o.p.g, some ⟨E1.b, 0, none⟩, o.p.n, E1.c, o.p.x, some ⟨E2.b, 0, none⟩, o.p.m, E2.c, o.p.y⟩⟩]))) (h7 : FilC 73 w1 A (N * 7) (celO (qs ++ [o]))) (hcf : Chg (fun j => j = A) wk wf) :
  RtT w wf Q B f (upd (upd f' 0 v0) 1 v1) A N (k + 1) es (fs ++ [E1, E2]) is ts os (qs ++ [⟨o.k, o.a, o.b, o.n, ⟨o.p.g, some ⟨E1.b, 0, none⟩, o.p.n, E1.c, o.p.x, some ⟨E2.b, 0, none⟩, o.p.m, E2.c, o.p.y⟩⟩]) := by
 have L1 := h.law.chg hc1 (fun k _ e => .inr e)
 have eA : es ++ fs ++ [E1] ++ [E2] = (es ++ fs) ++ [E1, E2] := by simp
 have G := hP.giv
 rw [eA] at G
 obtain ⟨L2, k1, k2⟩ := L1.ofR G hP.chg hP.safe (fun e he => by
  simp only [List.mem_cons, List.not_mem_nil, or_false] at he
  rcases he with rfl | rfl
  ·exact hP.n1
  ·exact hP.n2)
 have L3 := L2.chg hcf (fun k _ e => .inr e)
 have nA : ¬ GO B f' A := (L1.gv.pd A (.inr rfl)).2
 have zA : A < w1.heap.size := (L1.gv.pd A (.inr rfl)).1
 have z1 := hc1.size
 have z0 := h.chg.size
 have e1 := G.ents E1 (by simp)
 have e2 := G.ents E2 (by simp)
 have s1 : Sl wk (some ⟨E1.b, 0, none⟩) o.p.n E1.c o.p.x := by
  have := e1.sl.pre (n := o.p.n) (by rw [hP.x1]; exact hl.1) (by rfl)
  rw [hP.x1] at this
  exact this
 have s2 : Sl wk (some ⟨E2.b, 0, none⟩) o.p.m E2.c o.p.y := by
  have := e2.sl.pre (n := o.p.m) (by rw [hP.x2]; exact hl.2) (by rfl)
  rw [hP.x2] at this
  exact this
 have g1 := (L2.e E1 (by simp)).2
 have g2 := (L2.e E2 (by simp)).2
 refine ⟨by rw [← List.append_assoc]; exact L3, ?_, ?_, ?_, hf (h7.chg k1 nA), by simp [h.len], ?_, ?_, ?_, ?_⟩
 ·have := h.cnt
  simp
  omega
 ·refine chg_then (chg_then (chg_then h.chg hc1 (fun j hj _ e => by omega)) k1 (fun j hj hn => h.safe j hj hn)) hcf (fun j hj _ e => by omega)
 ·intro j hj hn
  exact k2 j (by omega) (h.safe j hj hn)
 ·rw [List.map_append, h.con, List.take_add_one, ho]
  simp [conO, conQ]
 ·intro q hq
  rcases List.mem_append.1 hq with e | e
  ·have f := h.far q e
   exact (((h.each q e).st hc1 (fun j hj e => f j hj (.inr (.inr e)))).st k1 (fun j hj e => f j hj (.inl e))).st hcf (fun j hj e => f j hj (.inr (.inr e)))
  ·obtain rfl := List.mem_singleton.1 e
   exact ⟨s1.chg hcf (fun z hz _ e => by cases hz; exact g1 _ (.inl rfl) (.inr (.inr e))), s2.chg hcf (fun z hz _ e => by cases hz; exact g2 _ (.inl rfl) (.inr (.inr e))), hok.1, hok.2⟩
 ·intro q hq
  rcases List.mem_append.1 hq with e | e
  ·intro j hj
   have := (h.each q e).lt j hj
   exact gs_safe k2 j (by omega) (h.far q e j hj)
  ·obtain rfl := List.mem_singleton.1 e
   rintro j (⟨z, hz, _, rfl⟩ | ⟨z, hz, _, rfl⟩)
   ·cases hz; exact g1 _ (.inl rfl)
   ·cases hz; exact g2 _ (.inl rfl)
 ·intro q hq
  rcases List.mem_append.1 hq with e | e
  ·exact h.sz q e
  ·obtain rfl := List.mem_singleton.1 e
   exact hsz
def marksO : List On := [⟨0, -41, 0, 0, ⟨false, none, 0, 0, [], none, 0, 0, []⟩⟩, ⟨0, -42, 0, 0, ⟨false, none, 0, 0, [], none, 0, 0, []⟩⟩, ⟨0, -43, 0, 0, ⟨false, none, 0, 0, [], none, 0, 0, []⟩⟩]
theorem Sl.nil0 (w : World) : Sl w none 0 0 [] := ⟨rfl, Nat.le_refl _, Nat.zero_le _, .inl rfl⟩
structure RtM (w w4 : World) (Q : Nat → Prop) (B : Nat) (f f' : Nat → Value) (A N m : Nat) (es' : List Ent) (is : List EntI) (ts : List Tn) (rs : List On) : Prop where
 law : GvT w4 B f' Q es' is ts
 ops : OpsOk w4 A N rs
 len : rs.length = m
 far : ∀ j, opsB A rs j → ¬ GS B f' Q j
 chg : Chg (GO B f) w w4
 safe : ∀ j, j < w.heap.size → ¬ GO B f j → ¬ GO B f' j
 sz : ∀ q ∈ rs, q.p.n ≤ 35184372088000 ∧ q.p.m ≤ 35184372088000
theorem RtT.marks {w wr w3 w4 : World} {Q : Nat → Prop} {B : Nat} {f f' : Nat → Value} {A n : Nat} {es fs : List Ent} {is : List EntI} {ts : List Tn} {os qs : List On} (h : RtT w wr Q B f f' A (n + 3) n es fs is ts os qs) (hA : w.heap.size ≤ A) (hQ : ∀ j, Q j → j < A) (hb : Below wr.heap.size wr w3)
  (hown : w4.ownsRow A 73 7 (.slice (some ⟨A, 0, none⟩) (n + 3) (n + 3)) (n + 3) (celO qs ++ celO marksO)) (hgrow : w3.grownBy w4 (some A)) : RtM w w4 Q B f f' A (n + 3) (n + 3) (es ++ fs) is ts (qs ++ marksO) := by
 have L3 := h.law.below hb
 have k4 : Chg (fun j => j = A) w3 w4 := .of_grown hgrow (fun k hk => (Option.some.inj hk).symm)
 have L4 := L3.chg k4 (fun k _ e => .inr e)
 have z := h.chg.size
 have zb := hb.size
 have nil : nqB ⟨false, none, 0, 0, [], none, 0, 0, []⟩ = fun _ => False := by
  funext j
  refine propext ⟨?_, fun e => e.elim⟩
  rintro (⟨z, hz, _⟩ | ⟨z, hz, _⟩) <;> cases hz
 have mk : ∀ q ∈ marksO, q.p = ⟨false, none, 0, 0, [], none, 0, 0, []⟩ := by
  intro q hq
  simp only [marksO, List.mem_cons, List.not_mem_nil, or_false] at hq
  rcases hq with rfl | rfl | rfl <;> rfl
 refine ⟨L4.mono (fun k e => .inl e), ⟨FilC.of_own (base := A) (n := n + 3) (by rw [celO_app]; exact hown), by simp [h.len, marksO], ?_⟩, by simp [h.len, marksO], ?_, ?_, h.safe, ?_⟩
 ·intro q hq
  rcases List.mem_append.1 hq with e | e
  ·exact ((h.each q e).below hb).st k4 (fun j hj e2 => h.far q e j hj (.inr (.inr e2)))
  ·rw [mk q e]
   exact ⟨Sl.nil0 _, Sl.nil0 _, Ok.nil, Ok.nil⟩
 ·rintro j (rfl | ⟨q, hq, hj⟩)
  ·exact fun e => e.elim (h.law.gv.pd j (.inr rfl)).2 (fun e => by have := hQ j e; omega)
  ·rcases List.mem_append.1 hq with e | e
   ·exact fun e2 => h.far q e j hj (e2.elim .inl (fun e => .inr (.inl e)))
   ·rw [mk q e, nil] at hj
    exact hj.elim
 ·exact chg_then (h.chg.trans (Chg.of_below hb)) k4 (fun j hj _ e => by omega)
 ·intro q hq
  rcases List.mem_append.1 hq with e | e
  ·exact h.sz q e
  ·rw [mk q e]
   exact ⟨by decide, by decide⟩
theorem ops_fin {w4 w5 W w6 w7 : World} {P : Nat → Prop} {B : Nat} {f : Nat → Value} {A N m A0 N0 g2 c2 g3 c3 tl : Nat} {es : List Ent} {is : List EntI} {ts : List Tn} {rs qs : List On} {o1 o2 : Obj} (h : GvT w4 B f P es is ts) (ho : OpsOk w4 A N rs) (hl : rs.length = m) (hfar : ∀ j, opsB A rs j → ¬ GS B f P j) (htl : ts.length = tl)
  (own5 : w5.ownsRow (B + 1) 22 1 (.slice (some ⟨g2, 0, none⟩) (tl + 1) c2) (tl + 1) (ts.map Tn.v ++ [.slice (some ⟨A, 0, none⟩) m N]))
  (grow5 : (w4.alloc o1).grownBy w5 (f 14).ownBlock) (at5 : (f 14).ownBlock = some g2 ∨ g2 = w4.heap.size + 1)
  (HW : w5.setCell ⟨B, 14, none⟩ (.slice (some ⟨g2, 0, none⟩) (tl + 1) c2) = W)
  (b6 : Below W.heap.size W w6) (hA0 : W.heap.size ≤ A0) (fil0 : FilC 73 w6 A0 (N0 * 7) (celO qs)) (len0 : qs.length = m) (le0 : m ≤ N0) (con : qs.map conO = rs.map conO) (each0 : ∀ q ∈ qs, NqL w6 q.p) (far0 : ∀ q ∈ qs, FarN (fun j => j ≤ A0) q.p)
  (own7 : w7.ownsRow (B + 1) 22 1 (.slice (some ⟨g3, 0, none⟩) (tl + 1) c3) (tl + 1) (ts.map Tn.v0 ++ [.slice (some ⟨A0, 0, none⟩) m N0]))
  (grow7 : (w6.alloc o2).grownBy w7 (f 15).ownBlock) (at7 : (f 15).ownBlock = some g3 ∨ g3 = w6.heap.size + 1) :
  ∃ T f2, Tn.b T = A ∧ T.c = N ∧ T.os = rs ∧ GvT (w7.setCell ⟨B, 15, none⟩ (.slice (some ⟨g3, 0, none⟩) (tl + 1) c3)) B f2 P es is (ts ++ [T]) ∧ Chg (GO B f) w4 (w7.setCell ⟨B, 15, none⟩ (.slice (some ⟨g3, 0, none⟩) (tl + 1) c3)) ∧ ∀ k, k < w4.heap.size → ¬ GO B f k → ¬ GO B f2 k := by
 obtain ⟨wf, hwf⟩ : ∃ x, w7.setCell ⟨B, 15, none⟩ (.slice (some ⟨g3, 0, none⟩) (tl + 1) c3) = x := ⟨_, rfl⟩
 rw [hwf]
 obtain ⟨G1, k1, s1⟩ := h.gv.row (i := 14) (g := g2) (m := tl) (c := c2) (x := .slice (some ⟨A, 0, none⟩) m N) (by omega) (by simp [rowT, htl]) grow5 (by simpa [tyG, rowT] using own5) at5 HW
 have G2 := G1.below b6
 have e15 : upd f 14 (.slice (some ⟨g2, 0, none⟩) (tl + 1) c2) 15 = f 15 := upd_ne _ _ (by omega)
 obtain ⟨G3, k3, s3⟩ := G2.row (i := 15) (g := g3) (m := tl) (c := c3) (x := .slice (some ⟨A0, 0, none⟩) m N0) (by omega) (by rw [upd_ne _ _ (by omega)]; simp [rowT, htl]) (by rw [e15]; exact grow7) (by rw [upd_ne _ _ (by omega)]; simpa [tyG, rowT] using own7) (by rw [e15]; exact at7) hwf
 rw [e15] at k3
 have sub1 : ∀ k, (k = B ∨ (f 14).ownBlock = some k) → GO B f k := fun k e => e.elim .inl (fun e => .inr ⟨14, by omega, e⟩)
 have sub3 : ∀ k, (k = B ∨ (f 15).ownBlock = some k) → GO B f k := fun k e => e.elim .inl (fun e => .inr ⟨15, by omega, e⟩)
 have C1 : Chg (GO B f) w4 W := k1.mono (fun k _ e => sub1 k e)
 have C3 : Chg (GO B f) w6 wf := k3.mono (fun k _ e => sub3 k e)
 have C : Chg (GO B f) w4 wf := (C1.trans (Chg.of_below b6)).trans C3
 have z1 := C1.size
 have z6 := b6.size
 have S : ∀ k, k < w4.heap.size → ¬ GO B f k → ¬ GO B (upd (upd f 14 (.slice (some ⟨g2, 0, none⟩) (tl + 1) c2)) 15 (.slice (some ⟨g3, 0, none⟩) (tl + 1) c3)) k := fun k hk hn => s3 k (by omega) (s1 k hk hn)
 have eR : upd (upd (rowT es is ts) 14 (rowT es is ts 14 ++ [.slice (some ⟨A, 0, none⟩) m N])) 15 (upd (rowT es is ts) 14 (rowT es is ts 14 ++ [.slice (some ⟨A, 0, none⟩) m N]) 15 ++ [.slice (some ⟨A0, 0, none⟩) m N0]) = rowT es is (ts ++ [⟨A, N, rs, A0, N0, qs⟩]) := by
  funext q
  by_cases q15 : q = 15
  ·subst q15; rw [upd_same, upd_ne _ _ (by omega)]; simp [rowT, Tn.v0, len0]
  ·rw [upd_ne _ _ q15]
   by_cases q14 : q = 14
   ·subst q14; rw [upd_same]; simp [rowT, Tn.v, hl]
   ·rw [upd_ne _ _ q14]
    unfold rowT
    match q with
    | 14 => omega
    | 15 => omega
    | 0 | 1 | 2 | 3 | 4 | 5 | 6 | 7 | 8 | 9 | 10 | 11 | 12 | 13 => rfl
    | n + 16 => rfl
 rw [eR] at G3
 have t1 : ∀ k, k < w4.heap.size → ¬ GS B f P k → ¬ GO B f k := fun k _ hn e => hn (.inl e)
 have t2 := gs_safe (P := P) S
 refine ⟨⟨A, N, rs, A0, N0, qs⟩, _, rfl, rfl, rfl, ⟨G3, fun x hx => Fp.step (h.e x hx) C t1 t2, fun x hx => Fp.step (h.i x hx) C t1 t2, fun x hx => ?_⟩, C, S⟩
 rcases List.mem_append.1 hx with e | e
 ·exact Fp.step (h.t x e) C t1 t2
 ·obtain rfl := List.mem_singleton.1 e
  have GOlt : ∀ k, GO B f k → k < W.heap.size := fun k hk => Nat.lt_of_lt_of_le (h.gv.go_lt hk) z1
  have nW : ∀ k, opsB A0 qs k → W.heap.size ≤ k := by
   rintro k (rfl | ⟨q, hq, hk⟩)
   ·exact hA0
   ·have := (far0 q hq).to k hk
    have : ¬ k ≤ A0 := this
    omega
  have O6 : OpsOk w6 A0 N0 qs := ⟨fil0, by omega, each0⟩
  refine ⟨⟨⟨ho.st C (fun k hk e => hfar k hk (.inl e)), O6.st C3 (fun k hk e => by have := GOlt k e; have := nW k hk; omega)⟩, con.symm⟩, ?_⟩
  rintro k (hk | hk)
  ·exact t2 k (ho.lt k hk) (hfar k hk)
  ·rintro (e | e)
   ·have h1 := nW k hk
    have h2 : ¬ GO B (upd f 14 (.slice (some ⟨g2, 0, none⟩) (tl + 1) c2)) k := by
     intro e2
     have := G1.go_lt e2
     omega
    exact s3 k (O6.lt k hk) h2 e
   ·have := (h.gv.pd k e).1
    have := nW k hk
    omega
end Go.Proofs.YtbbicappjicblaaGreatDoor
