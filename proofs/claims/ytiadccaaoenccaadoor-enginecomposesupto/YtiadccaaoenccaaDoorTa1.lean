/- Rv5 -/
import Derived.Test.YtiadccaaoenccaaDoorSi1
import Derived.Test.YtiadccaaoenccaaDoorTa0
namespace Go.Proofs.YtiadccaaoenccaaDoor
open Go.RowKit Go.Deep
set_option linter.unusedVariables false
theorem made_first (n : Nat) : ∃ b, (madeCells #[.bool false, .slice none 0 0, .slice none 0 0] ((n + 3) * 3))[0]? = some (.bool b) := ⟨false, by simp [madeCells]⟩
theorem FilQ.made (w : World) (n : Nat) : FilQ (w.alloc (.cells (madeCells #[.bool false, .slice none 0 0, .slice none 0 0] ((n + 3) * 3)) 52)) w.heap.size (n + 3) [] :=
  FilQ.begin w (n + 3) _ (size_madeCells _ _) (made_first n)

structure CpQ (w wr : World) (n k : Nat) (ps qs : List Nq) : Prop where
  fil : FilQ wr w.heap.size (n + 3) qs
  len : qs.length = k
  con : qs.map conQ = (ps.take k).map conQ
  far : FarQ (fun j => j ≤ w.heap.size) qs
  bel : Below w.heap.size w wr
theorem CpQ.next {w wr wk : World} {n k : Nat} {ps qs : List Nq} (h : CpQ w wr n k ps qs) (hk : k < n) {p : Nq} (hp : ps[k]? = some p) (ho : Ok p.x ∧ Ok p.y) {a1 a2 : Option Addr} {m1 c1 m2 c2 : Nat}
    (hN : Sl wk a1 m1 c1 p.x ∧ Sl wk a2 m2 c2 p.y ∧ NewAt wr.heap.size a1 ∧ NewAt wr.heap.size a2 ∧ Below wr.heap.size wr wk) :
    CpQ w (((wk.setCell ⟨w.heap.size, k * 3, none⟩ (.bool p.g)).setCell ⟨w.heap.size, k * 3 + 1, none⟩ (.slice a1 m1 c1)).setCell ⟨w.heap.size, k * 3 + 2, none⟩ (.slice a2 m2 c2)) n (k + 1) ps (qs ++ [⟨p.g, a1, m1, c1, p.x, a2, m2, c2, p.y⟩]) := by
  obtain ⟨s1, s2, n1, n2, b⟩ := hN
  have hlt := h.fil.lt
  have hlen := h.len
  have hfar : FarQ (fun j => j ≤ w.heap.size) (qs ++ [⟨p.g, a1, m1, c1, p.x, a2, m2, c2, p.y⟩]) := by
    intro q hq
    rcases List.mem_append.1 hq with e | e
    · exact h.far q e
    · obtain rfl := List.mem_singleton.1 e
      exact ⟨fun z hz _ hl => by have := n1 z hz; omega, fun z hz _ hl => by have := n2 z hz; omega⟩
  obtain ⟨f1, f2⟩ := (h.fil.below b).next (by omega) ⟨p.g, a1, m1, c1, p.x, a2, m2, c2, p.y⟩ ⟨⟨s1, s2⟩, ho⟩ (fun q hq => ⟨fun z hz hne e => (hfar q hq).1 z hz hne (Nat.le_of_eq e), fun z hz hne e => (hfar q hq).2 z hz hne (Nat.le_of_eq e)⟩) h.len
  have hb := h.bel.trans (b.mono h.bel.size)
  refine ⟨f1, by simp [h.len], ?_, hfar, hb.trans (f2.below hb.size (fun j hj e => by omega))⟩
  rw [List.map_append, h.con, List.take_add_one, hp]
  simp [conQ]
theorem Tryd.info_op : (Tryd.prog.info? 54).map (fun i => (i.zero, i.size, i.bytes)) = some (some (.agg #[.int .i64 0, .int .i64 0, .int .i64 0, .int .i64 0, .bool false, .slice none 0 0, .slice none 0 0]), 7, 88) := by kernel_rfl
def zO : Array Value := #[.int .i64 0, .int .i64 0, .int .i64 0, .int .i64 0, .bool false, .slice none 0 0, .slice none 0 0]
theorem make_ops (n : Nat) (hn : n ≤ 1599289641000) (w : World) : (Instr.makeSlice 22 (.int .i64 (n : Int)) (.int .i64 ((n : Int) + 3))).run Tryd.prog w = .ok (.slice (some ⟨w.heap.size, 0, none⟩) n (n + 3)) (w.alloc (.cells (madeCells zO ((n + 3) * 7)) 54)) := by
  obtain ⟨i, hi, hzz⟩ := Option.map_eq_some_iff.1 Tryd.info_op
  simp only [Prod.mk.injEq] at hzz
  obtain ⟨hz, hs, hb⟩ := hzz
  have hr := run_make (P := Tryd.prog) w 22 54 i _ Tryd.underlying22 hi hz .i64 .i64 n ((n : Int) + 3) (by omega) (by omega) (by rw [hb]; omega) (by omega)
  rw [hs, show ((n : Int) + 3).toNat = n + 3 from by omega, show ((n : Int)).toNat = n from by omega] at hr
  exact hr
structure CpT (w wr : World) (A N k : Nat) (os qs : List On) : Prop where
  fil : FilC 54 wr A (N * 7) (celO qs)
  len : qs.length = k
  con : qs.map conO = (os.take k).map conO
  each : ∀ q ∈ qs, NqL wr q.p
  far : ∀ q ∈ qs, FarN (fun j => j ≤ A) q.p
  bel : Below w.heap.size w wr
  sz : ∀ q ∈ qs, q.p.n ≤ 35184372088000 ∧ q.p.m ≤ 35184372088000
theorem CpT.begin (w : World) (n : Nat) (os : List On) : CpT w (w.alloc (.cells (madeCells zO ((n + 3) * 7)) 54)) w.heap.size (n + 3) 0 os [] :=
  ⟨FilC.made _ w _ _ (size_madeCells _ _), rfl, by simp, (fun q hq => by cases hq), (fun q hq => by cases hq), (Below.refl _ _).alloc (Nat.le_refl _) _, (fun q hq => by cases hq)⟩
theorem CpT.next {w wr w1 wk wf : World} {A N k : Nat} {os qs : List On} {o : On} (h : CpT w wr A N k os qs) (hA : w.heap.size ≤ A) (ho : os[k]? = some o) (hok : Ok o.p.x ∧ Ok o.p.y) (hsz : o.p.n ≤ 35184372088000 ∧ o.p.m ≤ 35184372088000)
    (hc1 : Chg (fun j => j = A) wr w1) {a1 a2 : Option Addr} {d1 d2 : Nat} (s1 : Sl wk a1 o.p.n d1 o.p.x) (s2 : Sl wk a2 o.p.m d2 o.p.y) (n1 : NewAt w1.heap.size a1) (n2 : NewAt w1.heap.size a2) (b1 : Below w1.heap.size w1 wk)
    (hf : FilC 54 wf A (N * 7) (celO (qs ++ [⟨o.k, o.a, o.b, o.n, ⟨o.p.g, a1, o.p.n, d1, o.p.x, a2, o.p.m, d2, o.p.y⟩⟩]))) (hcf : Chg (fun j => j = A) wk wf) :
    CpT w wf A N (k + 1) os (qs ++ [⟨o.k, o.a, o.b, o.n, ⟨o.p.g, a1, o.p.n, d1, o.p.x, a2, o.p.m, d2, o.p.y⟩⟩]) := by
  have hlt := h.fil.lt
  have z1 := hc1.size
  have z2 := h.bel.size
  have nA1 : ∀ z, a1 = some z → ¬ z.block ≤ A := fun z hz => by have := n1 z hz; omega
  have nA2 : ∀ z, a2 = some z → ¬ z.block ≤ A := fun z hz => by have := n2 z hz; omega
  refine ⟨hf, by simp [h.len], ?_, ?_, ?_, ?_, ?_⟩
  · rw [List.map_append, h.con, List.take_add_one, ho]
    simp [conO, conQ]
  · intro q hq
    rcases List.mem_append.1 hq with e | e
    · have f := h.far q e
      have fA : FarN (fun j => j = A) q.p := ⟨fun z hz hne e2 => f.x z hz hne (Nat.le_of_eq e2), fun z hz hne e2 => f.y z hz hne (Nat.le_of_eq e2)⟩
      exact ((((h.each q e).chg hc1 fA).below b1).chg hcf fA)
    · obtain rfl := List.mem_singleton.1 e
      exact ⟨s1.chg hcf (fun z hz _ e2 => nA1 z hz (Nat.le_of_eq e2)), s2.chg hcf (fun z hz _ e2 => nA2 z hz (Nat.le_of_eq e2)), hok.1, hok.2⟩
  · intro q hq
    rcases List.mem_append.1 hq with e | e
    · exact h.far q e
    · obtain rfl := List.mem_singleton.1 e
      exact ⟨fun z hz _ => nA1 z hz, fun z hz _ => nA2 z hz⟩
  · exact ((h.bel.trans (hc1.below z2 (fun k hk e => by omega))).trans (b1.mono (by omega))).trans (hcf.below (by have := b1.size; omega) (fun k hk e => by omega))
  · intro q hq
    rcases List.mem_append.1 hq with e | e
    · exact h.sz q e
    · obtain rfl := List.mem_singleton.1 e
      exact hsz

theorem CpT.out {w wo wr wk wf : World} {A N k X : Nat} {os qs : List On} (h : CpT wo wr A N k os qs) (hB : Below w.heap.size w wo) (hk : Below wr.heap.size wr wk) (hc : Chg (fun j => j = X) wk wf) (h1 : w.heap.size ≤ X) (h2 : X < A) : CpT w wf A N k os qs := by
  have hlt := h.fil.lt
  have z := h.bel.size
  have zk := hk.size
  have fX : ∀ q ∈ qs, FarN (fun j => j = X) q.p := fun q hq => ⟨fun z hz hne e => (h.far q hq).x z hz hne (by show z.block ≤ A; omega), fun z hz hne e => (h.far q hq).y z hz hne (by show z.block ≤ A; omega)⟩
  refine ⟨(h.fil.below hk).chg hc (by omega), h.len, h.con, fun q hq => ((h.each q hq).below hk).chg hc (fX q hq), h.far, ?_, h.sz⟩
  have z0 := hB.size
  exact ((hB.trans (h.bel.mono z0)).trans (hk.mono (by omega))).trans (hc.below (by omega) (fun j hj e => by omega))
set_option maxRecDepth 100000 in
set_option maxHeartbeats 16000000 in
theorem copyTape_any (i : Int) (a : Option Addr) (n c : Nat) (os : List On) (b : Option Addr) (m d : Nat) (ys : List Int) (w : World) (hs : SlO w a n c os) (hy : SlI w b m d ys) (hn : n ≤ 1599289641000) (hm : m ≤ 17592186044000) (hz : ∀ o ∈ os, o.p.n ≤ 35184372088000 ∧ o.p.m ≤ 35184372088000) :
    Calls Tryd.prog 11 #[tapV i a n c b m d] w fun e w' => ∃ A b' d' qs, e = .returned (tapV i (some ⟨A, 0, none⟩) n (n + 3) b' m d') ∧ w.heap.size ≤ A ∧ CpT w w' A (n + 3) n os qs ∧ (SlI w' b' m d' ys ∧ NewAt w.heap.size b') := by
  have hmk := make_ops n hn
  obtain ⟨wa, hwa⟩ : ∃ x, w.alloc (.cells #[.int .i64 i, .slice a n c, .slice b m d] 25) = x := ⟨_, rfl⟩
  have bx : BoxP wa w.heap.size [.int .i64 i, .slice a n c, .slice b m d] := by rw [← hwa]; exact BoxP.made _ _ _
  have hba : Below w.heap.size w wa := by rw [← hwa]; exact (Below.refl _ _).alloc (Nat.le_refl _) _
  obtain ⟨wo, hwo⟩ : ∃ x, wa.alloc (.cells #[.int .i64 0, .slice none 0 0, .slice none 0 0] 25) = x := ⟨_, rfl⟩
  have br : BoxP wo wa.heap.size [.int .i64 0, .slice none 0 0, .slice none 0 0] := by rw [← hwo]; exact BoxP.made _ _ _
  have hbo : Below wa.heap.size wa wo := by rw [← hwo]; exact (Below.refl _ _).alloc (Nat.le_refl _) _
  have bx2 := bx.below hbo
  have hB := hba.trans (hbo.mono hba.size)
  have H := hide (hs.below hB)
  have HY := hide (hy.below hB)
  have HZ := hide hz
  clear hs hy hz bx
  unfold tapV
  go_enter Tryd.func11, Tryd.ntmps11
  have p0 := (bx2.all 0 _ rfl).1
  have p1 := (bx2.all 1 _ rfl).1
  have p2 := (bx2.all 2 _ rfl).1
  clear bx2 hbo
  go_wp2_with fail
  go_loopw [4] (fun iv wr => ∃ k : Nat, k ≤ n ∧ iv = .int .i64 k ∧ ∃ qs, Hid (CpT wo wr wo.heap.size (n + 3) k os qs)) (fun iv _ => n - (intOf iv).toNat)
  case atStart => exact ⟨0, Nat.zero_le _, rfl, [], CpT.begin wo n os⟩
  case round =>
    obtain ⟨k, hk, rfl, qs, HC⟩ := hrel
    have bel := (unhide HC).bel
    have r0 := (bel.cell (p := ⟨w.heap.size, 0, none⟩) (World.block_lt_of_cell? _ _ p0)).trans p0
    have r1 := (bel.cell (p := ⟨w.heap.size, 1, none⟩) (World.block_lt_of_cell? _ _ p1)).trans p1
    have r2 := (bel.cell (p := ⟨w.heap.size, 2, none⟩) (World.block_lt_of_cell? _ _ p2)).trans p2
    by_cases hlt : k < n
    · have hlt' : (k:Int) < (n:Int) := by omega
      obtain ⟨b', off, o, rfl, ho, O, hok⟩ := ((unhide H).below bel).at' hlt
      have hnb : b' ≠ wo.heap.size := by
        obtain ⟨b2, off2, o2, e2, _, O2, _⟩ := (unhide H).at' hlt
        cases e2
        have : b' < wo.heap.size := World.block_lt_of_cell? _ _ O2.c0
        omega
      obtain ⟨c0, c1, c2, c3, c4, c5, c6⟩ := O
      obtain ⟨⟨x0, q0⟩, f0⟩ := (unhide HC).fil.cellsAt (j := k * 7) (by omega)
      obtain ⟨⟨x1, q1⟩, f1⟩ := (unhide HC).fil.cellsAt (j := k * 7 + 1) (by omega)
      obtain ⟨⟨x2, q2⟩, f2⟩ := (unhide HC).fil.cellsAt (j := k * 7 + 2) (by omega)
      obtain ⟨⟨x3, q3⟩, f3⟩ := (unhide HC).fil.cellsAt (j := k * 7 + 3) (by omega)
      obtain ⟨⟨x4, q4⟩, f4⟩ := (unhide HC).fil.cellsAt (j := k * 7 + 4) (by omega)
      obtain ⟨⟨x5, q5⟩, f5⟩ := (unhide HC).fil.cellsAt (j := k * 7 + 5) (by omega)
      obtain ⟨⟨x6, q6⟩, f6⟩ := (unhide HC).fil.cellsAt (j := k * 7 + 6) (by omega)
      have HO := hide (And.intro ho hok)
      clear ho hok bel hwo br hba
      repeat ((fail_if_success (with_reducible (show Code.wp _ _ _ _ (World.setCell _ ⟨_, k * 7 + 6, none⟩ _)))); (first | go_values | go_skip | go_guarded | go_step | go_upon | go_back))
      have S7 := (unhide HC).fil.seven (unhide HC).len (by omega) o
      have HT := hide (fun (w1 wk wf : World) (hc1 : Chg (fun j => j = wo.heap.size) wr w1) (a1 a2 : Option Addr) (d1 d2 : Nat) (s1 : Sl wk a1 o.p.n d1 o.p.x) (s2 : Sl wk a2 o.p.m d2 o.p.y) (n1 : NewAt w1.heap.size a1) (n2 : NewAt w1.heap.size a2) (b1 : Below w1.heap.size w1 wk) (hf : FilC 54 wf wo.heap.size ((n + 3) * 7) (celO (qs ++ [⟨o.k, o.a, o.b, o.n, ⟨o.p.g, a1, o.p.n, d1, o.p.x, a2, o.p.m, d2, o.p.y⟩⟩]))) (hcf : Chg (fun j => j = wo.heap.size) wk wf) => (unhide HC).next (Nat.le_refl _) (unhide HO).1 ⟨(unhide HO).2.ox, (unhide HO).2.oy⟩ (unhide HZ o (List.mem_of_getElem? (unhide HO).1)) hc1 s1 s2 n1 n2 b1 hf hcf)
      have HL := hide (unhide HC).len
      generalize (((((((wr.setCell ⟨wo.heap.size, k * 7, none⟩ (.int .i64 o.k)).setCell ⟨wo.heap.size, k * 7 + 1, none⟩ (.int .i64 o.a)).setCell ⟨wo.heap.size, k * 7 + 2, none⟩ (.int .i64 o.b)).setCell ⟨wo.heap.size, k * 7 + 3, none⟩ (.int .i64 o.n)).setCell ⟨wo.heap.size, k * 7 + 4, none⟩ (.bool o.p.g)).setCell ⟨wo.heap.size, k * 7 + 5, none⟩ (.slice o.p.a o.p.n o.p.c)).setCell ⟨wo.heap.size, k * 7 + 6, none⟩ (.slice o.p.b o.p.m o.p.d)) = w1 at *
      obtain ⟨F7, C7⟩ := S7
      have hne : w.heap.size ≠ wo.heap.size := by have : w.heap.size < wo.heap.size := World.block_lt_of_cell? _ _ p0; omega
      have t1 := C7.cell hne r1
      have u4 := C7.cell hnb c4
      have u5 := C7.cell hnb c5
      have u6 := C7.cell hnb c6
      have hfar : FarN (fun j => j = wo.heap.size) o.p := by
        have ok := (unhide H).each o (List.mem_of_getElem? (unhide HO).1)
        exact ⟨fun z hz hx e => by have := ok.x.block_lt hx z hz; omega, fun z hz hx e => by have := ok.y.block_lt hx z hz; omega⟩
      have KC := copyRat_any o.p.g o.p.a o.p.b o.p.n o.p.c o.p.m o.p.d o.p.x o.p.y w1 ((unhide HO).2.chg C7 hfar).x ((unhide HO).2.chg C7 hfar).y (unhide HZ o (List.mem_of_getElem? (unhide HO).1)).1 (unhide HZ o (List.mem_of_getElem? (unhide HO).1)).2
      unfold ratV at KC
      have KC' := hide KC
      have HLn := hide (And.intro (unhide HO).2.x.len (unhide HO).2.y.len)
      have HF7 := hide F7
      have HC7 := hide C7
      clear KC F7 C7 c0 c1 c2 c3 c4 c5 c6 q0 q1 q2 q3 q4 q5 q6 f0 f1 f2 f3 f4 f5 f6 hfar r0 r1 r2 HO HC
      go_wp2_with fail
      refine (unhide KC').mono ?_
      rintro _ wk ⟨v, rfl, a1, m1, d1, a2, m2, d2, rfl, s1, s2, n1, n2, b1⟩
      obtain rfl : o.p.n = m1 := by have := s1.len; have := (unhide HLn).1; omega
      obtain rfl : o.p.m = m2 := by have := s2.len; have := (unhide HLn).2; omega
      unfold ratV
      have F8 := (unhide HF7).below b1
      obtain ⟨⟨x4, q4⟩, f4⟩ := F8.cellsAt (j := k * 7 + 4) (by omega)
      obtain ⟨⟨x5, q5⟩, f5⟩ := F8.cellsAt (j := k * 7 + 5) (by omega)
      obtain ⟨⟨x6, q6⟩, f6⟩ := F8.cellsAt (j := k * 7 + 6) (by omega)
      have S3 := F8.three (unhide HL) (by omega) o.p.g a1 a2 o.p.n d1 o.p.m d2 o.p.x o.p.y
      have HF := hide (unhide HT w1 wk _ (unhide HC7) a1 a2 d1 d2 s1 s2 n1 n2 b1 S3.1 S3.2)
      clear S3 F8 s1 s2 n1 n2 b1 HT HF7 HC7 KC' t1 u4 u5 u6
      go_wp2_with fail
      exact ⟨⟨k + 1, by omega, by go_num, _, unhide HF⟩, by simp [intOf]; omega⟩
    · obtain rfl : k = n := by omega
      have hlt' : ¬ (k:Int) < (k:Int) := by omega
      have HBW := hide bel
      have HO := hide (And.intro (br.below bel) (And.intro hba (And.intro hB (And.intro (show w.heap.size < wa.heap.size by rw [← hwa]; simp) br.lt))))
      have hne1 : w.heap.size ≠ wa.heap.size := by have := (unhide HO).2.2.2.1; omega
      have hne3 : wa.heap.size ≠ w.heap.size := fun e => hne1 e.symm
      clear br hba bel hwo hwa hB
      go_wp2_with fail
      go_region_held3 (fun w' => w'.cell? ⟨w.heap.size, 0, none⟩ = some (.int .i64 i) ∧ w'.cell? ⟨w.heap.size, 1, none⟩ = some (.slice a k c) ∧ w'.cell? ⟨w.heap.size, 2, none⟩ = some (.slice b m d)) (first | go_keep | (exact ⟨k0, k1, k2⟩))
        ((go_at_call 26; refine (copy_anyI b m d ys _ ((unhide HY).below ((unhide HBW).trans ((Below.refl _ _).drew.mono (unhide HBW).size))) (by omega)).mono ?_; rintro _ wk ⟨cur, rfl, hblk, hsz, hpre, hhs, hbel⟩; have hb_k : Below wr.heap.size wr wk := (Below.refl _ _).drew.trans hbel; have k0 := (hb_k.cell (p := ⟨w.heap.size, 0, none⟩) (World.block_lt_of_cell? _ _ r0)).trans r0; have k1 := (hb_k.cell (p := ⟨w.heap.size, 1, none⟩) (World.block_lt_of_cell? _ _ r1)).trans r1; have k2 := (hb_k.cell (p := ⟨w.heap.size, 2, none⟩) (World.block_lt_of_cell? _ _ r2)).trans r2; have hO := (unhide HO).1.below hb_k; have q0 := (hO.all 0 _ rfl).1; have q1 := (hO.all 1 _ rfl).1; have q2 := (hO.all 2 _ rfl).1; have g0 := (hO.all 0 _ rfl).2; have g1 := (hO.all 1 _ rfl).2; have g2 := (hO.all 2 _ rfl).2; have HS := hide (And.intro (sl_of_ownI (own_of_copyI (unhide HY).len hm hblk hsz hpre)) (And.intro hb_k hO)); clear hblk hsz hpre hhs hbel hb_k hO))
      have H4 := hide (three_set wk wa.heap.size (.int .i64 i) (.slice (some ⟨wo.heap.size, 0, none⟩) k (k + 3)) (.slice (some ⟨wr.heap.size, 0, none⟩) m (m + 3)) (fun j hj => by
        match j, hj with
        | 0, _ => exact ⟨_, q0⟩
        | 1, _ => exact ⟨_, q1⟩
        | 2, _ => exact ⟨_, q2⟩))
      clear q0 q1 q2 g0 g1 g2
      try go_wp2_with fail
      obtain ⟨t0, t1, t2, c4⟩ := unhide H4
      generalize ((wk.setCell ⟨wa.heap.size, 0, none⟩ (.int .i64 i)).setCell ⟨wa.heap.size, 1, none⟩ (.slice (some ⟨wo.heap.size, 0, none⟩) k (k + 3))).setCell ⟨wa.heap.size, 2, none⟩ (.slice (some ⟨wr.heap.size, 0, none⟩) m (m + 3)) = wf at *
      refine bodyPost_ret (by simp [results, Tryd.results11, go_sem, t0, t1, t2]; try rfl) rfl ?_
      obtain ⟨hx, hy, hz, hw, e1⟩ := unhide HO
      obtain ⟨s1, s2, s3⟩ := unhide HS
      have z1 := hx.lt
      have z2 := (unhide HBW).size
      have z3 := hz.size
      refine ⟨wo.heap.size, _, _, qs, rfl, z3, (unhide HC).out hz s2 c4 hy.size e1, s1.chg c4 ?_, ?_⟩
      · rintro x hx _ e
        cases hx
        have : wr.heap.size = wa.heap.size := e
        omega
      · intro x hx
        cases hx
        show w.heap.size ≤ wr.heap.size
        omega
end Go.Proofs.YtiadccaaoenccaaDoor
