/- Tb2 -/
import Derived.Test.YtiadccaaoenccaaDoorTb1
import Derived.Deep.AppendLies
import Derived.Deep.RegionLaw
import Derived.Deep.DeepMust
namespace Go.Proofs.YtiadccaaoenccaaDoor
open Go.RowKit Go.Deep
set_option linter.unusedVariables false
theorem after_copyT {W w5 : World} {B n : Nat} {v1 : Value} {xs : List Value} (q7 : B < W.heap.size) (q5 : W.cell? ⟨B, 15, none⟩ = some v1) (q6 : W.frozen? ⟨B, 15, none⟩ = false) (ho : W.ownsRow (B + 1) 22 1 v1 n xs)
    (hb : Below W.heap.size W.drew w5) : w5.ownsRow (B + 1) 22 1 v1 n xs ∧ w5.cell? ⟨B, 15, none⟩ = some v1 ∧ w5.frozen? ⟨B, 15, none⟩ = false ∧ B < w5.heap.size := by
  have hb' : Below W.heap.size W w5 := (Below.drew (Below.refl _ _)).trans hb
  exact ⟨ownsRow_chg ho (.of_below (S := fun _ => False) hb') (fun _ _ => id), (hb'.cell q7).trans q5, (hb'.frozen q7).trans q6, Nat.lt_of_lt_of_le q7 hb'.size⟩
theorem after_appendT {w5 w6 : World} {B n : Nat} {v1 : Value} {xs : List Value} {o : Obj} (q7 : B < w5.heap.size) (q5 : w5.cell? ⟨B, 15, none⟩ = some v1) (q6 : w5.frozen? ⟨B, 15, none⟩ = false) (ho : w5.ownsRow (B + 1) 22 1 v1 n xs)
    (hg : (w5.alloc o).grownBy w6 v1.ownBlock) : w6.cell? ⟨B, 15, none⟩ = some v1 ∧ w6.frozen? ⟨B, 15, none⟩ = false := by
  have n0 : some B ≠ v1.ownBlock := fun e => by have := (own_ge ho B e.symm).1; omega
  have r1 := grown_frozen hg (b := B) (i := 15) (by simp; omega) n0
  exact ⟨by rw [r1.1, World.cell?_alloc_lt _ _ _ (by exact q7)]; exact q5, by rw [r1.2, World.frozen?_alloc_old _ _ _ (by simp; omega)]; exact q6⟩
theorem copyTape_agg (a : Option Addr) (n c : Nat) (os : List On) (w : World) (hs : SlO w a n c os) (hn : n ≤ 1599289641000) (hz : ∀ o ∈ os, o.p.n ≤ 35184372088000 ∧ o.p.m ≤ 35184372088000) :
    Calls Tryd.prog 11 #[.agg #[.int .i64 0, .slice a n c, .slice none 0 0]] w fun e w' => ∃ A b' d' qs, e = .returned (.agg #[.int .i64 0, .slice (some ⟨A, 0, none⟩) n (n + 3), .slice b' 0 d']) ∧ w.heap.size ≤ A ∧ CpT w w' A (n + 3) n os qs := by
  have h := copyTape_any 0 a n c os none 0 0 [] w hs (SlI.nil _) hn (by omega) hz
  unfold tapV at h
  refine h.mono ?_
  rintro e w' ⟨A, b', d', qs, h1, h2, h3, _⟩
  exact ⟨A, b', d', qs, h1, h2, h3⟩
theorem run_fieldT (x y z : Value) (w : World) : Sem.run Tryd.prog (Instr.field 25 (.agg #[x, y, z]) 1) w = .ok y w := by kernel_rfl
theorem Tryd.info_ops : (Tryd.prog.info? 22).map (fun i => (i.zero, i.size, i.bytes)) = some (some (.slice none 0 0), 1, 24) := by kernel_rfl
set_option maxRecDepth 100000 in
set_option maxHeartbeats 32000000 in
theorem gtape_any {w w0 : World} {B : Nat} {f : Nat → Value} {es : List Ent} {is : List EntI} {ts : List Tn} (hL : GvT w B f (fun _ => False) es is ts) (h0 : Below w0.heap.size w0 w) (hB0 : w0.heap.size ≤ B) (i : Int) (a : Option Addr) (n c : Nat) (os : List On) (b : Option Addr) (m d : Nat) (ys : List Int) (hs : SlO w0 a n c os) (hy : SlI w0 b m d ys) (hn : n ≤ 1599289640500) (hm : m ≤ 17592186044000) (hz : ∀ o ∈ os, o.p.n ≤ 35184372088000 ∧ o.p.m ≤ 35184372088000) (he : es.length + 2 * n ≤ 5700000000000) (hi : is.length ≤ 5800000000000) (ht : ts.length ≤ 1000) :
    Calls Tryd.prog 5 #[.pointer (some ⟨B, 0, none⟩), tapV i a n c b m d] w fun e w' => ∃ T E f' fs, e = .returned (tapV i (some ⟨Tn.b T, 0, none⟩) n T.c (some ⟨EntI.b E, 0, none⟩) m E.c) ∧ E.xs = ys ∧ T.os.length = n + 3 ∧ (T.os.take n).map conO = os.map conO ∧ List.length fs = 2 * n ∧ GvT w' B f' (fun _ => False) (es ++ fs) (is ++ [E]) (ts ++ [T]) ∧ Chg (GO B f) w w' := by
  have hmk := make_ops n (by omega)
  obtain ⟨wa, hwa⟩ : ∃ x, w.alloc (.cells #[.int .i64 i, .slice a n c, .slice b m d] 25) = x := ⟨_, rfl⟩
  have bx : BoxP wa w.heap.size [.int .i64 i, .slice a n c, .slice b m d] := by rw [← hwa]; exact BoxP.made _ _ _
  have hba : Below w.heap.size w wa := by rw [← hwa]; exact (Below.refl _ _).alloc (Nat.le_refl _) _
  obtain ⟨wo, hwo⟩ : ∃ x, wa.alloc (.cells #[.int .i64 0, .slice none 0 0, .slice none 0 0] 25) = x := ⟨_, rfl⟩
  have br : BoxP wo wa.heap.size [.int .i64 0, .slice none 0 0, .slice none 0 0] := by rw [← hwo]; exact BoxP.made _ _ _
  have hbo : Below wa.heap.size wa wo := by rw [← hwo]; exact (Below.refl _ _).alloc (Nat.le_refl _) _
  have bx2 := bx.below hbo
  have hB := hba.trans (hbo.mono hba.size)
  have zw : w.heap.size < wa.heap.size := by rw [← hwa]; simp
  have zB := hL.gv.ltB
  have L0 : GvT wo B f (fun j => j = wa.heap.size) es is ts := by
    have := (hL.below hba).fresh (.cells #[.int .i64 0, .slice none 0 0, .slice none 0 0] 25)
    rw [hwo] at this
    exact this.mono (fun k e => .inr e)
  have H := hide (show SlO w0 a n c os from hs)
  have HY := hide (show SlI w0 b m d ys from hy)
  have HZ := hide hz
  have HW0 := hide (show Below w0.heap.size w0 wo from h0.trans (hB.mono h0.size))
  have HL := hide L0
  have HE := hide (And.intro he (And.intro hi ht))
  have HO := hide (And.intro br (And.intro bx2 (And.intro zw br.lt)))
  have HBw := hide (show Below w.heap.size w wo from hB)
  obtain ⟨i80, hi80, hz80, hs80, hb80⟩ := info_parts Tryd.info_op
  have I80 := hide (And.intro hi80 (And.intro hz80 (And.intro hs80 hb80)))
  have p0 := (bx2.all 0 _ rfl).1
  have p1 := (bx2.all 1 _ rfl).1
  have p2 := (bx2.all 2 _ rfl).1
  -- what the Given's changes leave
  have HX := hide (fun (wr : World) (hc : Chg (GO B f) wo wr) => (show (BoxP wr w.heap.size [.int .i64 i, .slice a n c, .slice b m d] ∧ BoxP wr wa.heap.size [.int .i64 0, .slice none 0 0, .slice none 0 0]) ∧ Below w0.heap.size w0 wr from
    ⟨⟨bx2.chg hc (fun e => by have := hL.gv.go_lt e; omega), br.chg hc (fun e => by have := hL.gv.go_lt e; omega)⟩, (unhide HW0).trans (hc.below (unhide HW0).size (fun k hk e => by have := hL.gv.go_ge e; omega))⟩))
  clear hs hy hz he hi ht hi80 hz80 hs80 hb80 hL h0 bx bx2 hbo hB L0 br hba
  unfold tapV
  go_enter Tryd.func5, Tryd.ntmps5
  go_wp2_with fail
  go_loopw [6] (fun iv wr => ∃ k : Nat, k ≤ n ∧ iv = .int .i64 k ∧ ∃ f' fs qs, Hid (RtT wo wr (fun j => j = wa.heap.size) B f f' wo.heap.size (n + 3) k es fs is ts os qs)) (fun iv _ => n - (intOf iv).toNat)
  case atStart => exact ⟨0, Nat.zero_le _, rfl, f, [], [], RtT.begin (unhide HL) n os⟩
  case round =>
    obtain ⟨k, hk, rfl, f', fs, qs, HC⟩ := hrel
    have hX := unhide HX wr (unhide HC).chg
    have r0 := (hX.1.1.all 0 _ rfl).1
    have r1 := (hX.1.1.all 1 _ rfl).1
    have r2 := (hX.1.1.all 2 _ rfl).1
    by_cases hlt : k < n
    · have hlt' : (k:Int) < (n:Int) := by omega
      obtain ⟨b', off, o, rfl, ho, O, hok⟩ := ((unhide H).below hX.2).at' hlt
      have hnb : b' < w0.heap.size := by
        obtain ⟨b2, off2, o2, e2, _, O2, _⟩ := (unhide H).at' hlt
        cases e2
        exact World.block_lt_of_cell? _ _ O2.c0
      obtain ⟨c0, c1, c2, c3, c4, c5, c6⟩ := O
      obtain ⟨⟨x0, q0⟩, f0⟩ := (unhide HC).fil.cellsAt (j := k * 7) (by omega)
      obtain ⟨⟨x1, q1⟩, f1⟩ := (unhide HC).fil.cellsAt (j := k * 7 + 1) (by omega)
      obtain ⟨⟨x2, q2⟩, f2⟩ := (unhide HC).fil.cellsAt (j := k * 7 + 2) (by omega)
      obtain ⟨⟨x3, q3⟩, f3⟩ := (unhide HC).fil.cellsAt (j := k * 7 + 3) (by omega)
      obtain ⟨⟨x4, q4⟩, f4⟩ := (unhide HC).fil.cellsAt (j := k * 7 + 4) (by omega)
      obtain ⟨⟨x5, q5⟩, f5⟩ := (unhide HC).fil.cellsAt (j := k * 7 + 5) (by omega)
      obtain ⟨⟨x6, q6⟩, f6⟩ := (unhide HC).fil.cellsAt (j := k * 7 + 6) (by omega)
      have HOk := hide (And.intro ho (And.intro hok hX.2))
      have hnA : b' ≠ wo.heap.size := by have := (unhide HW0).size; omega
      clear ho hok hwo hwa hX
      repeat ((fail_if_success (with_reducible (show Code.wp _ _ _ _ (World.setCell _ ⟨_, k * 7 + 6, none⟩ _)))); (first | go_values | go_skip | go_guarded | go_step | go_upon | go_back))
      have S7 := (unhide HC).fil.seven (unhide HC).len (by omega) o
      have HL7 := hide (unhide HC).len
      have okw0 := (unhide H).each o (List.mem_of_getElem? (unhide HOk).1)
      have hfar : FarN (fun j => j = wo.heap.size) o.p := by
        have := (unhide HW0).size
        exact ⟨fun z hz hx e => by have := okw0.x.block_lt hx z hz; omega, fun z hz hx e => by have := okw0.y.block_lt hx z hz; omega⟩
      have lo : ∀ z, o.p.b = some z → o.p.y ≠ [] → z.block < B := fun z hz hne => Nat.lt_of_lt_of_le (okw0.y.block_lt hne z hz) hB0
      have hzo := unhide HZ o (List.mem_of_getElem? (unhide HOk).1)
      generalize (((((((wr.setCell ⟨wo.heap.size, k * 7, none⟩ (.int .i64 o.k)).setCell ⟨wo.heap.size, k * 7 + 1, none⟩ (.int .i64 o.a)).setCell ⟨wo.heap.size, k * 7 + 2, none⟩ (.int .i64 o.b)).setCell ⟨wo.heap.size, k * 7 + 3, none⟩ (.int .i64 o.n)).setCell ⟨wo.heap.size, k * 7 + 4, none⟩ (.bool o.p.g)).setCell ⟨wo.heap.size, k * 7 + 5, none⟩ (.slice o.p.a o.p.n o.p.c)).setCell ⟨wo.heap.size, k * 7 + 6, none⟩ (.slice o.p.b o.p.m o.p.d)) = w1 at *
      obtain ⟨F7, C7⟩ := S7
      have L1 := (unhide HC).law.chg C7 (fun k _ e => .inr e)
      have nA : ¬ Own B (f' 0) (f' 1) wo.heap.size := fun e => (L1.gv.pd _ (.inr rfl)).2 (by
        rcases e with e | e | e
        · exact .inl e
        · exact .inr ⟨0, by omega, e⟩
        · exact .inr ⟨1, by omega, e⟩)
      have hne : w.heap.size ≠ wo.heap.size := by have := (unhide HO).2.2; omega
      have t1 := C7.cell hne r1
      have u4 := C7.cell hnA c4
      have u5 := C7.cell hnA c5
      have u6 := C7.cell hnA c6
      have KG := gratR_any B (f' 0) (f' 1) (es ++ fs) f' o.p.g o.p.a o.p.n o.p.c o.p.x o.p.b o.p.m o.p.d o.p.y w1 L1.toR ((unhide HOk).2.1.chg C7 hfar).x ((unhide HOk).2.1.chg C7 hfar).y lo hzo.1 hzo.2 (by have := (unhide HC).cnt; have := (unhide HE).1; simp; omega)
      unfold ratV at KG
      have KG' := hide KG
      have HLn := hide (And.intro okw0.x.len okw0.y.len)
      have HN := hide (fun (wk wf : World) (v0 v1 : Value) (E1 E2 : Ent) (hP : GrPost w1 wk B (f' 0) (f' 1) v0 v1 (es ++ fs) f' o.p.x o.p.y E1 E2) (hf : FilC 54 wk wo.heap.size ((n + 3) * 7) (celO (qs ++ [o])) → FilC 54 wf wo.heap.size ((n + 3) * 7) (celO (qs ++ [⟨o.k, o.a, o.b, o.n, ⟨o.p.g, some ⟨E1.b, 0, none⟩, o.p.n, E1.c, o.p.x, some ⟨E2.b, 0, none⟩, o.p.m, E2.c, o.p.y⟩⟩]))) (hcf : Chg (fun j => j = wo.heap.size) wk wf) => (unhide HC).next (Nat.le_refl _) (unhide HOk).1 ⟨okw0.ox, okw0.oy⟩ ⟨okw0.x.len, okw0.y.len⟩ hzo C7 hP hf F7 hcf)
      have HF8 := hide (fun (wk : World) (v0 v1 : Value) (E1 E2 : Ent) (hP : GrPost w1 wk B (f' 0) (f' 1) v0 v1 (es ++ fs) f' o.p.x o.p.y E1 E2) => F7.chg hP.chg nA)
      clear KG F7 C7 c0 c1 c2 c3 c4 c5 c6 q0 q1 q2 q3 q4 q5 q6 f0 f1 f2 f3 f4 f5 f6 hfar lo hzo nA L1 okw0 r0 r1 r2 HOk HC
      go_wp2_with fail
      refine (unhide KG').mono ?_
      rintro _ wk ⟨v, rfl, v0', v1', E1, E2, rfl, hP⟩
      have F8 := unhide HF8 wk v0' v1' E1 E2 hP
      obtain ⟨⟨x4, q4⟩, f4⟩ := F8.cellsAt (j := k * 7 + 4) (by omega)
      obtain ⟨⟨x5, q5⟩, f5⟩ := F8.cellsAt (j := k * 7 + 5) (by omega)
      obtain ⟨⟨x6, q6⟩, f6⟩ := F8.cellsAt (j := k * 7 + 6) (by omega)
      have S3 := fun hF : FilC 54 wk wo.heap.size ((n + 3) * 7) (celO (qs ++ [o])) => hF.three (unhide HL7) (by omega) o.p.g (some ⟨E1.b, 0, none⟩) (some ⟨E2.b, 0, none⟩) o.p.n E1.c o.p.m E2.c o.p.x o.p.y
      have HR := hide (unhide HN wk _ v0' v1' E1 E2 hP (fun hF => (S3 hF).1) (S3 F8).2)
      clear S3 F8 hP HN HF8 KG' t1 u4 u5 u6
      go_wp2_with fail
      exact ⟨⟨k + 1, by omega, by go_num, _, _, _, unhide HR⟩, by simp [intOf]; omega⟩
    · obtain rfl : k = n := by omega
      have hlt' : ¬ (k:Int) < (k:Int) := by omega
      have HXX := hide hX
      clear hX hwo hwa
      have HO1 := hide (fun (o : Obj) => (((unhide HC).fil.below ((Below.refl wr.heap.size wr).alloc (Nat.le_refl _) o)).own (N := k + 3) (K := 7) (n := k) (base := wo.heap.size) (by rw [celO_len, (unhide HC).len]) (by omega) (Nat.le_refl _) (by unfold maxLen; omega)))
      have HB4 := hide (And.intro hB0 (unhide HW0).size)
      go_wp2_with (at_builtin; refine wpList_append_fits _ rfl _ _ 22 rfl wo.heap.size 54 i80 7 Tryd.underlying22 (unhide I80).1 (unhide I80).2.2.1 wo.heap.size k (k + 3) (celO qs) rfl (unhide HO1 _) ⟨wr.heap.size, 0, none⟩ 3 3 [.int .i64 0, .int .i64 (-41), .int .i64 0, .int .i64 0, .bool false, .slice none 0 0, .slice none 0 0, .int .i64 0, .int .i64 (-42), .int .i64 0, .int .i64 0, .bool false, .slice none 0 0, .slice none 0 0, .int .i64 0, .int .i64 (-43), .int .i64 0, .int .i64 0, .bool false, .slice none 0 0, .slice none 0 0] rfl rfl (World.news_of_block (alloc_block _ _)) ?one1 (Nat.le_refl _) ?_)
      case one1 => exact ⟨rfl, rfl, rfl, rfl, rfl, rfl, rfl, rfl, rfl, rfl, rfl, rfl, rfl, rfl, rfl⟩
      intro w4 hown hgrow
      have HM := hide (RtT.marks (unhide HC) (Nat.le_refl _) (fun j e => by have := (unhide HO).2.2.2; omega) ((Below.refl _ _).alloc (Nat.le_refl _) _) hown hgrow)
      have HCF := hide (And.intro (unhide HC).len (And.intro (unhide HC).con (unhide HC).cnt))
      clear hown hgrow HO1 HC
      obtain ⟨t0, ht0⟩ : ∃ x, f' 14 = x := ⟨_, rfl⟩
      obtain ⟨t1, ht1⟩ : ∃ x, f' 15 = x := ⟨_, rfl⟩
      obtain ⟨p14, f14⟩ := (unhide HM).law.gv.cell 14 (by omega)
      obtain ⟨p15, f15⟩ := (unhide HM).law.gv.cell 15 (by omega)
      have o14 := (unhide HM).law.gv.own 14 (by omega)
      have o15 := (unhide HM).law.gv.own 15 (by omega)
      rw [ht0] at p14 o14
      rw [ht1] at p15 o15
      have HT := hide (And.intro ht0 ht1)
      have HO14 := hide (fun (o : Obj) => (show (w4.alloc o).ownsRow (B + 1) 22 1 t0 ts.length (ts.map Tn.v) by simpa [tyG, rowT] using o14.alloc o))
      have HO15 := hide (show w4.ownsRow (B + 1) 22 1 t1 ts.length (ts.map Tn.v0) by simpa [tyG, rowT] using o15)
      have hB4 := (unhide HM).law.gv.ltB
      have hap : ∀ k, t0.ownBlock = some k → t1.ownBlock ≠ some k := by rw [← ht0, ← ht1]; exact (unhide HM).law.gv.ap 14 15 (by omega) (by omega) (by omega)
      have HAP := hide hap
      clear o14 o15 ht0 ht1 hap
      obtain ⟨i23, hi23, hz23, hs23, hb23⟩ := info_parts Tryd.info_ops
      have I23 := hide (And.intro hi23 (And.intro hz23 (And.intro hs23 hb23)))
      clear hi23 hz23 hs23 hb23
      have HQ1 := hide (show ts.length + 1 ≤ maxLen ∧ (ts.length + 1) * 24 ≤ 140737488355328 by unfold maxLen; have := (unhide HE).2.2; omega)
      have HB5 := hide (show B + 1 ≤ w4.heap.size + 1 by omega)
      go_wp2_with (at_builtin; refine wpList_append_lies _ rfl _ _ 34 rfl (B + 1) 22 i23 (.slice none 0 0) 1 24 Tryd.underlying34 (unhide I23).1 (unhide I23).2.1 (unhide I23).2.2.1 (unhide I23).2.2.2 rfl (by decide) t0 ts.length (ts.map Tn.v) rfl (unhide HO14 _) ⟨w4.heap.size, 0, none⟩ 1 1 [.slice (some ⟨wo.heap.size, 0, none⟩) (k + 3) (k + 3)] rfl rfl (World.news_of_block (alloc_block _ _)) one_slice (by decide) (unhide HQ1).1 (unhide HQ1).2 ?c52 (w4.heap.size + 1) ?c62 ?_)
      case c52 => simpa using unhide HB5
      case c62 => simp
      intro g2 c2 w5 hown3 hgrow3 hat3 hlt3
      have n0 : some B ≠ t0.ownBlock := fun e => by have := (own_ge ((unhide HO14) (.cells #[] 0)) B e.symm).1; omega
      have t14 := grown_frozen hgrow3 (b := B) (i := 14) (by simp; omega) n0
      have q0 : w5.cell? ⟨B, 14, none⟩ = some t0 := by rw [t14.1, World.cell?_alloc_lt _ _ _ (by exact hB4)]; exact p14
      have q2 : w5.frozen? ⟨B, 14, none⟩ = false := by rw [t14.2, World.frozen?_alloc_old _ _ _ (by simp; omega)]; exact f14
      have t15 := grown_frozen hgrow3 (b := B) (i := 15) (by simp; omega) n0
      have q15 : w5.cell? ⟨B, 15, none⟩ = some t1 := by rw [t15.1, World.cell?_alloc_lt _ _ _ (by exact hB4)]; exact p15
      have g15 : w5.frozen? ⟨B, 15, none⟩ = false := by rw [t15.2, World.frozen?_alloc_old _ _ _ (by simp; omega)]; exact f15
      have F3 := hide (And.intro hown3 (And.intro hgrow3 (And.intro hat3 hlt3)))
      clear hown3 hgrow3 hat3 hlt3 t14 t15 n0 p14 p15 f14 f15 HO14
      go_wp2_with fail
      have HMW := hide (fun (W : World) (HW : w5.setCell ⟨B, 14, none⟩ (.slice (some ⟨g2, 0, none⟩) (ts.length + 1) c2) = W) => (show SlO W (some ⟨wo.heap.size, 0, none⟩) (k + 3) (k + 3) (qs ++ marksO) ∧ W.cell? ⟨B, 15, none⟩ = some t1 ∧ W.frozen? ⟨B, 15, none⟩ = false ∧ B < W.heap.size ∧ W.ownsRow (B + 1) 22 1 t1 ts.length (ts.map Tn.v0) from by
        obtain ⟨e14, e15⟩ := unhide HT
        obtain ⟨G1, k1, s1⟩ := (unhide HM).law.gv.row (i := 14) (g := g2) (m := ts.length) (c := c2) (x := .slice (some ⟨wo.heap.size, 0, none⟩) (k + 3) (k + 3)) (by omega) (by simp [rowT]) (by rw [e14]; exact (unhide F3).2.1) (by simpa [tyG, rowT] using (unhide F3).1) (by rw [e14]; exact (unhide F3).2.2.1) HW
        obtain ⟨c15, z15⟩ := G1.cell 15 (by omega)
        have w15 := G1.own 15 (by omega)
        rw [upd_ne _ _ (by omega), e15] at c15 w15
        rw [upd_ne _ _ (by omega)] at w15
        refine ⟨?_, c15, z15, G1.ltB, by simpa [tyG, rowT] using w15⟩
        have O2 := (unhide HM).ops.st k1 (fun j hj e => (unhide HM).far j hj (.inl (by
          rcases e with e | e
          · exact .inl e
          · exact .inr ⟨14, by omega, e⟩)))
        exact O2.fil.slo (unhide HM).len (Nat.le_refl _) O2.each))
      generalize hW : w5.setCell ⟨B, 14, none⟩ (.slice (some ⟨g2, 0, none⟩) (ts.length + 1) c2) = W at *
      obtain ⟨sW, q5, q6, q7, oW⟩ := unhide HMW W rfl
      have HKT := hide (fun (W' : World) (hb : Below W.heap.size W W') => copyTape_agg (some ⟨wo.heap.size, 0, none⟩) (k + 3) (k + 3) (qs ++ marksO) W' (sW.below hb) (by omega) (unhide HM).sz)
      have HoW := hide oW
      have HW := hide hW
      clear hW sW oW HMW q0 q2 q15 g15 HO15
      have hfd := run_fieldT
      go_region_law (first
        | (refine step_append_lies _ rfl _ _ 34 rfl (B + 1) 22 i23 (.slice none 0 0) 1 24 Tryd.underlying34 (unhide I23).1 (unhide I23).2.1 (unhide I23).2.2.1 (unhide I23).2.2.2 rfl (by decide) t1 ts.length (ts.map Tn.v0) rfl ((unhide O5).alloc _) ⟨w6.heap.size, 0, none⟩ 1 1 [.slice (some ⟨A0, 0, none⟩) (k + 3) (k + 3 + 3)] rfl rfl (World.news_of_block (alloc_block _ _)) one_slice (by decide) (unhide HQ1).1 (unhide HQ1).2 (by simp; omega) (w6.heap.size + 1) (by simp) ?_; intro g3 c3 w7 hown6 hgrow6 hat6 hlt6; have L6 := after_appendT q7b q5b q6b (unhide O5) hgrow6; have q5c := L6.1; have q6c := L6.2; have F6 := hide (And.intro hown6 (And.intro hgrow6 (And.intro hat6 hlt6))); clear hown6 hgrow6 hat6 hlt6 L6)
        | (go_simp; go_at_call 11; go_must (refine (unhide HKT _ ((Below.refl _ _).drew)).mono ?_); rintro e w6 ⟨A0, bb, dd, rs0, rfl, hA0, hcp⟩; go_must (have L5 := after_copyT q7 q5 q6 (unhide HoW) hcp.bel); have O5 := hide L5.1; have q5b := L5.2.1; have q6b := L5.2.2.1; have q7b := L5.2.2.2; have F5 := hide (And.intro hA0 hcp); clear hA0 hcp L5))
      all_goals
        have FIN := ops_fin (tl := ts.length) (unhide HM).law (unhide HM).ops (unhide HM).len (unhide HM).far rfl (unhide F3).1 (by rw [(unhide HT).1]; exact (unhide F3).2.1) (by rw [(unhide HT).1]; exact (unhide F3).2.2.1) (unhide HW) ((Below.refl _ _).drew.trans (unhide F5).2.bel) (unhide F5).1 (unhide F5).2.fil (unhide F5).2.len (by omega) (by rw [(unhide F5).2.con, List.take_of_length_le (Nat.le_of_eq (unhide HM).len)]) (unhide F5).2.each (unhide F5).2.far (unhide F6).1 (by rw [(unhide HT).2]; exact (unhide F6).2.1) (by rw [(unhide HT).2]; exact (unhide F6).2.2.1)
        generalize w7.setCell ⟨B, 15, none⟩ (.slice (some ⟨g3, 0, none⟩) (ts.length + 1) c3) = w8 at *
        obtain ⟨T, f2, eb, ec, eo, L8, C8, S8⟩ := FIN
        have CH := chg_then (unhide HM).chg C8 (unhide HM).safe
        have SF : ∀ j, j < wo.heap.size → ¬ GO B f j → ¬ GO B f2 j := fun j hj hn => S8 j (Nat.lt_of_lt_of_le hj (unhide HM).chg.size) ((unhide HM).safe j hj hn)
        have hX8 := unhide HX w8 CH
        have r0 := (hX8.1.1.all 0 _ rfl).1
        have r1 := (hX8.1.1.all 1 _ rfl).1
        have r2 := (hX8.1.1.all 2 _ rfl).1
        have HS8 := hide (And.intro CH SF)
        have HL8 := hide L8
        have HX8 := hide hX8.2
        have HT8 := hide (And.intro eb (And.intro ec eo))
        have hne1 : w.heap.size ≠ wa.heap.size := by omega
        have hne3 : wa.heap.size ≠ w.heap.size := fun e => hne1 e.symm
        have hc1 : (k : Int) ≤ (k : Int) + 3 := by omega
        have hc2 : (k : Int) ≤ ((k + 3 : Nat) : Int) := by omega
        clear CH SF hX8 L8 C8 S8 eb ec eo q5 q6 q7 q5b q6b q7b q5c q6c F5 F6 O5 HoW HW HKT hfd F3
        go_wp2_with fail
        go_region_held3 (fun w' => w'.cell? ⟨w.heap.size, 0, none⟩ = some (.int .i64 i) ∧ w'.cell? ⟨w.heap.size, 1, none⟩ = some (.slice a k c) ∧ w'.cell? ⟨w.heap.size, 2, none⟩ = some (.slice b m d)) (first | go_keep | (exact ⟨k0, k1, k2⟩))
          ((go_at_call 12; refine (gints_any B (f2 4) (f2 5) is f2 b m d ys _ ((unhide HL8).below (Below.refl _ _).drew).toI ((unhide HY).below ((unhide HX8).trans ((Below.refl _ _).drew.mono (unhide HX8).size))) hm (unhide HE).2.1).mono ?_; rintro _ wk ⟨z0, z1, E, rfl, hE, hEn, hGI, hCI, hSI⟩; have hOI := ((unhide HL8).below (Below.refl _ _).drew).ofI hGI hCI hSI hEn (by rw [hE, (unhide HY).len]; exact hm); have hCk := chg_then ((unhide HS8).1.trans (Chg.of_drew w8)) hOI.2.1 (unhide HS8).2; have hXk := unhide HX wk hCk; have k0 := (hXk.1.1.all 0 _ rfl).1; have k1 := (hXk.1.1.all 1 _ rfl).1; have k2 := (hXk.1.1.all 2 _ rfl).1; have q0 := (hXk.1.2.all 0 _ rfl).1; have q1 := (hXk.1.2.all 1 _ rfl).1; have q2 := (hXk.1.2.all 2 _ rfl).1; have g0 := (hXk.1.2.all 0 _ rfl).2; have g1 := (hXk.1.2.all 1 _ rfl).2; have g2' := (hXk.1.2.all 2 _ rfl).2; have HK := hide (And.intro hE (And.intro hOI.1 hCk)); clear hE hEn hGI hCI hSI hOI hCk hXk))
        have H4 := hide (three_set wk wa.heap.size (.int .i64 i) (.slice (some ⟨wo.heap.size, 0, none⟩) k (k + 3)) (.slice (some ⟨E.b, 0, none⟩) m E.c) (fun j hj => by
          match j, hj with
          | 0, _ => exact ⟨_, q0⟩
          | 1, _ => exact ⟨_, q1⟩
          | 2, _ => exact ⟨_, q2⟩))
        clear q0 q1 q2 g0 g1 g2'
        try go_wp2_with fail
        obtain ⟨t0, t1, t2, c4⟩ := unhide H4
        generalize ((wk.setCell ⟨wa.heap.size, 0, none⟩ (.int .i64 i)).setCell ⟨wa.heap.size, 1, none⟩ (.slice (some ⟨wo.heap.size, 0, none⟩) k (k + 3))).setCell ⟨wa.heap.size, 2, none⟩ (.slice (some ⟨E.b, 0, none⟩) m E.c) = wf at *
        refine bodyPost_ret (by simp [results, Tryd.results5, go_sem, t0, t1, t2]; try rfl) rfl ?_
        obtain ⟨eE, LK, CK⟩ := unhide HK
        obtain ⟨eb, ec, eo⟩ := unhide HT8
        obtain ⟨fl, fc, fn⟩ := unhide HCF
        have zo := (unhide HO).2.2.1
        refine ⟨T, E, _, fs, by rw [eb, ec], eE, by rw [eo]; simp [fl, marksO], ?_, fn, (LK.chg c4 (fun j _ e => e)).mono (fun j e => e.elim), ?_⟩
        · rw [eo, List.take_append_of_le_length (by omega), List.take_of_length_le (by omega), fc, List.take_of_length_le (by have := (unhide H).len; omega)]
        · exact chg_then ((Chg.of_below (unhide HBw)).trans CK) c4 (fun j hj _ e => by omega)
end Go.Proofs.YtiadccaaoenccaaDoor
