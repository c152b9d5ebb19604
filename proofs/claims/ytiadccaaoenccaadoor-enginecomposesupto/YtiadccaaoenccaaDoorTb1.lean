/- Tb1 -/
import Derived.Test.YtiadccaaoenccaaDoorTb0
import Derived.Test.YtiadccaaoenccaaDoorTa1
import Derived.Test.YtiadccaaoenccaaDoorNMul
namespace Go.Proofs.YtiadccaaoenccaaDoor
open Go.RowKit Go.Deep
set_option linter.unusedVariables false
theorem chg_then {S T : Nat → Prop} {a b c : World} (h : Chg S a b) (k : Chg T b c) (hs : ∀ k, k < a.heap.size → ¬ S k → ¬ T k) : Chg S a c :=
  ⟨k.os.trans h.os, k.tape.trans h.tape, k.output.trans h.output, Nat.le_trans h.size k.size, fun i hi hS => (k.block i (Nat.lt_of_lt_of_le hi h.size) (hs i hi hS)).trans (h.block i hi hS)⟩
structure RtT (w wr : World) (Q : Nat → Prop) (B : Nat) (f f' : Nat → Value) (A N k : Nat) (es fs : List Ent) (is : List EntI) (ts : List Tn) (os qs : List On) : Prop where
  law : GvT wr B f' (fun j => Q j ∨ j = A) (es ++ fs) is ts
  cnt : fs.length = 2 * k
  chg : Chg (GO B f) w wr
  safe : ∀ j, j < w.heap.size → ¬ GO B f j → ¬ GO B f' j
  fil : FilC 54 wr A (N * 7) (celO qs)
  len : qs.length = k
  con : qs.map conO = (os.take k).map conO
  each : ∀ q ∈ qs, NqL wr q.p
  far : ∀ q ∈ qs, ∀ j, nqB q.p j → ¬ GS B f' (fun j => Q j ∨ j = A) j
  sz : ∀ q ∈ qs, q.p.n ≤ 35184372088000 ∧ q.p.m ≤ 35184372088000
theorem RtT.begin {w : World} {Q : Nat → Prop} {B : Nat} {f : Nat → Value} {es : List Ent} {is : List EntI} {ts : List Tn} (h : GvT w B f Q es is ts) (n : Nat) (os : List On) : RtT w (w.alloc (.cells (madeCells zO ((n + 3) * 7)) 54)) Q B f f w.heap.size (n + 3) 0 es [] is ts os [] :=
  ⟨by simpa using h.fresh _, rfl, Chg.of_alloc _ _, (fun _ _ h => h), FilC.made _ w _ _ (size_madeCells _ _), rfl, by simp, (fun q hq => by cases hq), (fun q hq => by cases hq), (fun q hq => by cases hq)⟩
theorem RtT.next {w wr w1 wk wf : World} {Q : Nat → Prop} {B : Nat} {f f' : Nat → Value} {A N k : Nat} {es fs : List Ent} {is : List EntI} {ts : List Tn} {os qs : List On} {o : On} (h : RtT w wr Q B f f' A N k es fs is ts os qs) (hA : w.heap.size ≤ A) (ho : os[k]? = some o) (hok : Ok o.p.x ∧ Ok o.p.y) (hl : o.p.x.length = o.p.n ∧ o.p.y.length = o.p.m) (hsz : o.p.n ≤ 35184372088000 ∧ o.p.m ≤ 35184372088000)
    (hc1 : Chg (fun j => j = A) wr w1) {v0 v1 : Value} {E1 E2 : Ent} (hP : GrPost w1 wk B (f' 0) (f' 1) v0 v1 (es ++ fs) f' o.p.x o.p.y E1 E2)
    (hf : FilC 54 wk A (N * 7) (celO (qs ++ [o])) → FilC 54 wf A (N * 7) (celO (qs ++ [⟨o.k, o.a, o.b, o.n, ⟨o.p.g, some ⟨E1.b, 0, none⟩, o.p.n, E1.c, o.p.x, some ⟨E2.b, 0, none⟩, o.p.m, E2.c, o.p.y⟩⟩]))) (h7 : FilC 54 w1 A (N * 7) (celO (qs ++ [o]))) (hcf : Chg (fun j => j = A) wk wf) :
    RtT w wf Q B f (upd (upd f' 0 v0) 1 v1) A N (k + 1) es (fs ++ [E1, E2]) is ts os (qs ++ [⟨o.k, o.a, o.b, o.n, ⟨o.p.g, some ⟨E1.b, 0, none⟩, o.p.n, E1.c, o.p.x, some ⟨E2.b, 0, none⟩, o.p.m, E2.c, o.p.y⟩⟩]) := by
  have L1 := h.law.chg hc1 (fun k _ e => .inr e)
  have eA : es ++ fs ++ [E1] ++ [E2] = (es ++ fs) ++ [E1, E2] := by simp
  have G := hP.giv
  rw [eA] at G
  obtain ⟨L2, k1, k2⟩ := L1.ofR G hP.chg hP.safe (fun e he => by
    simp only [List.mem_cons, List.not_mem_nil, or_false] at he
    rcases he with rfl | rfl
    · exact hP.n1
    · exact hP.n2)
  have L3 := L2.chg hcf (fun k _ e => .inr e)
  have nA : ¬ GO B f' A := (L1.gv.pd A (.inr rfl)).2
  have zA : A < w1.heap.size := (L1.gv.pd A (.inr rfl)).1
  have z1 := hc1.size
  have z0 := h.chg.size
  have e1 := G.ents E1 (by simp)
  have e2 := G.ents E2 (by simp)
  have s1 : Sl wk (some ⟨E1.b, 0, none⟩) o.p.n E1.c o.p.x := by
    have := e1.sl.pre (n := o.p.n) (by rw [hP.x1]; exact hl.1) (by rfl)
    rw [hP.x1] at this
    exact this
  have s2 : Sl wk (some ⟨E2.b, 0, none⟩) o.p.m E2.c o.p.y := by
    have := e2.sl.pre (n := o.p.m) (by rw [hP.x2]; exact hl.2) (by rfl)
    rw [hP.x2] at this
    exact this
  have g1 := (L2.e E1 (by simp)).2
  have g2 := (L2.e E2 (by simp)).2
  refine ⟨by rw [← List.append_assoc]; exact L3, ?_, ?_, ?_, hf (h7.chg k1 nA), by simp [h.len], ?_, ?_, ?_, ?_⟩
  · have := h.cnt
    simp
    omega
  · refine chg_then (chg_then (chg_then h.chg hc1 (fun j hj _ e => by omega)) k1 (fun j hj hn => h.safe j hj hn)) hcf (fun j hj _ e => by omega)
  · intro j hj hn
    exact k2 j (by omega) (h.safe j hj hn)
  · rw [List.map_append, h.con, List.take_add_one, ho]
    simp [conO, conQ]
  · intro q hq
    rcases List.mem_append.1 hq with e | e
    · have f := h.far q e
      exact (((h.each q e).st hc1 (fun j hj e => f j hj (.inr (.inr e)))).st k1 (fun j hj e => f j hj (.inl e))).st hcf (fun j hj e => f j hj (.inr (.inr e)))
    · obtain rfl := List.mem_singleton.1 e
      exact ⟨s1.chg hcf (fun z hz _ e => by cases hz; exact g1 _ (.inl rfl) (.inr (.inr e))), s2.chg hcf (fun z hz _ e => by cases hz; exact g2 _ (.inl rfl) (.inr (.inr e))), hok.1, hok.2⟩
  · intro q hq
    rcases List.mem_append.1 hq with e | e
    · intro j hj
      have := (h.each q e).lt j hj
      exact gs_safe k2 j (by omega) (h.far q e j hj)
    · obtain rfl := List.mem_singleton.1 e
      rintro j (⟨z, hz, _, rfl⟩ | ⟨z, hz, _, rfl⟩)
      · cases hz; exact g1 _ (.inl rfl)
      · cases hz; exact g2 _ (.inl rfl)
  · intro q hq
    rcases List.mem_append.1 hq with e | e
    · exact h.sz q e
    · obtain rfl := List.mem_singleton.1 e
      exact hsz
def marksO : List On := [⟨0, -41, 0, 0, ⟨false, none, 0, 0, [], none, 0, 0, []⟩⟩, ⟨0, -42, 0, 0, ⟨false, none, 0, 0, [], none, 0, 0, []⟩⟩, ⟨0, -43, 0, 0, ⟨false, none, 0, 0, [], none, 0, 0, []⟩⟩]
theorem Sl.nil0 (w : World) : Sl w none 0 0 [] := ⟨rfl, Nat.le_refl _, Nat.zero_le _, .inl rfl⟩
structure RtM (w w4 : World) (Q : Nat → Prop) (B : Nat) (f f' : Nat → Value) (A N m : Nat) (es' : List Ent) (is : List EntI) (ts : List Tn) (rs : List On) : Prop where
  law : GvT w4 B f' Q es' is ts
  ops : OpsOk w4 A N rs
  len : rs.length = m
  far : ∀ j, opsB A rs j → ¬ GS B f' Q j
  chg : Chg (GO B f) w w4
  safe : ∀ j, j < w.heap.size → ¬ GO B f j → ¬ GO B f' j
  sz : ∀ q ∈ rs, q.p.n ≤ 35184372088000 ∧ q.p.m ≤ 35184372088000
theorem RtT.marks {w wr w3 w4 : World} {Q : Nat → Prop} {B : Nat} {f f' : Nat → Value} {A n : Nat} {es fs : List Ent} {is : List EntI} {ts : List Tn} {os qs : List On} (h : RtT w wr Q B f f' A (n + 3) n es fs is ts os qs) (hA : w.heap.size ≤ A) (hQ : ∀ j, Q j → j < A) (hb : Below wr.heap.size wr w3)
    (hown : w4.ownsRow A 54 7 (.slice (some ⟨A, 0, none⟩) (n + 3) (n + 3)) (n + 3) (celO qs ++ celO marksO)) (hgrow : w3.grownBy w4 (some A)) : RtM w w4 Q B f f' A (n + 3) (n + 3) (es ++ fs) is ts (qs ++ marksO) := by
  have L3 := h.law.below hb
  have k4 : Chg (fun j => j = A) w3 w4 := .of_grown hgrow (fun k hk => (Option.some.inj hk).symm)
  have L4 := L3.chg k4 (fun k _ e => .inr e)
  have z := h.chg.size
  have zb := hb.size
  have nil : nqB ⟨false, none, 0, 0, [], none, 0, 0, []⟩ = fun _ => False := by
    funext j
    refine propext ⟨?_, fun e => e.elim⟩
    rintro (⟨z, hz, _⟩ | ⟨z, hz, _⟩) <;> cases hz
  have mk : ∀ q ∈ marksO, q.p = ⟨false, none, 0, 0, [], none, 0, 0, []⟩ := by
    intro q hq
    simp only [marksO, List.mem_cons, List.not_mem_nil, or_false] at hq
    rcases hq with rfl | rfl | rfl <;> rfl
  refine ⟨L4.mono (fun k e => .inl e), ⟨FilC.of_own (base := A) (n := n + 3) (by rw [celO_app]; exact hown), by simp [h.len, marksO], ?_⟩, by simp [h.len, marksO], ?_, ?_, h.safe, ?_⟩
  · intro q hq
    rcases List.mem_append.1 hq with e | e
    · exact ((h.each q e).below hb).st k4 (fun j hj e2 => h.far q e j hj (.inr (.inr e2)))
    · rw [mk q e]
      exact ⟨Sl.nil0 _, Sl.nil0 _, Ok.nil, Ok.nil⟩
  · rintro j (rfl | ⟨q, hq, hj⟩)
    · exact fun e => e.elim (h.law.gv.pd j (.inr rfl)).2 (fun e => by have := hQ j e; omega)
    · rcases List.mem_append.1 hq with e | e
      · exact fun e2 => h.far q e j hj (e2.elim .inl (fun e => .inr (.inl e)))
      · rw [mk q e, nil] at hj
        exact hj.elim
  · exact chg_then (h.chg.trans (Chg.of_below hb)) k4 (fun j hj _ e => by omega)
  · intro q hq
    rcases List.mem_append.1 hq with e | e
    · exact h.sz q e
    · rw [mk q e]
      exact ⟨by decide, by decide⟩
theorem ops_fin {w4 w5 W w6 w7 : World} {P : Nat → Prop} {B : Nat} {f : Nat → Value} {A N m A0 N0 g2 c2 g3 c3 tl : Nat} {es : List Ent} {is : List EntI} {ts : List Tn} {rs qs : List On} {o1 o2 : Obj} (h : GvT w4 B f P es is ts) (ho : OpsOk w4 A N rs) (hl : rs.length = m) (hfar : ∀ j, opsB A rs j → ¬ GS B f P j) (htl : ts.length = tl)
    (own5 : w5.ownsRow (B + 1) 22 1 (.slice (some ⟨g2, 0, none⟩) (tl + 1) c2) (tl + 1) (ts.map Tn.v ++ [.slice (some ⟨A, 0, none⟩) m N]))
    (grow5 : (w4.alloc o1).grownBy w5 (f 14).ownBlock) (at5 : (f 14).ownBlock = some g2 ∨ g2 = w4.heap.size + 1)
    (HW : w5.setCell ⟨B, 14, none⟩ (.slice (some ⟨g2, 0, none⟩) (tl + 1) c2) = W)
    (b6 : Below W.heap.size W w6) (hA0 : W.heap.size ≤ A0) (fil0 : FilC 54 w6 A0 (N0 * 7) (celO qs)) (len0 : qs.length = m) (le0 : m ≤ N0) (con : qs.map conO = rs.map conO) (each0 : ∀ q ∈ qs, NqL w6 q.p) (far0 : ∀ q ∈ qs, FarN (fun j => j ≤ A0) q.p)
    (own7 : w7.ownsRow (B + 1) 22 1 (.slice (some ⟨g3, 0, none⟩) (tl + 1) c3) (tl + 1) (ts.map Tn.v0 ++ [.slice (some ⟨A0, 0, none⟩) m N0]))
    (grow7 : (w6.alloc o2).grownBy w7 (f 15).ownBlock) (at7 : (f 15).ownBlock = some g3 ∨ g3 = w6.heap.size + 1) :
    ∃ T f2, Tn.b T = A ∧ T.c = N ∧ T.os = rs ∧ GvT (w7.setCell ⟨B, 15, none⟩ (.slice (some ⟨g3, 0, none⟩) (tl + 1) c3)) B f2 P es is (ts ++ [T]) ∧ Chg (GO B f) w4 (w7.setCell ⟨B, 15, none⟩ (.slice (some ⟨g3, 0, none⟩) (tl + 1) c3)) ∧ ∀ k, k < w4.heap.size → ¬ GO B f k → ¬ GO B f2 k := by
  obtain ⟨wf, hwf⟩ : ∃ x, w7.setCell ⟨B, 15, none⟩ (.slice (some ⟨g3, 0, none⟩) (tl + 1) c3) = x := ⟨_, rfl⟩
  rw [hwf]
  obtain ⟨G1, k1, s1⟩ := h.gv.row (i := 14) (g := g2) (m := tl) (c := c2) (x := .slice (some ⟨A, 0, none⟩) m N) (by omega) (by simp [rowT, htl]) grow5 (by simpa [tyG, rowT] using own5) at5 HW
  have G2 := G1.below b6
  have e15 : upd f 14 (.slice (some ⟨g2, 0, none⟩) (tl + 1) c2) 15 = f 15 := upd_ne _ _ (by omega)
  obtain ⟨G3, k3, s3⟩ := G2.row (i := 15) (g := g3) (m := tl) (c := c3) (x := .slice (some ⟨A0, 0, none⟩) m N0) (by omega) (by rw [upd_ne _ _ (by omega)]; simp [rowT, htl]) (by rw [e15]; exact grow7) (by rw [upd_ne _ _ (by omega)]; simpa [tyG, rowT] using own7) (by rw [e15]; exact at7) hwf
  rw [e15] at k3
  have sub1 : ∀ k, (k = B ∨ (f 14).ownBlock = some k) → GO B f k := fun k e => e.elim .inl (fun e => .inr ⟨14, by omega, e⟩)
  have sub3 : ∀ k, (k = B ∨ (f 15).ownBlock = some k) → GO B f k := fun k e => e.elim .inl (fun e => .inr ⟨15, by omega, e⟩)
  have C1 : Chg (GO B f) w4 W := k1.mono (fun k _ e => sub1 k e)
  have C3 : Chg (GO B f) w6 wf := k3.mono (fun k _ e => sub3 k e)
  have C : Chg (GO B f) w4 wf := (C1.trans (Chg.of_below b6)).trans C3
  have z1 := C1.size
  have z6 := b6.size
  have S : ∀ k, k < w4.heap.size → ¬ GO B f k → ¬ GO B (upd (upd f 14 (.slice (some ⟨g2, 0, none⟩) (tl + 1) c2)) 15 (.slice (some ⟨g3, 0, none⟩) (tl + 1) c3)) k := fun k hk hn => s3 k (by omega) (s1 k hk hn)
  have eR : upd (upd (rowT es is ts) 14 (rowT es is ts 14 ++ [.slice (some ⟨A, 0, none⟩) m N])) 15 (upd (rowT es is ts) 14 (rowT es is ts 14 ++ [.slice (some ⟨A, 0, none⟩) m N]) 15 ++ [.slice (some ⟨A0, 0, none⟩) m N0]) = rowT es is (ts ++ [⟨A, N, rs, A0, N0, qs⟩]) := by
    funext q
    by_cases q15 : q = 15
    · subst q15; rw [upd_same, upd_ne _ _ (by omega)]; simp [rowT, Tn.v0, len0]
    · rw [upd_ne _ _ q15]
      by_cases q14 : q = 14
      · subst q14; rw [upd_same]; simp [rowT, Tn.v, hl]
      · rw [upd_ne _ _ q14]
        unfold rowT
        match q with
        | 14 => omega
        | 15 => omega
        | 0 | 1 | 2 | 3 | 4 | 5 | 6 | 7 | 8 | 9 | 10 | 11 | 12 | 13 => rfl
        | n + 16 => rfl
  rw [eR] at G3
  have t1 : ∀ k, k < w4.heap.size → ¬ GS B f P k → ¬ GO B f k := fun k _ hn e => hn (.inl e)
  have t2 := gs_safe (P := P) S
  refine ⟨⟨A, N, rs, A0, N0, qs⟩, _, rfl, rfl, rfl, ⟨G3, fun x hx => Fp.step (h.e x hx) C t1 t2, fun x hx => Fp.step (h.i x hx) C t1 t2, fun x hx => ?_⟩, C, S⟩
  rcases List.mem_append.1 hx with e | e
  · exact Fp.step (h.t x e) C t1 t2
  · obtain rfl := List.mem_singleton.1 e
    have GOlt : ∀ k, GO B f k → k < W.heap.size := fun k hk => Nat.lt_of_lt_of_le (h.gv.go_lt hk) z1
    have nW : ∀ k, opsB A0 qs k → W.heap.size ≤ k := by
      rintro k (rfl | ⟨q, hq, hk⟩)
      · exact hA0
      · have := (far0 q hq).to k hk
        have : ¬ k ≤ A0 := this
        omega
    have O6 : OpsOk w6 A0 N0 qs := ⟨fil0, by omega, each0⟩
    refine ⟨⟨⟨ho.st C (fun k hk e => hfar k hk (.inl e)), O6.st C3 (fun k hk e => by have := GOlt k e; have := nW k hk; omega)⟩, con.symm⟩, ?_⟩
    rintro k (hk | hk)
    · exact t2 k (ho.lt k hk) (hfar k hk)
    · rintro (e | e)
      · have h1 := nW k hk
        have h2 : ¬ GO B (upd f 14 (.slice (some ⟨g2, 0, none⟩) (tl + 1) c2)) k := by
          intro e2
          have := G1.go_lt e2
          omega
        exact s3 k (O6.lt k hk) h2 e
      · have := (h.gv.pd k e).1
        have := nW k hk
        omega
end Go.Proofs.YtiadccaaoenccaaDoor
