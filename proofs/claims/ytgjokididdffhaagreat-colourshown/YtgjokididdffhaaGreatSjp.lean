/- Cxs -/
import Derived.Test.YtgjokididdffhaaGreatCxr
import Derived.Test.YtgjokididdffhaaGreatSp2
import Derived.Test.YtgjokididdffhaaGreatRows
import Derived.ProofKit
import Derived.OpenShut
import Derived.ShutString
import Derived.ChangeOld
import Derived.Below
import Derived.SizedLaws
namespace Go.Proofs.YtgjokididdffhaaGreat
open Go.RowKit Go.Deep
set_option linter.unusedVariables false
theorem not_fo {ad : Nat → Nat → Prop} {T0 : Nat → Prop} (h : ¬ FoP ad T0) : ∃ T : Nat → Prop, (∀ v, T v → T0 v) ∧ CyP ad T ∧ ∃ v, T v := by
  apply Classical.byContradiction
  intro hn
  apply h
  intro T h1 h2 v hv
  exact hn ⟨T, h1, h2, v, hv⟩
theorem chT_no {k rows width er : Int} {n1 n2 n : Nat} {st cols xs : List Int} (h : KdN k rows width n1 n2 st cols er) : ChT k rows width n1 n2 n st cols xs [] er :=
  ⟨by simp, fun a1 a2 a c1 c2 c w g1 g2 g3 => (cFault_no k rows width er h.ne a n c a1 a2 n1 c1 n2 c2 st cols w g1 g2 (h.task a1 a2 c1 c2)).mono (fun e w' q => faP_no (L := []) q), fun a1 a2 a c1 c2 c w g1 g2 g3 => (wFault_no k rows width er h.ne a n c a1 a2 n1 c1 n2 c2 st cols w g1 g2 (h.thg a1 a2 c1 c2)).mono (fun e w' q => faP_no (L := []) q)⟩
theorem colourShown_walk (k rows width : Int) (a1 : Option Addr) (n1 c1 : Nat) (st : List Int) (a2 : Option Addr) (n2 c2 : Nat) (cols : List Int) (a : Option Addr) (n c : Nat) (xs : List Int) (w : World) (h1 : SlI w a1 n1 c1 st) (h2 : SlI w a2 n2 c2 cols) (h3 : SlI w a n c xs) (hb1 : n1 ≤ 17592186044000) (hb2 : n2 ≤ 17592186044000) (hn : n ≤ 17592186044000) :
    Calls Tryz.prog 4 #[.int .i64 k, patV rows width a1 n1 c1 a2 n2 c2, .slice a n c] w fun e w' => e = .returned (.bool true) ∧ Below w.heap.size w w' := by
  rcases kd_all k rows width n1 n2 st cols h1.len h2.len hb1 hb2 with ⟨er, h⟩ | ⟨R, W, rfl, rfl, hm, h⟩
  · exact shown_none k er rows width a1 n1 c1 st a2 n2 c2 cols a n c xs w h1 h2 h3 hb1 hb2 (chT_no h)
  · have none : ∀ {L : List Int} {er : Int}, L = [] → ChT k (R : Int) (W : Int) n1 n2 n st cols xs L er → Calls Tryz.prog 4 #[.int .i64 k, patV (R : Int) (W : Int) a1 n1 c1 a2 n2 c2, .slice a n c] w fun e w' => e = .returned (.bool true) ∧ Below w.heap.size w w' := fun {L er} hL hC => by
      subst hL
      exact shown_none k er _ _ a1 n1 c1 st a2 n2 c2 cols a n c xs w h1 h2 h3 hb1 hb2 hC
    rcases h with ⟨rfl, Q, h⟩ | ⟨rfl, Q, h⟩ | ⟨rfl, Q, h⟩ | ⟨rfl, Q, h⟩ | ⟨rfl, Q, h⟩
    · obtain ⟨o, ho⟩ := PrO.ex (adG st cols R) (fun i => xs.getD i 0)
      have hC := chT_pair (n := n) (by decide) (by decide) (by decide) (by decide) hb1 hb2 hn hm h o ho
      cases ht : tb (n = R ∧ MayC xs n)
      · rw [ht] at hC
        exact none (by simp) hC
      · rw [ht] at hC
        obtain ⟨rfl, hmc⟩ := tb_iff.1 ht
        cases o with
        | none => exact none (by rfl) hC
        | some p =>
          obtain ⟨u, v⟩ := p
          exact shown_pair1 _ _ a1 n1 c1 st a2 n2 c2 cols a n c xs w h1 h2 h3 hb1 hb2 u v hC ho.1.2.1 ho.1.1.2.1 ho.1.2.2 ((InC.of hm ho.1.1.1).2 ho.1.1.2.2)
    · obtain ⟨o, ho⟩ := PrO.ex (adG st cols R) (fun i => xs.getD i 0)
      obtain ⟨q, hq⟩ := PaO.ex (adG st cols R) (fun i => xs.getD i 0)
      have hC := chT_star (n := n) (by decide) (by decide) (by decide) hb1 hb2 hn hm h o ho q hq
      cases ht : tb (n = R ∧ MayC xs n)
      · rw [ht] at hC
        exact none (by simp) hC
      · rw [ht] at hC
        obtain ⟨rfl, hmc⟩ := tb_iff.1 ht
        cases o with
        | none =>
          cases q with
          | none => exact none (by rfl) hC
          | some q =>
            obtain ⟨x, y, z, t⟩ := q
            obtain ⟨e1, e2, e3, e4, e5, e6⟩ := hq.1
            exact shown_star _ _ a1 n1 c1 st a2 n2 c2 cols a n c xs w h1 h2 h3 hb1 hb2 x y z t hC e1.1 e2.1 e5.1 e5.2.1 (Ne.symm e3) (Ne.symm e6.2.1) e6.1 e4.symm e6.2.2.symm ((InC.of hm e1.1).2 e1.2.2) ((InC.of hm e2.1).2 e2.2.2) ((InC.of hm e5.1).2 e5.2.2)
        | some p =>
          obtain ⟨u, v⟩ := p
          exact shown_pair4 _ _ a1 n1 c1 st a2 n2 c2 cols a n c xs w h1 h2 h3 hb1 hb2 u v hC ho.1.2.1 ho.1.1.2.1 ho.1.2.2 ((InC.of hm ho.1.1.1).2 ho.1.1.2.2)
    · obtain ⟨o, ho⟩ := PrO.ex (adG st cols R) (fun i => xs.getD i 0)
      obtain ⟨q, hq⟩ := CiP.ex st cols R xs
      have hC := chT_acyc (n := n) (by decide) (by decide) (by decide) (by decide) hb1 hb2 hn hm h o ho q hq
      cases ht : tb (n = R ∧ MayC xs n)
      · rw [ht] at hC
        exact none (by simp) hC
      · rw [ht] at hC
        obtain ⟨rfl, hmc⟩ := tb_iff.1 ht
        cases o with
        | none =>
          cases q with
          | none => exact none (by rfl) hC
          | some q =>
            obtain ⟨x, y⟩ := q
            obtain ⟨u, v, had, e1, e2, e3, e4⟩ := hq.1
            have hg := h.gra
            have hpr : ∀ u v, adG st cols n u v → xs.getD u 0 ≠ xs.getD v 0 := fun u v had e => by
              rcases Nat.lt_trichotomy u v with h | h | h
              · exact ho u v ⟨had, h, e⟩
              · subst h; exact adG.ir hg _ had
              · exact ho v u ⟨adG.sy hg _ _ had, h, e.symm⟩
            have c1' := hmc u had.1
            have c2' := hmc v had.2.1
            have hne := hpr u v had
            obtain ⟨p, hp⟩ : ∃ p : Nat, x = (p : Int) := ⟨x.toNat, by omega⟩
            obtain ⟨q, hq'⟩ : ∃ q : Nat, y = (q : Int) := ⟨y.toNat, by omega⟩
            subst hp hq'
            have hpq : p < q := by omega
            obtain ⟨T, t1, t2, t3⟩ := not_fo e4
            have hE : ∀ W', SlI W' a1 n1 c1 st → SlI W' a2 n2 c2 cols → SlI W' a n c xs → Calls Tryz.prog 17 #[patV (n : Int) (W : Int) a1 n1 c1 a2 n2 c2, .slice a n c, .int .i64 (p : Int), .int .i64 (q : Int)] W' fun e w' => e = .returned (.bool true) ∧ Below W'.heap.size W' w' := fun W' s1 s2 s3 =>
              wedges_any n (W : Int) a1 a2 n1 c1 n2 c2 st cols a c xs _ rfl (p : Int) (q : Int) W' h.m8 s1 s2 hb1 hb2 s3 (fun u v => tb (HasP (n : Int) (W : Int) st cols (u : Int) (v : Int))) (fun u v hu hv => tb_iff) T (fun v hv => ⟨(t1 v hv).1, by have := (t1 v hv).2; unfold twB; simpa using this⟩)
                (fun v hv => by
                  obtain ⟨b, d, f1, f2, f3, f4, f5⟩ := t2 v hv
                  exact ⟨b, d, f1, f2, f3, tb_iff.2 ((InC.of hm f4.1).2 f4.2.2), tb_iff.2 ((InC.of hm f5.1).2 f5.2.2)⟩)
                (fun v hv => by
                  cases hh : tb (HasP (n : Int) (W : Int) st cols (v : Int) (v : Int))
                  · rfl
                  · exact absurd ⟨hv, hv, (InC.of hm hv).1 (tb_iff.1 hh)⟩ (adG.ir hg v)) t3
            by_cases hqn : q < n
            · cases hh : tb (HasP (n : Int) (W : Int) st cols (p : Int) (q : Int))
              · exact shown_circfalse _ _ a1 n1 c1 st a2 n2 c2 cols a n c xs w h1 h2 h3 hb1 hb2 p q hC hpq hE hqn (by have := tb_iff (P := HasP (n : Int) (W : Int) st cols (p : Int) (q : Int)); rw [hh] at this; exact this)
              · exact shown_circtrue _ _ a1 n1 c1 st a2 n2 c2 cols a n c xs w h1 h2 h3 hb1 hb2 p q hC hpq hE hqn (by have := tb_iff (P := HasP (n : Int) (W : Int) st cols (p : Int) (q : Int)); rw [hh] at this; exact this) (hpr p q ⟨by omega, hqn, (InC.of hm (by omega)).1 (tb_iff.1 hh)⟩)
            · exact shown_circA _ _ a1 n1 c1 st a2 n2 c2 cols a n c xs w h1 h2 h3 hb1 hb2 p q hC hpq hE hqn
        | some p =>
          obtain ⟨u, v⟩ := p
          exact shown_pair5 _ _ a1 n1 c1 st a2 n2 c2 cols a n c xs w h1 h2 h3 hb1 hb2 u v hC ho.1.2.1 ho.1.1.2.1 ho.1.2.2 ((InC.of hm ho.1.1.1).2 ho.1.1.2.2)
    · obtain ⟨o, ho⟩ := PrO.ex (adG (grS (CoP st cols R) W W) (grC (CoP st cols R) W W) W) (fun i => xs.getD i 0)
      obtain ⟨kk, hkk⟩ := line_cols h.m8 ho
      have hC := chT_cols (n := n) hb1 hb2 hn hm h o ho kk hkk
      cases ht : tb (n = W ∧ MayC xs n)
      · rw [ht] at hC
        exact none (by simp) hC
      · rw [ht] at hC
        obtain ⟨rfl, hmc⟩ := tb_iff.1 ht
        cases o with
        | none => exact none (by rfl) hC
        | some p =>
          obtain ⟨u, v⟩ := p
          obtain ⟨e1, e2, e3, e4, e5, e6⟩ := hkk u v rfl
          exact shown_lines2 _ _ a1 n1 c1 st a2 n2 c2 cols a n c xs w h1 h2 h3 hb1 hb2 u v kk hC ho.1.2.1 ho.1.1.2.1 ho.1.2.2 ((InC.of hm e3).2 e4) ((InC.of hm e3).2 e5)
    · obtain ⟨o, ho⟩ := PrO.ex (adG (grS (RwP st cols W) R R) (grC (RwP st cols W) R R) R) (fun i => xs.getD i 0)
      obtain ⟨kk, hkk⟩ := line_rows h.m8 ho
      have hC := chT_rows (n := n) hb1 hb2 hn hm h o ho kk hkk
      cases ht : tb (n = R ∧ MayC xs n)
      · rw [ht] at hC
        exact none (by simp) hC
      · rw [ht] at hC
        obtain ⟨rfl, hmc⟩ := tb_iff.1 ht
        cases o with
        | none => exact none (by rfl) hC
        | some p =>
          obtain ⟨u, v⟩ := p
          obtain ⟨e1, e2, e3, e4, e5, e6⟩ := hkk u v rfl
          exact shown_lines3 _ _ a1 n1 c1 st a2 n2 c2 cols a n c xs w h1 h2 h3 hb1 hb2 u v kk hC ho.1.2.1 ho.1.1.2.1 ho.1.2.2 ((InC.of hm e1).2 e4) ((InC.of hm e2).2 e5)
end Go.Proofs.YtgjokididdffhaaGreat
namespace Go.Proofs.YtgjokididdffhaaGreat
open Go.ChangeShapes Go.WideShapes Go.ChangeAt Go.RowKit Go.Deep
set_option linter.unusedVariables false
theorem law_bytesI : Tryz.prog.bytesOf 3 = 8 := by kernel_rfl
theorem law_cellsI : Tryz.prog.cellsOf 3 = 1 := by kernel_rfl
theorem law_cellsIs : Tryz.prog.cellsOf 23 = 1 := by kernel_rfl
theorem law_cellsP : Tryz.prog.cellsOf 25 = 4 := by kernel_rfl
theorem trod_s4 {H : Type} {enc : TypeId × Value → H} {P : Program} {w : World} {base : Nat} {spare : Nat → Bool} {held : Bool} {t : TypeId} {f0 f1 f2 f3 : Field} {fuel : Nat} {cs : List Value} {x : DataW H × List MemPlace} (ht : P.underlying t = some (.struct #[f0, f1, f2, f3])) (h : DataW.trod enc P w base spare held fuel t cs = some x) :
    ∃ y0 y1 y2 y3 n, x = (.agg [y0.1, y1.1, y2.1, y3.1], y0.2 ++ (y1.2 ++ (y2.2 ++ y3.2))) ∧ cs.length = P.cellsOf t ∧ DataW.trod enc P w base spare held n f0.type ((cs.drop f0.offset).take (P.cellsOf f0.type)) = some y0 ∧
      DataW.trod enc P w base spare held n f1.type ((cs.drop f1.offset).take (P.cellsOf f1.type)) = some y1 ∧ DataW.trod enc P w base spare held n f2.type ((cs.drop f2.offset).take (P.cellsOf f2.type)) = some y2 ∧ DataW.trod enc P w base spare held n f3.type ((cs.drop f3.offset).take (P.cellsOf f3.type)) = some y3 := by
  obtain ⟨xs, n, _, rfl, hl, hlen, hf⟩ := DataW.trod_struct ht h
  match xs, hlen with
  | [y0, y1, y2, y3], _ => exact ⟨y0, y1, y2, y3, n, by simp, hl, by simpa using hf 0 f0 rfl, by simpa using hf 1 f1 rfl, by simpa using hf 2 f2 rfl, by simpa using hf 3 f3 rfl⟩
theorem trod_intsZ {H : Type} {enc : TypeId × Value → H} {W : World} {fuel : Nat} {cs : List Value} {x : DataW H × List MemPlace}
    (h : DataW.trod enc Tryz.prog W 0 (fun _ => true) true fuel 23 cs = some x) (hz : ∀ k ∈ x.1.weights Tryz.prog 23, k ≤ reachBytes) :
    ∃ a n c xs, cs = [.slice a n c] ∧ SlI W a n c xs ∧ n ≤ 17592186044000 := by
  rcases open_ints Tryz.underlying23 Tryz.underlying3 law_cellsI h with ⟨rfl, _⟩ | ⟨y, n, c, zs, rfl, _, hl, hm, hzl, rfl, hcell, hwz⟩
  · exact ⟨none, 0, 0, [], rfl, SlI.nil _, Nat.zero_le _⟩
  · have hzl' : zs.length = c := by simpa using hzl
    have hb := hz (((lits (H := H) .i64 (zs.take n)).length + (lits (H := H) .i64 (zs.drop n)).length) * Tryz.prog.bytesOf 3) (by simp [DataW.weights, Tryz.underlying23])
    have hlen : (lits (H := H) .i64 (zs.take n)).length + (lits (H := H) .i64 (zs.drop n)).length = c := by
      simp [lits]; omega
    rw [hlen, law_bytesI] at hb
    unfold reachBytes at hb
    refine ⟨some y, n, c, zs.take n, rfl, ⟨by simp; omega, hl, hm, ?_⟩, by omega⟩
    by_cases h0 : n = 0
    · left; subst h0; simp
    · right
      obtain ⟨b, off, spot⟩ := y
      have c0 := hcell 0 (by omega)
      have hspot : spot = none := by simpa [Addr.add] using World.cell?_spot c0
      subst hspot
      refine ⟨b, off, rfl, ?_⟩
      intro i hi
      have hi' : i < n := by simp at hi; omega
      have e : (⟨b, off, none⟩ : Addr).add i = ⟨b, off + i, none⟩ := by unfold Addr.add; split <;> simp_all
      have hzi := hcell i (by omega)
      rw [e] at hzi
      rw [hzi]
      have e2 : (zs.take n).getD i 0 = zs.getD i 0 := by
        simp [List.getD, hi', show i < zs.length from by omega]
      rw [e2]
structure PatZ (W : World) (a1 : Option Addr) (n1 c1 : Nat) (st : List Int) (a2 : Option Addr) (n2 c2 : Nat) (cols : List Int) : Prop where
  h1 : SlI W a1 n1 c1 st
  h2 : SlI W a2 n2 c2 cols
  l1 : n1 ≤ 17592186044000
  l2 : n2 ≤ 17592186044000
set_option maxRecDepth 100000 in
theorem trod_patZ {H : Type} {enc : TypeId × Value → H} {W : World} {fuel : Nat} {cs : List Value} {x : DataW H × List MemPlace}
    (h : DataW.trod enc Tryz.prog W 0 (fun _ => true) true fuel 25 cs = some x) (hz : ∀ k ∈ x.1.weights Tryz.prog 25, k ≤ reachBytes) :
    ∃ rows width a1 n1 c1 st a2 n2 c2 cols, cs = [.int .i64 rows, .int .i64 width, .slice a1 n1 c1, .slice a2 n2 c2] ∧ PatZ W a1 n1 c1 st a2 n2 c2 cols := by
  obtain ⟨y0, y1, y2, y3, k, rfl, hl, h0, h1, h2, h3⟩ := trod_s4 Tryz.underlying25 h
  rw [law_cellsP] at hl
  match cs, hl with
  | [c0, c1, c2, c3], _ =>
    simp only [List.drop_zero, List.drop_succ_cons, law_cellsI, law_cellsIs, List.take_succ_cons, List.take_zero] at h0 h1 h2 h3
    obtain ⟨r, e0, _⟩ := DataW.trod_int Tryz.underlying3 h0
    obtain ⟨wd, e1, _⟩ := DataW.trod_int Tryz.underlying3 h1
    obtain ⟨a1, n1, d1, st, e2, k1, k2⟩ := trod_intsZ h2 (fun k hk => hz k (by simp [DataW.weights, DataW.weightsEach, Tryz.underlying25, hk]))
    obtain ⟨a2, n2, d2, cols, e3, k3, k4⟩ := trod_intsZ h3 (fun k hk => hz k (by simp [DataW.weights, DataW.weightsEach, Tryz.underlying25, hk]))
    cases e0
    cases e1
    cases e2
    cases e3
    exact ⟨r, wd, a1, n1, d1, st, a2, n2, d2, cols, rfl, ⟨k1, k3, k2, k4⟩⟩
set_option maxRecDepth 100000 in
theorem arg_patZ {H : Type} {enc : TypeId × Value → H} {W : World} {v : Value} {d : DataW H} {p : List MemPlace} {r : Reach} {b0 : Nat}
    (hv : Value.okWide Tryz.prog W r b0 25 v) (h : DataW.Trod enc Tryz.prog W 0 (fun _ => true) true 25 v d p) (hz : ∀ k ∈ d.weights Tryz.prog 25, k ≤ reachBytes) :
    ∃ rows width a1 n1 c1 st a2 n2 c2 cols, v = patV rows width a1 n1 c1 a2 n2 c2 ∧ PatZ W a1 n1 c1 st a2 n2 c2 cols := by
  obtain ⟨cs, rfl, hsz⟩ := okWide_struct Tryz.underlying25 hv
  obtain ⟨fuel, hf⟩ := h
  obtain ⟨rows, width, a1, n1, c1, st, a2, n2, c2, cols, e, k⟩ := trod_patZ hf hz
  have hcs : (Value.agg cs).cells.toList = cs.toList := by simp [Value.cells]
  rw [hcs] at e
  refine ⟨rows, width, a1, n1, c1, st, a2, n2, c2, cols, ?_, k⟩
  unfold patV
  congr 1
  apply Array.ext'
  simpa using e
end Go.Proofs.YtgjokididdffhaaGreat
