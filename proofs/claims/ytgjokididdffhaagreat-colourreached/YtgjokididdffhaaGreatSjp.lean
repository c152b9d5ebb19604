/- Cz6 -/
import Derived.Test.YtgjokididdffhaaGreatCz5
import Derived.Test.YtgjokididdffhaaGreatSp2
import Derived.Test.YtgjokididdffhaaGreatRows
import Derived.ProofKit
import Derived.OpenShut
import Derived.ShutString
import Derived.ChangeOld
import Derived.Below
import Derived.SizedLaws
namespace Go.Proofs.YtgjokididdffhaaGreat
open Go.RowKit Go.Deep
set_option linter.unusedVariables false
section
variable {k : Int} {R width n1 n2 m : Nat} {st cols S C : List Int} {Q : Nat → Bool} {G G1 G3 : Nat} {wd : Bool}
theorem leA_nb (h : KdY k R width n1 n2 st cols m S C Q G G1 93 G3 wd) (a1 a2 : Option Addr) (c1 c2 : Nat) (w : World) (g1 : SlI w a1 n1 c1 st) (g2 : SlI w a2 n2 c2 cols) : Calls Tryz.prog 10 #[.int .i64 k, patV (R : Int) (width : Int) a1 n1 c1 a2 n2 c2] w fun e w' => LeA (BarN S C) m w w' e :=
  cLeast_yes (BarN S C) (fun _ _ => True) (fun _ _ _ _ _ => trivial) (fun _ _ _ _ _ _ _ => trivial) (fun _ _ _ => trivial) k G G1 _ G3 wd R width m S C a1 a2 n1 c1 n2 c2 st cols w g1 g2 h.m8 (fun X x d y z g h' => frAll_nb h.may h.sl h.cl) (fun W' => h.task a1 a2 c1 c2 W')
theorem leA_st (h : KdY k R width n1 n2 st cols m S C Q G G1 102 G3 wd) (a1 a2 : Option Addr) (c1 c2 : Nat) (w : World) (g1 : SlI w a1 n1 c1 st) (g2 : SlI w a2 n2 c2 cols) : Calls Tryz.prog 10 #[.int .i64 k, patV (R : Int) (width : Int) a1 n1 c1 a2 n2 c2] w fun e w' => LeA (BarP S C) m w w' e :=
  cLeast_yes (BarP S C) (fun _ _ => True) (fun _ _ _ _ _ => trivial) (fun _ _ _ _ _ _ _ => trivial) (fun _ _ _ => trivial) k G G1 _ G3 wd R width m S C a1 a2 n1 c1 n2 c2 st cols w g1 g2 h.m8 (fun X x d y z g h' => frAll_st h.may h.sl h.cl) (fun W' => h.task a1 a2 c1 c2 W')
theorem leA_ac (h : KdY k R width n1 n2 st cols m S C Q G G1 104 G3 wd) (a1 a2 : Option Addr) (c1 c2 : Nat) (w : World) (g1 : SlI w a1 n1 c1 st) (g2 : SlI w a2 n2 c2 cols) : Calls Tryz.prog 10 #[.int .i64 k, patV (R : Int) (width : Int) a1 n1 c1 a2 n2 c2] w fun e w' => LeA (BarA S C m) m w w' e :=
  cLeast_yes (BarA S C m) (fun X W => ∃ pf, RoF W X 16 pf) (fun X W W' ⟨pf, hr⟩ b => ⟨pf, hr.below b⟩) (fun X g W W' hne ⟨pf, hr⟩ b => ⟨pf, hr.chg b (fun e => hne e.symm)⟩) (fun X W hr => ⟨_, hr⟩) k G G1 _ G3 wd R width m S C a1 a2 n1 c1 n2 c2 st cols w g1 g2 h.m8 (fun X x d y z g h' => frAll_ac h.may h.gra h.sl h.cl) (fun W' => h.task a1 a2 c1 c2 W')
end
theorem kd_asym1 {R width n1 n2 : Nat} {st cols : List Int} (hb1 : n1 ≤ 17592186044000) (hb2 : n2 ≤ 17592186044000) (hm : MayP (R : Int) (width : Int) st cols) (hne : R ≠ width) : KdN 1 (R : Int) (width : Int) n1 n2 st cols 220 :=
  ⟨by decide, (fun a1 a2 c1 c2 W h1 h2 => ctask_err_self 1 92 93 94 false R width 220 (by decide) a1 a2 n1 c1 n2 c2 st cols W h1 h2 hb1 hb2 hm (fun W' => crules_proper W') (fun W' g1 g2 => citself_asym R width a1 a2 n1 c1 n2 c2 st cols W' g1 g2 hb1 hb2 hm (fun h => hne h.1))), (fun a1 a2 c1 c2 W h1 h2 => wthings_bad R width a1 a2 n1 c1 n2 c2 st cols W h1 h2 (by omega) (by omega) hm (fun h => hne h.1))⟩
theorem kd_asym4 {R width n1 n2 : Nat} {st cols : List Int} (hb1 : n1 ≤ 17592186044000) (hb2 : n2 ≤ 17592186044000) (hm : MayP (R : Int) (width : Int) st cols) (hne : R ≠ width) : KdN 4 (R : Int) (width : Int) n1 n2 st cols 220 :=
  ⟨by decide, (fun a1 a2 c1 c2 W h1 h2 => ctask_err_self 4 101 102 94 true R width 220 (by decide) a1 a2 n1 c1 n2 c2 st cols W h1 h2 hb1 hb2 hm (fun W' => crules_star W') (fun W' g1 g2 => citself_asym R width a1 a2 n1 c1 n2 c2 st cols W' g1 g2 hb1 hb2 hm (fun h => hne h.1))), (fun a1 a2 c1 c2 W h1 h2 => wthings_bad4 R width a1 a2 n1 c1 n2 c2 st cols W h1 h2 (by omega) (by omega) hm (fun h => hne h.1))⟩
theorem kd_asym5 {R width n1 n2 : Nat} {st cols : List Int} (hb1 : n1 ≤ 17592186044000) (hb2 : n2 ≤ 17592186044000) (hm : MayP (R : Int) (width : Int) st cols) (hne : R ≠ width) : KdN 5 (R : Int) (width : Int) n1 n2 st cols 220 :=
  ⟨by decide, (fun a1 a2 c1 c2 W h1 h2 => ctask_err_self 5 103 104 94 true R width 220 (by decide) a1 a2 n1 c1 n2 c2 st cols W h1 h2 hb1 hb2 hm (fun W' => crules_acyc W') (fun W' g1 g2 => citself_asym R width a1 a2 n1 c1 n2 c2 st cols W' g1 g2 hb1 hb2 hm (fun h => hne h.1))), (fun a1 a2 c1 c2 W h1 h2 => wthings_bad5 R width a1 a2 n1 c1 n2 c2 st cols W h1 h2 (by omega) (by omega) hm (fun h => hne h.1))⟩
theorem colourReached_walk (k rows width : Int) (a1 : Option Addr) (n1 c1 : Nat) (st : List Int) (a2 : Option Addr) (n2 c2 : Nat) (cols : List Int) (w : World) (h1 : SlI w a1 n1 c1 st) (h2 : SlI w a2 n2 c2 cols) (hb1 : n1 ≤ 17592186044000) (hb2 : n2 ≤ 17592186044000) :
    Calls Tryz.prog 3 #[.int .i64 k, patV rows width a1 n1 c1 a2 n2 c2] w fun e w' => e = .returned (.bool true) ∧ Below w.heap.size w w' := by
  rcases kd_all k rows width n1 n2 st cols h1.len h2.len hb1 hb2 with ⟨er, h⟩ | ⟨R, W, rfl, rfl, hm, h⟩
  · exact reached_no k er h.ne rows width a1 n1 c1 st a2 n2 c2 cols w h1 h2 (fun W s1 s2 => cLeast_no k rows width er h.ne a1 a2 n1 c1 n2 c2 st cols W s1 s2 (h.task a1 a2 c1 c2))
  · have far : ∀ {bar : (Nat → Int) → Nat → Nat → Prop} {m : Nat}, ¬ m ≤ 8 → (∀ W', SlI W' a1 n1 c1 st → SlI W' a2 n2 c2 cols → Calls Tryz.prog 10 #[.int .i64 k, patV (R : Int) (W : Int) a1 n1 c1 a2 n2 c2] W' fun e w' => LeA bar m W' w' e) → Calls Tryz.prog 3 #[.int .i64 k, patV (R : Int) (W : Int) a1 n1 c1 a2 n2 c2] w fun e w' => e = .returned (.bool true) ∧ Below w.heap.size w w' := fun h8 hL =>
      reached_no k 1 (by decide) _ _ a1 n1 c1 st a2 n2 c2 cols w h1 h2 (fun W' s1 s2 => (hL W' s1 s2).mono (fun e w' q => least_far h8 q))
    rcases h with ⟨rfl, Q, h⟩ | ⟨rfl, Q, h⟩ | ⟨rfl, Q, h⟩ | ⟨rfl, Q, h⟩ | ⟨rfl, Q, h⟩
    · by_cases hRW : R = W
      · by_cases h8 : R ≤ 8
        · obtain ⟨r, hY, hF⟩ := rcY_nb h8 h
          exact reached_k1 _ _ a1 n1 c1 st a2 n2 c2 cols w h1 h2 R r _ (by rw [hRW]) hY (rcY_hi h hF)
        · exact far h8 (fun W' s1 s2 => leA_nb h a1 a2 c1 c2 W' s1 s2)
      · have hN := kd_asym1 hb1 hb2 hm hRW
        exact reached_no 1 220 (by decide) _ _ a1 n1 c1 st a2 n2 c2 cols w h1 h2 (fun W' s1 s2 => cLeast_no 1 _ _ 220 (by decide) a1 a2 n1 c1 n2 c2 st cols W' s1 s2 (hN.task a1 a2 c1 c2))
    · by_cases hRW : R = W
      · by_cases h8 : R ≤ 8
        · obtain ⟨r, hY, hF⟩ := rcY_st h8 h
          exact reached_k4 _ _ a1 n1 c1 st a2 n2 c2 cols w h1 h2 R r _ (by rw [hRW]) hY
        · exact far h8 (fun W' s1 s2 => leA_st h a1 a2 c1 c2 W' s1 s2)
      · have hN := kd_asym4 hb1 hb2 hm hRW
        exact reached_no 4 220 (by decide) _ _ a1 n1 c1 st a2 n2 c2 cols w h1 h2 (fun W' s1 s2 => cLeast_no 4 _ _ 220 (by decide) a1 a2 n1 c1 n2 c2 st cols W' s1 s2 (hN.task a1 a2 c1 c2))
    · by_cases hRW : R = W
      · by_cases h8 : R ≤ 8
        · obtain ⟨r, hY, hF⟩ := rcY_ac h8 h
          exact reached_k5 _ _ a1 n1 c1 st a2 n2 c2 cols w h1 h2 R r _ (by rw [hRW]) hY
        · exact far h8 (fun W' s1 s2 => leA_ac h a1 a2 c1 c2 W' s1 s2)
      · have hN := kd_asym5 hb1 hb2 hm hRW
        exact reached_no 5 220 (by decide) _ _ a1 n1 c1 st a2 n2 c2 cols w h1 h2 (fun W' s1 s2 => cLeast_no 5 _ _ 220 (by decide) a1 a2 n1 c1 n2 c2 st cols W' s1 s2 (hN.task a1 a2 c1 c2))
    · by_cases h8 : W ≤ 8
      · obtain ⟨r, hY, hF⟩ := rcY_nb h8 h
        exact reached_k2 _ _ a1 n1 c1 st a2 n2 c2 cols w h1 h2 W r _ rfl hY (rcY_hi h hF)
      · exact far h8 (fun W' s1 s2 => leA_nb h a1 a2 c1 c2 W' s1 s2)
    · by_cases h8 : R ≤ 8
      · obtain ⟨r, hY, hF⟩ := rcY_nb h8 h
        exact reached_k3 _ _ a1 n1 c1 st a2 n2 c2 cols w h1 h2 R r _ rfl hY (rcY_hi h hF)
      · exact far h8 (fun W' s1 s2 => leA_nb h a1 a2 c1 c2 W' s1 s2)
end Go.Proofs.YtgjokididdffhaaGreat
namespace Go.Proofs.YtgjokididdffhaaGreat
open Go.ChangeShapes Go.WideShapes Go.ChangeAt Go.RowKit Go.Deep
set_option linter.unusedVariables false
theorem law_bytesI : Tryz.prog.bytesOf 3 = 8 := by kernel_rfl
theorem law_cellsI : Tryz.prog.cellsOf 3 = 1 := by kernel_rfl
theorem law_cellsIs : Tryz.prog.cellsOf 23 = 1 := by kernel_rfl
theorem law_cellsP : Tryz.prog.cellsOf 25 = 4 := by kernel_rfl
theorem trod_s4 {H : Type} {enc : TypeId × Value → H} {P : Program} {w : World} {base : Nat} {spare : Nat → Bool} {held : Bool} {t : TypeId} {f0 f1 f2 f3 : Field} {fuel : Nat} {cs : List Value} {x : DataW H × List MemPlace} (ht : P.underlying t = some (.struct #[f0, f1, f2, f3])) (h : DataW.trod enc P w base spare held fuel t cs = some x) :
    ∃ y0 y1 y2 y3 n, x = (.agg [y0.1, y1.1, y2.1, y3.1], y0.2 ++ (y1.2 ++ (y2.2 ++ y3.2))) ∧ cs.length = P.cellsOf t ∧ DataW.trod enc P w base spare held n f0.type ((cs.drop f0.offset).take (P.cellsOf f0.type)) = some y0 ∧
      DataW.trod enc P w base spare held n f1.type ((cs.drop f1.offset).take (P.cellsOf f1.type)) = some y1 ∧ DataW.trod enc P w base spare held n f2.type ((cs.drop f2.offset).take (P.cellsOf f2.type)) = some y2 ∧ DataW.trod enc P w base spare held n f3.type ((cs.drop f3.offset).take (P.cellsOf f3.type)) = some y3 := by
  obtain ⟨xs, n, _, rfl, hl, hlen, hf⟩ := DataW.trod_struct ht h
  match xs, hlen with
  | [y0, y1, y2, y3], _ => exact ⟨y0, y1, y2, y3, n, by simp, hl, by simpa using hf 0 f0 rfl, by simpa using hf 1 f1 rfl, by simpa using hf 2 f2 rfl, by simpa using hf 3 f3 rfl⟩
theorem trod_intsZ {H : Type} {enc : TypeId × Value → H} {W : World} {fuel : Nat} {cs : List Value} {x : DataW H × List MemPlace}
    (h : DataW.trod enc Tryz.prog W 0 (fun _ => true) true fuel 23 cs = some x) (hz : ∀ k ∈ x.1.weights Tryz.prog 23, k ≤ reachBytes) :
    ∃ a n c xs, cs = [.slice a n c] ∧ SlI W a n c xs ∧ n ≤ 17592186044000 := by
  rcases open_ints Tryz.underlying23 Tryz.underlying3 law_cellsI h with ⟨rfl, _⟩ | ⟨y, n, c, zs, rfl, _, hl, hm, hzl, rfl, hcell, hwz⟩
  · exact ⟨none, 0, 0, [], rfl, SlI.nil _, Nat.zero_le _⟩
  · have hzl' : zs.length = c := by simpa using hzl
    have hb := hz (((lits (H := H) .i64 (zs.take n)).length + (lits (H := H) .i64 (zs.drop n)).length) * Tryz.prog.bytesOf 3) (by simp [DataW.weights, Tryz.underlying23])
    have hlen : (lits (H := H) .i64 (zs.take n)).length + (lits (H := H) .i64 (zs.drop n)).length = c := by
      simp [lits]; omega
    rw [hlen, law_bytesI] at hb
    unfold reachBytes at hb
    refine ⟨some y, n, c, zs.take n, rfl, ⟨by simp; omega, hl, hm, ?_⟩, by omega⟩
    by_cases h0 : n = 0
    · left; subst h0; simp
    · right
      obtain ⟨b, off, spot⟩ := y
      have c0 := hcell 0 (by omega)
      have hspot : spot = none := by simpa [Addr.add] using World.cell?_spot c0
      subst hspot
      refine ⟨b, off, rfl, ?_⟩
      intro i hi
      have hi' : i < n := by simp at hi; omega
      have e : (⟨b, off, none⟩ : Addr).add i = ⟨b, off + i, none⟩ := by unfold Addr.add; split <;> simp_all
      have hzi := hcell i (by omega)
      rw [e] at hzi
      rw [hzi]
      have e2 : (zs.take n).getD i 0 = zs.getD i 0 := by
        simp [List.getD, hi', show i < zs.length from by omega]
      rw [e2]
structure PatZ (W : World) (a1 : Option Addr) (n1 c1 : Nat) (st : List Int) (a2 : Option Addr) (n2 c2 : Nat) (cols : List Int) : Prop where
  h1 : SlI W a1 n1 c1 st
  h2 : SlI W a2 n2 c2 cols
  l1 : n1 ≤ 17592186044000
  l2 : n2 ≤ 17592186044000
set_option maxRecDepth 100000 in
theorem trod_patZ {H : Type} {enc : TypeId × Value → H} {W : World} {fuel : Nat} {cs : List Value} {x : DataW H × List MemPlace}
    (h : DataW.trod enc Tryz.prog W 0 (fun _ => true) true fuel 25 cs = some x) (hz : ∀ k ∈ x.1.weights Tryz.prog 25, k ≤ reachBytes) :
    ∃ rows width a1 n1 c1 st a2 n2 c2 cols, cs = [.int .i64 rows, .int .i64 width, .slice a1 n1 c1, .slice a2 n2 c2] ∧ PatZ W a1 n1 c1 st a2 n2 c2 cols := by
  obtain ⟨y0, y1, y2, y3, k, rfl, hl, h0, h1, h2, h3⟩ := trod_s4 Tryz.underlying25 h
  rw [law_cellsP] at hl
  match cs, hl with
  | [c0, c1, c2, c3], _ =>
    simp only [List.drop_zero, List.drop_succ_cons, law_cellsI, law_cellsIs, List.take_succ_cons, List.take_zero] at h0 h1 h2 h3
    obtain ⟨r, e0, _⟩ := DataW.trod_int Tryz.underlying3 h0
    obtain ⟨wd, e1, _⟩ := DataW.trod_int Tryz.underlying3 h1
    obtain ⟨a1, n1, d1, st, e2, k1, k2⟩ := trod_intsZ h2 (fun k hk => hz k (by simp [DataW.weights, DataW.weightsEach, Tryz.underlying25, hk]))
    obtain ⟨a2, n2, d2, cols, e3, k3, k4⟩ := trod_intsZ h3 (fun k hk => hz k (by simp [DataW.weights, DataW.weightsEach, Tryz.underlying25, hk]))
    cases e0
    cases e1
    cases e2
    cases e3
    exact ⟨r, wd, a1, n1, d1, st, a2, n2, d2, cols, rfl, ⟨k1, k3, k2, k4⟩⟩
set_option maxRecDepth 100000 in
theorem arg_patZ {H : Type} {enc : TypeId × Value → H} {W : World} {v : Value} {d : DataW H} {p : List MemPlace} {r : Reach} {b0 : Nat}
    (hv : Value.okWide Tryz.prog W r b0 25 v) (h : DataW.Trod enc Tryz.prog W 0 (fun _ => true) true 25 v d p) (hz : ∀ k ∈ d.weights Tryz.prog 25, k ≤ reachBytes) :
    ∃ rows width a1 n1 c1 st a2 n2 c2 cols, v = patV rows width a1 n1 c1 a2 n2 c2 ∧ PatZ W a1 n1 c1 st a2 n2 c2 cols := by
  obtain ⟨cs, rfl, hsz⟩ := okWide_struct Tryz.underlying25 hv
  obtain ⟨fuel, hf⟩ := h
  obtain ⟨rows, width, a1, n1, c1, st, a2, n2, c2, cols, e, k⟩ := trod_patZ hf hz
  have hcs : (Value.agg cs).cells.toList = cs.toList := by simp [Value.cells]
  rw [hcs] at e
  refine ⟨rows, width, a1, n1, c1, st, a2, n2, c2, cols, ?_, k⟩
  unfold patV
  congr 1
  apply Array.ext'
  simpa using e
end Go.Proofs.YtgjokididdffhaaGreat
