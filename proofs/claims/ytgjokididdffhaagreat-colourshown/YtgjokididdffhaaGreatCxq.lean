/- Cxp -/
import Derived.Test.YtgjokididdffhaaGreatCxc
import Derived.Test.YtgjokididdffhaaGreatCxb
import Derived.Test.YtgjokididdffhaaGreatCx3
import Derived.Test.YtgjokididdffhaaGreatCx5
import Derived.Test.YtgjokididdffhaaGreatCx6
import Derived.Test.YtgjokididdffhaaGreatCxl
import Derived.Test.YtgjokididdffhaaGreatCx9
import Derived.Test.YtgjokididdffhaaGreatCw4
import Derived.Test.YtgjokididdffhaaGreatCx7
import Derived.Test.YtgjokididdffhaaGreatSp3
namespace Go.Proofs.YtgjokididdffhaaGreat
open Go.RowKit Go.Deep
set_option linter.unusedVariables false
theorem BsI.exL (P : Int → Int → Prop) : ∀ L : List (Int × Int), ∃ q, BsI (fun c d => (c, d) ∈ L ∧ P c d) q
  | [] => ⟨none, fun c d h => by simp at h⟩
  | p :: L => by
    obtain ⟨q, hq⟩ := BsI.exL P L
    obtain ⟨a, b⟩ := p
    by_cases hp : P a b
    · cases q with
      | none =>
        refine ⟨some (a, b), ⟨List.mem_cons_self, hp⟩, fun c' d' h => ?_⟩
        rcases List.mem_cons.1 h.1 with e | e
        · cases e; exact .inr ⟨rfl, Int.le_refl _⟩
        · exact absurd ⟨e, h.2⟩ (hq c' d')
      | some q =>
        obtain ⟨c, d⟩ := q
        by_cases hlt : a < c ∨ (a = c ∧ b ≤ d)
        · refine ⟨some (a, b), ⟨List.mem_cons_self, hp⟩, fun c' d' h => ?_⟩
          rcases List.mem_cons.1 h.1 with e | e
          · cases e; exact .inr ⟨rfl, Int.le_refl _⟩
          · have := hq.2 c' d' ⟨e, h.2⟩
            omega
        · refine ⟨some (c, d), ⟨List.mem_cons_of_mem _ hq.1.1, hq.1.2⟩, fun c' d' h => ?_⟩
          rcases List.mem_cons.1 h.1 with e | e
          · cases e; omega
          · exact hq.2 c' d' ⟨e, h.2⟩
    · refine ⟨q, hq.congr (fun c d => ⟨fun h => ?_, fun h => ⟨List.mem_cons_of_mem _ h.1, h.2⟩⟩)⟩
      rcases List.mem_cons.1 h.1 with e | e
      · cases e; exact absurd h.2 hp
      · exact ⟨e, h.2⟩
theorem CiP.ex (st cols : List Int) (R : Nat) (xs : List Int) : ∃ q, BsI (CiP st cols R xs) q := by
  obtain ⟨q, hq⟩ := BsI.exL (CiP st cols R xs) ((List.range R).flatMap (fun u => (List.range R).map (fun v => (xs.getD u 0, xs.getD v 0))))
  refine ⟨q, hq.congr (fun c d => ⟨fun h => ⟨?_, h⟩, fun h => h.2⟩)⟩
  obtain ⟨u, v, had, e1, e2, _⟩ := h
  rw [List.mem_flatMap]
  refine ⟨u, List.mem_range.2 had.1, List.mem_map.2 ⟨v, List.mem_range.2 had.2.1, ?_⟩⟩
  rw [e1, e2]
theorem prL_len (o : Option (Nat × Nat)) : (prL o).length ≤ 4 := by cases o <;> simp [prL]
theorem lnL_len (k : Nat) (o : Option (Nat × Nat)) : (lnL k o).length ≤ 4 := by cases o <;> simp [lnL]
theorem paL_len (o : Option (Nat × Nat × Nat × Nat)) : (paL o).length ≤ 4 := by cases o <;> simp [paL]
theorem ciL_len (o : Option (Int × Int)) : (ciL o).length ≤ 4 := by cases o <;> simp [ciL]
theorem stL_len (o : Option (Nat × Nat)) (q : Option (Nat × Nat × Nat × Nat)) : (stL o q).length ≤ 4 := by
  cases o with
  | none => exact paL_len q
  | some p => exact prL_len (some p)
theorem cfL_len (o : Option (Nat × Nat)) (q : Option (Int × Int)) : (cfL o q).length ≤ 4 := by
  cases o with
  | none => exact ciL_len q
  | some p => exact prL_len (some p)
theorem line_cols {R width : Nat} {st cols : List Int} {cs : Nat → Int} (hw : width ≤ 128) {o : Option (Nat × Nat)} (ho : PrO (adG (grS (CoP st cols R) width width) (grC (CoP st cols R) width width) width) cs o) :
    ∃ kk, ∀ u v, o = some (u, v) → u < width ∧ v < width ∧ kk < R ∧ InC st cols u kk ∧ InC st cols v kk ∧ ∀ j, j < kk → ¬ (InC st cols u j ∧ InC st cols v j) := by
  cases o with
  | none => exact ⟨0, fun u v e => by cases e⟩
  | some p =>
    obtain ⟨u, v⟩ := p
    have had := ho.1.1
    have hc := ((gra_gr (P := CoP st cols R) hw (fun u v h => ⟨fun e => h.1 e.symm, by obtain ⟨_, j, hj, h1, h2⟩ := h; exact ⟨j, hj, h2, h1⟩⟩) (fun u h => h.1 rfl)).2 u v had.1 had.2.1).1 had
    obtain ⟨_, k, hk, h1, h2⟩ := hc
    obtain ⟨y, hy, hn, hl⟩ := least_ex (B := fun j => ¬ (InC st cols u j ∧ InC st cols v j)) (k := k) (fun hb => hb ⟨h1, h2⟩)
    have hn' := Classical.byContradiction hn
    refine ⟨y, fun u' v' e => ?_⟩
    cases e
    exact ⟨had.1, had.2.1, by omega, hn'.1, hn'.2, hl⟩
theorem line_rows {R width : Nat} {st cols : List Int} {cs : Nat → Int} (hw : R ≤ 128) {o : Option (Nat × Nat)} (ho : PrO (adG (grS (RwP st cols width) R R) (grC (RwP st cols width) R R) R) cs o) :
    ∃ kk, ∀ u v, o = some (u, v) → u < R ∧ v < R ∧ kk < width ∧ InC st cols kk u ∧ InC st cols kk v ∧ ∀ j, j < kk → ¬ (InC st cols j u ∧ InC st cols j v) := by
  cases o with
  | none => exact ⟨0, fun u v e => by cases e⟩
  | some p =>
    obtain ⟨u, v⟩ := p
    have had := ho.1.1
    have hc := ((gra_gr (P := RwP st cols width) hw (fun u v h => ⟨fun e => h.1 e.symm, by obtain ⟨_, j, hj, h1, h2⟩ := h; exact ⟨j, hj, h2, h1⟩⟩) (fun u h => h.1 rfl)).2 u v had.1 had.2.1).1 had
    obtain ⟨_, k, hk, h1, h2⟩ := hc
    obtain ⟨y, hy, hn, hl⟩ := least_ex (B := fun j => ¬ (InC st cols j u ∧ InC st cols j v)) (k := k) (fun hb => hb ⟨h1, h2⟩)
    have hn' := Classical.byContradiction hn
    refine ⟨y, fun u' v' e => ?_⟩
    cases e
    exact ⟨had.1, had.2.1, by omega, hn'.1, hn'.2, hl⟩
structure ChT (k rows width : Int) (n1 n2 n : Nat) (st cols xs L : List Int) (er : Int) : Prop where
  len : L.length ≤ 4
  one : ∀ (a1 a2 a : Option Addr) (c1 c2 c : Nat) (w : World), SlI w a1 n1 c1 st → SlI w a2 n2 c2 cols → SlI w a n c xs → Calls Tryz.prog 14 #[.int .i64 k, patV rows width a1 n1 c1 a2 n2 c2, .slice a n c] w fun e w' => FaP L er w w' e
  two : ∀ (a1 a2 a : Option Addr) (c1 c2 c : Nat) (w : World), SlI w a1 n1 c1 st → SlI w a2 n2 c2 cols → SlI w a n c xs → Calls Tryz.prog 30 #[.int .i64 k, patV rows width a1 n1 c1 a2 n2 c2, .slice a n c] w fun e w' => FaP L er w w' e
theorem faL_eq {ok : Bool} {o : Option (Nat × Nat)} {Lf Lp Lt : List Int} (h1 : o = none → Lf = Lt) (h2 : ∀ p, o = some p → Lf = Lp) : (if ok = true then Lf else []) = faL ok o Lp Lt := by
  cases ok with
  | false => rfl
  | true =>
    cases o with
    | none => exact h1 rfl
    | some p => exact h2 p rfl
theorem faP_no {L : List Int} {er : Int} {w w' : World} {e : Ending} (h : e = .returned (.tuple #[.slice none 0 0, .int .i64 er]) ∧ Below w.heap.size w w') : FaP [] er w w' e := ⟨h.2, none, 0, h.1, World.ownsRow_nil _ _ _ _⟩
section
variable {k : Int} {R width n1 n2 n m : Nat} {st cols xs S C : List Int} {Q : Nat → Bool} {G G1 G2 G3 : Nat} {wd : Bool}
theorem chT_of {ok : Bool} {o : Option (Nat × Nat)} {Lf Lp Lt : List Int} (hl : Lf.length ≤ 4) (h1 : o = none → Lf = Lt) (h2 : ∀ p, o = some p → Lf = Lp)
    (hp : ∀ (a1 a2 a : Option Addr) (c1 c2 c : Nat) W, SlI W a1 n1 c1 st → SlI W a2 n2 c2 cols → SlI W a n c xs → Calls Tryz.prog 14 #[.int .i64 k, patV (R : Int) (width : Int) a1 n1 c1 a2 n2 c2, .slice a n c] W fun e w' => FaP (if ok = true then Lf else []) (faE ok) W w' e)
    (hw : ∀ (a1 a2 a : Option Addr) (c1 c2 c : Nat) W, SlI W a1 n1 c1 st → SlI W a2 n2 c2 cols → SlI W a n c xs → Calls Tryz.prog 30 #[.int .i64 k, patV (R : Int) (width : Int) a1 n1 c1 a2 n2 c2, .slice a n c] W fun e w' => FaP (faL ok o Lp Lt) (faE ok) W w' e) :
    ChT k (R : Int) (width : Int) n1 n2 n st cols xs (if ok = true then Lf else []) (faE ok) := by
  refine ⟨?_, hp, ?_⟩
  · cases ok
    · simp
    · exact hl
  · rw [faL_eq h1 h2]
    exact hw
theorem adG_lt : ∀ u v, adG S C m u v → u < m ∧ v < m := fun u v h => ⟨h.1, h.2.1⟩
theorem chT_pair (hk2 : (k == 2) = false) (hk3 : (k == 3) = false) (hk4 : (k == 4) = false) (hk5 : (k == 5) = false) (hb1 : n1 ≤ 17592186044000) (hb2 : n2 ≤ 17592186044000) (hn : n ≤ 17592186044000) (hm : MayP (R : Int) (width : Int) st cols) (h : KdY k R width n1 n2 st cols m S C Q G 92 G2 G3 wd) (o : Option (Nat × Nat)) (ho : PrO (adG S C m) (fun i => xs.getD i 0) o) : ChT k (R : Int) (width : Int) n1 n2 n st cols xs (if tb (n = m ∧ MayC xs n) = true then prL o else []) (faE (tb (n = m ∧ MayC xs n))) := by
  refine chT_of (ok := tb (n = m ∧ MayC xs n)) (o := o) (Lf := prL o) (Lp := prL o) (Lt := []) (prL_len o) (fun e => by rw [e]; rfl) (fun p e => rfl) (fun a1 a2 a c1 c2 c W g1 g2 g3 => ?_) (fun a1 a2 a c1 c2 c W g1 g2 g3 => ?_)
  · exact cFault_pair k G G2 G3 wd R width m S C a n c xs a1 a2 n1 c1 n2 c2 st cols W g1 g2 g3 hn h.sl h.cl h.may _ tb_iff (prL o) (fun hnm hmc x d y z W' s1 s2 s3 s4 s5 => by
      subst hnm
      exact cpair_any _ _ _ _ wd R width a1 n1 c1 a2 n2 c2 n x S.length d y C.length z S C a c xs W' s1 s2 s5 h.sl h.cl h.may o ho) (fun W' => h.task a1 a2 c1 c2 W')
  · refine wFault_yes k false false hk4 hk5 R width m Q (adG S C m) h.hQ adG_lt a n c xs a1 a2 n1 c1 n2 c2 st cols W g1 g2 g3 hn h.m8 _ tb_iff o ho (prL o) [] (fun u v e hu hv W' s1 s2 => ?_) (fun e => by cases e) (fun _ e => by cases e) (fun _ _ => rfl) (fun W' => h.thg a1 a2 c1 c2 W')
    subst e
    exact wwhere_off k hk2 hk3 R width a1 a2 n1 c1 n2 c2 st cols u v W' s1 s2 (by omega) (by omega) hm
theorem chT_star (hk2 : (k == 2) = false) (hk3 : (k == 3) = false) (hk4 : (k == 4) = true) (hb1 : n1 ≤ 17592186044000) (hb2 : n2 ≤ 17592186044000) (hn : n ≤ 17592186044000) (hm : MayP (R : Int) (width : Int) st cols) (h : KdY k R width n1 n2 st cols m S C Q G 101 G2 G3 wd) (o : Option (Nat × Nat)) (ho : PrO (adG S C m) (fun i => xs.getD i 0) o) (q : Option (Nat × Nat × Nat × Nat)) (hq : PaO (adG S C m) (fun i => xs.getD i 0) q) : ChT k (R : Int) (width : Int) n1 n2 n st cols xs (if tb (n = m ∧ MayC xs n) = true then stL o q else []) (faE (tb (n = m ∧ MayC xs n))) := by
  refine chT_of (ok := tb (n = m ∧ MayC xs n)) (o := o) (Lf := stL o q) (Lp := prL o) (Lt := paL q) (stL_len o q) (fun e => by rw [e]; rfl) (fun p e => by rw [e]; rfl) (fun a1 a2 a c1 c2 c W g1 g2 g3 => ?_) (fun a1 a2 a c1 c2 c W g1 g2 g3 => ?_)
  · exact cFault_star k G G2 G3 wd R width m S C a n c xs a1 a2 n1 c1 n2 c2 st cols W g1 g2 g3 hn h.sl h.cl h.may _ tb_iff (stL o q) (fun hnm hmc x d y z W' s1 s2 s3 s4 s5 => by
      subst hnm
      exact cstarF_any _ _ _ _ wd R width a1 n1 c1 a2 n2 c2 n x S.length d y C.length z S C a c xs W' s1 s2 s5 h.sl h.cl h.may o ho q hq) (fun W' => h.task a1 a2 c1 c2 W')
  · refine wFault_yes k true (k == 5) hk4 rfl R width m Q (adG S C m) h.hQ adG_lt a n c xs a1 a2 n1 c1 n2 c2 st cols W g1 g2 g3 hn h.m8 _ tb_iff o ho (prL o) (paL q) (fun u v e hu hv W' s1 s2 => ?_) (fun _ hnm gb W' r1 r2 => ?_) (fun e => by cases e) (fun e => by cases e) (fun W' => h.thg a1 a2 c1 c2 W')
    · subst e
      exact wwhere_off k hk2 hk3 R width a1 a2 n1 c1 n2 c2 st cols u v W' s1 s2 (by omega) (by omega) hm
    · subst hnm
      exact wpath_any n gb (n * n) Q (adG S C n) h.hQ adG_lt a c xs W' h.m8 rfl r1 r2 q hq
theorem chT_acyc (hk2 : (k == 2) = false) (hk3 : (k == 3) = false) (hk4 : (k == 4) = false) (hk5 : (k == 5) = true) (hb1 : n1 ≤ 17592186044000) (hb2 : n2 ≤ 17592186044000) (hn : n ≤ 17592186044000) (hm : MayP (R : Int) (width : Int) st cols) (h : KdY k R width n1 n2 st cols m S C Q G 103 G2 G3 wd) (o : Option (Nat × Nat)) (ho : PrO (adG S C m) (fun i => xs.getD i 0) o) (q : Option (Int × Int)) (hq : BsI (CiP S C m xs) q) : ChT k (R : Int) (width : Int) n1 n2 n st cols xs (if tb (n = m ∧ MayC xs n) = true then cfL o q else []) (faE (tb (n = m ∧ MayC xs n))) := by
  refine chT_of (ok := tb (n = m ∧ MayC xs n)) (o := o) (Lf := cfL o q) (Lp := prL o) (Lt := ciL q) (cfL_len o q) (fun e => by rw [e]; rfl) (fun p e => by rw [e]; rfl) (fun a1 a2 a c1 c2 c W g1 g2 g3 => ?_) (fun a1 a2 a c1 c2 c W g1 g2 g3 => ?_)
  · exact cFault_circ k G G2 G3 wd R width m S C a n c xs a1 a2 n1 c1 n2 c2 st cols W g1 g2 g3 hn h.sl h.cl h.may _ tb_iff (cfL o q) (fun hnm hmc x d y z W' s1 s2 s3 s4 s5 => by
      subst hnm
      exact ccircF_any _ _ _ _ wd R width a1 n1 c1 a2 n2 c2 n x S.length d y C.length z S C a c xs W' s1 s2 s5 h.sl h.cl h.may h.gra o ho q hq) (fun W' => h.task a1 a2 c1 c2 W')
  · refine wFault_yes k false true hk4 hk5 R width m Q (adG S C m) h.hQ adG_lt a n c xs a1 a2 n1 c1 n2 c2 st cols W g1 g2 g3 hn h.m8 _ tb_iff o ho (prL o) (ciL q) (fun u v e hu hv W' s1 s2 => ?_) (fun e => by cases e) (fun _ _ hnm gb W' r1 r2 => ?_) (fun _ e => by cases e) (fun W' => h.thg a1 a2 c1 c2 W')
    · subst e
      exact wwhere_off k hk2 hk3 R width a1 a2 n1 c1 n2 c2 st cols u v W' s1 s2 (by omega) (by omega) hm
    · subst hnm
      exact wcircle_any n gb (n * n) Q (adG S C n) h.hQ adG_lt a c xs W' h.m8 rfl r1 r2 q (bsi_cqp h.hQ hq)
end
section
variable {R width n1 n2 n : Nat} {st cols xs : List Int} {Q : Nat → Bool} {G G2 G3 : Nat} {wd : Bool}
theorem chT_cols (hb1 : n1 ≤ 17592186044000) (hb2 : n2 ≤ 17592186044000) (hn : n ≤ 17592186044000) (hm : MayP (R : Int) (width : Int) st cols) (h : KdY 2 R width n1 n2 st cols width (grS (CoP st cols R) width width) (grC (CoP st cols R) width width) Q G 96 G2 G3 wd) (o : Option (Nat × Nat)) (ho : PrO (adG (grS (CoP st cols R) width width) (grC (CoP st cols R) width width) width) (fun i => xs.getD i 0) o) (kk : Nat) (hkk : ∀ u v, o = some (u, v) → u < width ∧ v < width ∧ kk < R ∧ InC st cols u kk ∧ InC st cols v kk ∧ ∀ j, j < kk → ¬ (InC st cols u j ∧ InC st cols v j)) : ChT 2 (R : Int) (width : Int) n1 n2 n st cols xs (if tb (n = width ∧ MayC xs n) = true then lnL kk o else []) (faE (tb (n = width ∧ MayC xs n))) := by
  refine chT_of (ok := tb (n = width ∧ MayC xs n)) (o := o) (Lf := lnL kk o) (Lp := lnL kk o) (Lt := []) (lnL_len kk o) (fun e => by rw [e]; rfl) (fun p e => rfl) (fun a1 a2 a c1 c2 c W g1 g2 g3 => ?_) (fun a1 a2 a c1 c2 c W g1 g2 g3 => ?_)
  · exact cFault_cols 2 G G2 G3 wd R width width _ _ a n c xs a1 a2 n1 c1 n2 c2 st cols W g1 g2 g3 hn h.sl h.cl h.may _ tb_iff (lnL kk o) (fun hnm hmc x d y z W' s1 s2 s3 s4 s5 => by
      rw [hnm] at s5 ⊢
      exact ccolF_any _ _ _ _ wd R width a1 n1 c1 a2 n2 c2 width x _ d y _ z st cols _ _ a c xs W' s3 s4 hb1 hb2 hm s1 s2 s5 h.sl h.cl h.may o ho kk (fun u v e => by
        obtain ⟨e1, e2, e3, e4, e5, e6⟩ := hkk u v e
        exact ⟨e3, ⟨(rowL_mem hm e3).2 e4, (rowL_mem hm e3).2 e5⟩, fun j hj hi => e6 j hj ⟨(rowL_mem hm (by omega)).1 hi.1, (rowL_mem hm (by omega)).1 hi.2⟩⟩)) (fun W' => h.task a1 a2 c1 c2 W')
  · refine wFault_yes 2 false false (by decide) (by decide) R width width Q _ h.hQ adG_lt a n c xs a1 a2 n1 c1 n2 c2 st cols W g1 g2 g3 hn h.m8 _ tb_iff o ho (lnL kk o) [] (fun u v e hu hv W' s1 s2 => ?_) (fun e => by cases e) (fun _ e => by cases e) (fun _ _ => rfl) (fun W' => h.thg a1 a2 c1 c2 W')
    obtain ⟨e1, e2, e3, e4, e5, e6⟩ := hkk u v e
    subst e
    exact wwhere_cols 2 (by decide) R width a1 a2 n1 c1 n2 c2 st cols u v W' s1 s2 (by omega) (by omega) hm e1 e2 kk e3 ⟨e4, e5, e6⟩
theorem chT_rows (hb1 : n1 ≤ 17592186044000) (hb2 : n2 ≤ 17592186044000) (hn : n ≤ 17592186044000) (hm : MayP (R : Int) (width : Int) st cols) (h : KdY 3 R width n1 n2 st cols R (grS (RwP st cols width) R R) (grC (RwP st cols width) R R) Q G 99 G2 G3 wd) (o : Option (Nat × Nat)) (ho : PrO (adG (grS (RwP st cols width) R R) (grC (RwP st cols width) R R) R) (fun i => xs.getD i 0) o) (kk : Nat) (hkk : ∀ u v, o = some (u, v) → u < R ∧ v < R ∧ kk < width ∧ InC st cols kk u ∧ InC st cols kk v ∧ ∀ j, j < kk → ¬ (InC st cols j u ∧ InC st cols j v)) : ChT 3 (R : Int) (width : Int) n1 n2 n st cols xs (if tb (n = R ∧ MayC xs n) = true then lnL kk o else []) (faE (tb (n = R ∧ MayC xs n))) := by
  refine chT_of (ok := tb (n = R ∧ MayC xs n)) (o := o) (Lf := lnL kk o) (Lp := lnL kk o) (Lt := []) (lnL_len kk o) (fun e => by rw [e]; rfl) (fun p e => rfl) (fun a1 a2 a c1 c2 c W g1 g2 g3 => ?_) (fun a1 a2 a c1 c2 c W g1 g2 g3 => ?_)
  · exact cFault_rows 3 G G2 G3 wd R width R _ _ a n c xs a1 a2 n1 c1 n2 c2 st cols W g1 g2 g3 hn h.sl h.cl h.may _ tb_iff (lnL kk o) (fun hnm hmc x d y z W' s1 s2 s3 s4 s5 => by
      rw [hnm] at s5 ⊢
      exact crowF_any _ _ _ _ wd R width a1 n1 c1 a2 n2 c2 R x _ d y _ z st cols _ _ a c xs W' s3 s4 hb1 hb2 hm s1 s2 s5 h.sl h.cl h.may o ho kk (fun u v e => by
        obtain ⟨e1, e2, e3, e4, e5, e6⟩ := hkk u v e
        exact ⟨e3, ⟨(grR_mem _ R).2 ⟨u, e1, rfl, e4⟩, (grR_mem _ R).2 ⟨v, e2, rfl, e5⟩⟩, fun j hj hi => by
          obtain ⟨i1, l1, m1, t1⟩ := (grR_mem _ R).1 hi.1
          obtain ⟨i2, l2, m2, t2⟩ := (grR_mem _ R).1 hi.2
          obtain rfl : i1 = u := by omega
          obtain rfl : i2 = v := by omega
          exact e6 j hj ⟨t1, t2⟩⟩)) (fun W' => h.task a1 a2 c1 c2 W')
  · refine wFault_yes 3 false false (by decide) (by decide) R width R Q _ h.hQ adG_lt a n c xs a1 a2 n1 c1 n2 c2 st cols W g1 g2 g3 hn h.m8 _ tb_iff o ho (lnL kk o) [] (fun u v e hu hv W' s1 s2 => ?_) (fun e => by cases e) (fun _ e => by cases e) (fun _ _ => rfl) (fun W' => h.thg a1 a2 c1 c2 W')
    obtain ⟨e1, e2, e3, e4, e5, e6⟩ := hkk u v e
    subst e
    exact wwhere_rows 3 (by decide) (by decide) R width a1 a2 n1 c1 n2 c2 st cols u v W' s1 s2 (by omega) (by omega) hm e1 e2 kk e3 ⟨e4, e5, e6⟩
end
theorem nuB_three {f : Nat → Bool} {N a b c : Nat} (ha : a < N) (hb : b < N) (hc : c < N) (fa : f a = true) (fb : f b = true) (fc : f c = true) (hab : a ≠ b) (hac : a ≠ c) (hbc : b ≠ c) : 3 ≤ nuB f N := by
  have h := nuB_drop fa N ha
  have : 2 ≤ nuB (fun u => if u = a then false else f u) N := nuB_two.2 ⟨b, c, hbc, hb, hc, by simp [fb, Ne.symm hab], by simp [fc, Ne.symm hac]⟩
  omega
set_option maxRecDepth 100000 in
set_option maxHeartbeats 16000000 in
theorem wedges_any (N : Nat) (width : Int) (a1 a2 : Option Addr) (n1 c1 n2 c2 : Nat) (st cols : List Int) (ac : Option Addr) (cc : Nat) (xs : List Int) (cs : Nat → Int) (hcs : (fun i => xs.getD i 0) = cs) (c d : Int) (w : World) (hN : N ≤ 128) (h1 : SlI w a1 n1 c1 st) (h2 : SlI w a2 n2 c2 cols) (hb1 : n1 ≤ 17592186044000) (hb2 : n2 ≤ 17592186044000) (hc : SlI w ac N cc xs) (Q : Nat → Nat → Bool) (hQ : ∀ u v : Nat, u < N → v < N → TruQ (Q u v) (HasP (N : Int) width st cols (u : Int) (v : Int))) (T : Nat → Prop) (hTT : ∀ v, T v → v < N ∧ twB cs c d v = true) (hCy : CyP (fun u v => Q u v = true) T) (hir : ∀ v, v < N → Q v v = false) (hne : ∃ v, T v) :
    Calls Tryz.prog 17 #[patV (N : Int) width a1 n1 c1 a2 n2 c2, .slice ac N cc, .int .i64 c, .int .i64 d] w fun e w' => e = .returned (.bool true) ∧ Below w.heap.size w w' := by
  obtain ⟨wb, hwb⟩ : ∃ x, w.alloc (.cells #[.int .i64 (N : Int), .int .i64 width, .slice a1 n1 c1, .slice a2 n2 c2] 25) = x := ⟨_, rfl⟩
  have bb : Below w.heap.size w wb := by rw [← hwb]; exact (Below.refl _ _).alloc (Nat.le_refl _) _
  have hT := BoxP.made w #[.int .i64 (N : Int), .int .i64 width, .slice a1 n1 c1, .slice a2 n2 c2] 25
  rw [hwb] at hT
  have p0 := (hT.all 0 _ rfl).1
  have hmk := make_boolsP N (by omega) wb
  have hRo := RoV.made wb N 4 (.bool false)
  obtain ⟨wm, hwm⟩ : ∃ x, wb.alloc (.cells (madeCells #[.bool false] N) 4) = x := ⟨_, rfl⟩
  have bm : Below wb.heap.size wb wm := by rw [← hwm]; exact (Below.refl _ _).alloc (Nat.le_refl _) _
  rw [hwm] at hmk hRo
  obtain ⟨g, hg⟩ : ∃ g, wb.heap.size = g := ⟨_, rfl⟩
  rw [hg] at hmk hRo
  have hgw : w.heap.size < g := by rw [← hg, ← hwb]; simp
  have hwmB := bb.trans (bm.mono bb.size)
  have HNx := hide (show ∀ W, Chg (fun j => j = g) wm W → BoxP W w.heap.size [.int .i64 (N : Int), .int .i64 width, .slice a1 n1 c1, .slice a2 n2 c2] ∧ (SlI W a1 n1 c1 st ∧ SlI W a2 n2 c2 cols) ∧ SlI W ac N cc xs ∧ Below w.heap.size w W from fun W k =>
    ⟨((hT.below bm).chg k (show ¬ w.heap.size = g by omega)), ⟨(h1.below hwmB).chg k (fun z hz hne e => by have := h1.block_lt hne z hz; have e9 : z.block = g := e; omega), (h2.below hwmB).chg k (fun z hz hne e => by have := h2.block_lt hne z hz; have e9 : z.block = g := e; omega)⟩, (hc.below hwmB).chg k (fun z hz hne e => by have := hc.block_lt hne z hz; have e9 : z.block = g := e; omega), hwmB.trans (k.below hwmB.size (fun j hj e => by have e' : j = g := e; omega))⟩)
  have HRo := hide hRo
  have HCS := hide hcs
  have HQQ := hide hQ
  have HTT := hide hTT
  have HCy := hide hCy
  have HIR := hide hir
  have HNE := hide hne
  clear hT bb bm h1 h2 hc hRo hwm hg hwmB hQ hTT hCy hir hne
  unfold patV
  go_enter Tryz.func17, Tryz.ntmps17
  go_wp2_with fail
  clear hmk p0
  go_loopw [11, 10] (fun vv nv wr => ∃ v : Nat, v ≤ N ∧ vv = .int .i64 (v : Int) ∧ nv = .int .i64 (nuB (twB cs c d) v : Int) ∧ Hid (RoV wr g N (fun u => .bool (decide (u < v) && twB cs c d u))) ∧ Hid (Chg (fun j => j = g) wm wr)) (fun vv _ _ => N - (intOf vv).toNat)
  case atStart => exact ⟨0, Nat.zero_le _, rfl, rfl, hide ((unhide HRo).congr (fun u hu => by simp)), hide (Chg.refl _ _)⟩
  case round =>
    obtain ⟨v, hv, rfl, rfl, HR, HC⟩ := hrel
    have hbx := unhide HNx wr (unhide HC)
    by_cases hlt : v < N
    · have hlt' : (v : Int) < (N : Int) := by omega
      obtain ⟨bc, oc, ea, hcx⟩ := hbx.2.2.1.at (by omega)
      subst ea
      have s0 : wr.cell? ⟨bc, oc + v, none⟩ = some (.int .i64 (cs v)) := by rw [← unhide HCS]; exact hcx v hlt
      have q0 := (unhide HR v hlt).1
      have q1 := (unhide HR v hlt).2
      obtain ⟨z, hz⟩ : ∃ z, nuB (twB cs c d) v = z := ⟨_, rfl⟩
      have hzl : z ≤ v := by rw [← hz]; exact nuB_le _ _
      have hw1 : IntKind.i64.wrap ((z : Int) + 1) = (z : Int) + 1 := by rw [IntKind.wrap_i64]; omega
      have hput : ∀ t, twB cs c d v = t → RoV (wr.setCell ⟨g, v, none⟩ (.bool t)) g N (fun u => .bool (decide (u < v + 1) && twB cs c d u)) := fun t ht => ((unhide HR).put v _ hlt).congr (fun u hu => by
        by_cases e : u = v
        · rw [if_pos e, e, ht]; simp
        · rw [if_neg e]
          have : (u < v) ↔ (u < v + 1) := by omega
          simp [this])
      have hst : nuB (twB cs c d) (v + 1) = z + (if twB cs c d v = true then 1 else 0) := by simp only [nuB]; rw [hz]
      have HC2 := hide (fun t => (unhide HC).trans (Chg.of_set (S := fun j => j = g) wr g v (.bool t) rfl))
      obtain ⟨y, hy⟩ : ∃ y, cs v = y := ⟨_, rfl⟩
      simp only [hy] at s0
      have htw : twB cs c d v = ((y == c) || (y == d)) := by unfold twB; rw [hy]
      have HP := hide hput
      have HST := hide hst
      have HTW := hide htw
      rw [hz]
      clear hbx hput hst htw hy hz hcx
      by_cases e1 : y = c
      · have d1 : (y == c) = true := by simp [e1]
        have ht : twB cs c d v = true := by rw [unhide HTW, d1]; rfl
        have HP1 := hide (unhide HP true ht)
        have HZ := hide (show nuB (twB cs c d) (v + 1) = z + 1 by rw [unhide HST, if_pos ht])
        have HC3 := hide (unhide HC2 true)
        clear ht e1
        go_wp2_with fail
        exact ⟨⟨v + 1, by omega, by (first | rfl | go_num), by rw [unhide HZ]; simp, HP1, HC3⟩, by simp [intOf]; omega⟩
      · have d1 : (y == c) = false := by simp [e1]
        by_cases e2 : y = d
        · have d2 : (y == d) = true := by simp [e2]
          have ht : twB cs c d v = true := by rw [unhide HTW, d2]; simp
          have HP1 := hide (unhide HP true ht)
          have HZ := hide (show nuB (twB cs c d) (v + 1) = z + 1 by rw [unhide HST, if_pos ht])
          have HC3 := hide (unhide HC2 true)
          clear ht e1 e2
          go_wp2_with fail
          exact ⟨⟨v + 1, by omega, by (first | rfl | go_num), by rw [unhide HZ]; simp, HP1, HC3⟩, by simp [intOf]; omega⟩
        · have d2 : (y == d) = false := by simp [e2]
          have ht : twB cs c d v = false := by rw [unhide HTW, d1, d2]; rfl
          have HP1 := hide (unhide HP false ht)
          have HZ := hide (show nuB (twB cs c d) (v + 1) = z by rw [unhide HST, ht]; simp)
          have HC3 := hide (unhide HC2 false)
          clear ht e1 e2
          go_wp2_with fail
          exact ⟨⟨v + 1, by omega, by (first | rfl | go_num), by rw [unhide HZ], HP1, HC3⟩, by simp [intOf]; omega⟩
    · obtain rfl : v = N := by omega
      have hlt' : ¬ (v : Int) < (v : Int) := by omega
      have HR0 := hide (show RoV wr g v (fun u => .bool (twB cs c d u)) from (unhide HR).congr (fun u hu => by simp [hu]))
      obtain ⟨T0, hT0⟩ : ∃ T0, twB cs c d = T0 := ⟨_, rfl⟩
      rw [hT0] at HR0 HTT ⊢
      clear hbx hT0 HR
      go_wp2_with fail
      go_loopw [12, 10] (fun rv nv wr => ∃ (r : Nat) (lf : Nat → Bool), r ≤ v ∧ rv = .int .i64 (r : Int) ∧ nv = .int .i64 (nuB lf v : Int) ∧ Hid (RoV wr g v (fun u => .bool (lf u))) ∧ Hid (∀ u, T u → lf u = true) ∧ Hid (Chg (fun j => j = g) wm wr)) (fun rv _ _ => v - (intOf rv).toNat)
      case atStart => exact ⟨0, T0, Nat.zero_le _, rfl, rfl, HR0, hide (fun u hu => (unhide HTT u hu).2), HC⟩
      case round =>
        obtain ⟨r, lf0, hr, rfl, rfl, HR1, HP0, HC1⟩ := hrel
        by_cases hrl : r < v
        · have hrl' : (r : Int) < (v : Int) := by omega
          go_wp2_with fail
          go_loopw [13, 10] (fun xv nv wq => ∃ (x : Nat) (lf : Nat → Bool), x ≤ v ∧ xv = .int .i64 (x : Int) ∧ nv = .int .i64 (nuB lf v : Int) ∧ Hid (RoV wq g v (fun u => .bool (lf u))) ∧ Hid (∀ u, T u → lf u = true) ∧ Hid (Chg (fun j => j = g) wm wq)) (fun xv _ _ => v - (intOf xv).toNat)
          case atStart => exact ⟨0, lf0, Nat.zero_le _, rfl, rfl, HR1, HP0, HC1⟩
          case round =>
            obtain ⟨x, lf, hx, rfl, rfl, HR2, HP2, HC2⟩ := hrel
            obtain ⟨w5, hw5⟩ : ∃ y, y = wr := ⟨_, rfl⟩
            subst hw5
            obtain ⟨z, hz⟩ : ∃ z, nuB lf v = z := ⟨_, rfl⟩
            rw [hz]
            have HZ := hide hz
            clear hz
            by_cases hlt2 : x < v
            · have hlt2' : (x : Int) < (v : Int) := by omega
              obtain ⟨t, ht⟩ : ∃ t, lf x = t := ⟨_, rfl⟩
              have HTx := hide ht
              clear ht
              go_wp2_with fail
              go_loopw [15, 14] (fun uv kv wr => ∃ i : Nat, i ≤ v ∧ uv = .int .i64 (i : Int) ∧ kv = .int .i64 (nuB (fun y => lf y && (t && Q y x)) i : Int) ∧ Hid (Below w5.heap.size w5 wr)) (fun uv _ _ => v - (intOf uv).toNat)
              case atStart => exact ⟨0, Nat.zero_le _, rfl, rfl, hide (Below.refl _ _)⟩
              case round =>
                obtain ⟨i, hi, rfl, rfl, HW⟩ := hrel
                have HC3 := hide ((unhide HC2).trans (Chg.of_below (unhide HW)))
                have hbx := unhide HNx wr (unhide HC3)
                have p0 := (hbx.1.all 0 _ rfl).1
                have p1 := (hbx.1.all 1 _ rfl).1
                have p2 := (hbx.1.all 2 _ rfl).1
                have p3 := (hbx.1.all 3 _ rfl).1
                have HR3 := hide ((unhide HR2).below (unhide HW))
                have m0 := (unhide HR3 x hlt2).1
                have m1 := (unhide HR3 x hlt2).2
                simp only [unhide HTx] at m0
                obtain ⟨k, hk⟩ : ∃ k, nuB (fun y => lf y && (t && Q y x)) i = k := ⟨_, rfl⟩
                have hkl : k ≤ i := by rw [← hk]; exact nuB_le _ _
                have hw1 : IntKind.i64.wrap ((k : Int) + 1) = (k : Int) + 1 := by rw [IntKind.wrap_i64]; omega
                have hst : nuB (fun y => lf y && (t && Q y x)) (i + 1) = k + (if (lf i && (t && Q i x)) = true then 1 else 0) := by simp only [nuB]; rw [hk]
                rw [hk]
                have HK := hide hk
                have HST := hide hst
                clear hk hst
                by_cases hin : i < v
                · have hin' : (i : Int) < (v : Int) := by omega
                  have s0 := (unhide HR3 i hin).1
                  obtain ⟨t1, ht1⟩ : ∃ t, lf i = t := ⟨_, rfl⟩
                  simp only [ht1] at s0
                  have HTi := hide ht1
                  have KM := hide (shas_any (v : Int) width a1 a2 n1 c1 n2 c2 st cols (i : Int) (x : Int) wr hbx.2.1.1 hbx.2.1.2 (by omega) (by omega) _ (unhide HQQ i x hin hlt2))
                  unfold patV at KM
                  obtain ⟨q, hq⟩ : ∃ q, Q i x = q := ⟨_, rfl⟩
                  rw [hq] at KM
                  have HQi := hide hq
                  clear ht1 hq hbx
                  cases t1
                  · have HZ2 := hide (show nuB (fun y => lf y && (t && Q y x)) (i + 1) = k by rw [unhide HST, unhide HTi]; simp)
                    go_wp2_with fail
                    exact ⟨⟨i + 1, by omega, by (first | rfl | go_num), by rw [unhide HZ2], HW⟩, by simp [intOf]; omega⟩
                  · cases t
                    · have HZ2 := hide (show nuB (fun y => lf y && (false && Q y x)) (i + 1) = k by rw [unhide HST, unhide HTi]; simp)
                      go_wp2_with fail
                      exact ⟨⟨i + 1, by omega, by (first | rfl | go_num), by rw [unhide HZ2], HW⟩, by simp [intOf]; omega⟩
                    · cases q
                      · have HZ2 := hide (show nuB (fun y => lf y && (true && Q y x)) (i + 1) = k by rw [unhide HST, unhide HTi, unhide HQi]; simp)
                        go_wp2_with fail
                        refine (unhide KM).mono ?_
                        rintro _ w6 ⟨rfl, b6⟩
                        have HW6 := hide ((unhide HW).trans (b6.mono (unhide HW).size))
                        clear KM b6 p0 p1 p2 p3 m0 m1 s0
                        go_wp2_with fail
                        exact ⟨⟨i + 1, by omega, by (first | rfl | go_num), by rw [unhide HZ2], HW6⟩, by simp [intOf]; omega⟩
                      · have HZ2 := hide (show nuB (fun y => lf y && (true && Q y x)) (i + 1) = k + 1 by rw [unhide HST, unhide HTi, unhide HQi]; simp)
                        go_wp2_with fail
                        refine (unhide KM).mono ?_
                        rintro _ w6 ⟨rfl, b6⟩
                        have HW6 := hide ((unhide HW).trans (b6.mono (unhide HW).size))
                        clear KM b6 p0 p1 p2 p3 m0 m1 s0
                        go_wp2_with fail
                        exact ⟨⟨i + 1, by omega, by (first | rfl | go_num), by rw [unhide HZ2]; simp, HW6⟩, by simp [intOf]; omega⟩
                · obtain rfl : i = v := by omega
                  have hin' : ¬ (i : Int) < (i : Int) := by omega
                  clear hbx p0 p1 p2 p3
                  cases t
                  · go_wp2_with fail
                    exact ⟨⟨x + 1, lf, by omega, by (first | rfl | go_num), by rw [unhide HZ], HR3, HP2, HC3⟩, by simp [intOf]; omega⟩
                  · by_cases hd : k < 2
                    · have hd' : (k : Int) < 2 := by omega
                      have hnT : ¬ T x := fun hx => by
                        obtain ⟨p, q, hpq, hp, hq, e1, e2⟩ := (unhide HCy) x hx
                        have : 2 ≤ nuB (fun y => lf y && (true && Q y x)) i := nuB_two.2 ⟨p, q, hpq, (unhide HTT p hp).1, (unhide HTT q hq).1, by simp [unhide HP2 p hp, e1], by simp [unhide HP2 q hq, e2]⟩
                        rw [unhide HK] at this
                        omega
                      have HPd := hide (show ∀ u, T u → (if u = x then false else lf u) = true from fun u hu => by
                        by_cases e : u = x
                        · rw [e] at hu
                          exact absurd hu hnT
                        · rw [if_neg e]
                          exact unhide HP2 u hu)
                      have hz1 := nuB_drop (unhide HTx) i hlt2
                      rw [unhide HZ] at hz1
                      have hzl : z ≤ i := by have := nuB_le lf i; rw [unhide HZ] at this; exact this
                      have hw2 : IntKind.i64.wrap ((z : Int) - 1) = (z : Int) - 1 := by rw [IntKind.wrap_i64]; omega
                      have HZ1 := hide hz1
                      have HR5 := hide (show RoV (wr.setCell ⟨g, x, none⟩ (.bool false)) g i (fun u => .bool (if u = x then false else lf u)) from ((unhide HR3).put x _ hlt2).congr (fun u hu => by by_cases e : u = x <;> simp [e]))
                      have HC5 := hide ((unhide HC3).trans (Chg.of_set (S := fun j => j = g) wr g x (.bool false) rfl))
                      clear hd hz1 hnT
                      go_wp2_with fail
                      exact ⟨⟨x + 1, _, by omega, by (first | rfl | go_num), by have := unhide HZ1; congr 1; omega, HR5, HPd, HC5⟩, by simp [intOf]; omega⟩
                    · have hd' : ¬ (k : Int) < 2 := by omega
                      clear hd
                      go_wp2_with fail
                      exact ⟨⟨x + 1, lf, by omega, by (first | rfl | go_num), by rw [unhide HZ], HR3, HP2, HC3⟩, by simp [intOf]; omega⟩
            · obtain rfl : x = v := by omega
              have hlt2' : ¬ (x : Int) < (x : Int) := by omega
              go_wp2_with fail
              exact ⟨⟨r + 1, lf, by omega, by (first | rfl | go_num), by rw [unhide HZ], HR2, HP2, HC2⟩, by simp [intOf]; omega⟩
        · obtain rfl : r = v := by omega
          have hrl' : ¬ (r : Int) < (r : Int) := by omega
          have HB9 := hide (unhide HNx wr (unhide HC1)).2.2.2
          have h3 : 3 ≤ nuB lf0 r := by
            obtain ⟨x, hx⟩ := unhide HNE
            obtain ⟨p, q, hpq, hp, hq, e1, e2⟩ := (unhide HCy) x hx
            have lx := (unhide HTT x hx).1
            have hi := unhide HIR x lx
            exact nuB_three (unhide HTT p hp).1 (unhide HTT q hq).1 lx (unhide HP0 p hp) (unhide HP0 q hq) (unhide HP0 x hx) hpq (fun e => by subst e; rw [e1] at hi; cases hi) (fun e => by subst e; rw [e2] at hi; cases hi)
          obtain ⟨n0, hn0⟩ : ∃ n0, nuB lf0 r = n0 := ⟨_, rfl⟩
          rw [hn0] at h3 ⊢
          have h3' : (n0 : Int) > 2 := by omega
          clear hn0
          go_wp2_with fail
          try go_ret
          first | exact ⟨rfl, unhide HB9⟩ | exact ⟨by simp; omega, unhide HB9⟩
end Go.Proofs.YtgjokididdffhaaGreat
