/- Cw4 -/
import Derived.Test.YtgjokididdffhaaGreatCk3
import Derived.Test.YtgjokididdffhaaGreatCh8
namespace Go.Proofs.YtgjokididdffhaaGreat
open Go.RowKit Go.Deep
set_option linter.unusedVariables false
structure KdY (k : Int) (R width n1 n2 : Nat) (st cols : List Int) (m : Nat) (S C : List Int) (Q : Nat → Bool) (G G1 G2 G3 : Nat) (wd : Bool) : Prop where
  may : MayP (m : Int) (m : Int) S C
  gra : GraP S C m m
  m8 : m ≤ 128
  sl : S.length ≤ 17592186044000
  cl : C.length ≤ 17592186044000
  hQ : ∀ u v, u < m → v < m → (Q (u * m + v) = true ↔ adG S C m u v)
  task : ∀ (a1 a2 : Option Addr) (c1 c2 : Nat) W, SlI W a1 n1 c1 st → SlI W a2 n2 c2 cols → Calls Tryz.prog 34 #[.int .i64 k, patV (R : Int) (width : Int) a1 n1 c1 a2 n2 c2] W fun e w' => TkP W w' e G G1 G2 G3 wd R width a1 n1 c1 a2 n2 c2 m S C
  thg : ∀ (a1 a2 : Option Addr) (c1 c2 : Nat) W, SlI W a1 n1 c1 st → SlI W a2 n2 c2 cols → Calls Tryz.prog 21 #[.int .i64 k, patV (R : Int) (width : Int) a1 n1 c1 a2 n2 c2] W fun e w' => TgQ W w' e m (m * m) Q
structure KdN (k rows width : Int) (n1 n2 : Nat) (st cols : List Int) (er : Int) : Prop where
  ne : (er != 0) = true
  task : ∀ (a1 a2 : Option Addr) (c1 c2 : Nat) W, SlI W a1 n1 c1 st → SlI W a2 n2 c2 cols → Calls Tryz.prog 34 #[.int .i64 k, patV rows width a1 n1 c1 a2 n2 c2] W fun e w' => TkN W w' e er
  thg : ∀ (a1 a2 : Option Addr) (c1 c2 : Nat) W, SlI W a1 n1 c1 st → SlI W a2 n2 c2 cols → Calls Tryz.prog 21 #[.int .i64 k, patV rows width a1 n1 c1 a2 n2 c2] W fun e w' => e = .returned (.tuple #[.agg #[.int .i64 0, .slice none 0 0], .int .i64 er]) ∧ Below W.heap.size W w'
theorem gra_gr {P : Nat → Nat → Prop} {n : Nat} (hn : n ≤ 128) (sy : ∀ u v, P u v → P v u) (ir : ∀ u, ¬ P u u) : GraP (grS P n n) (grC P n n) n n ∧ ∀ u v, u < n → v < n → (adG (grS P n n) (grC P n n) n u v ↔ P u v) := by
  have key : ∀ u v, u < n → v < n → (InC (grS P n n) (grC P n n) v u ↔ P u v) := fun u v hu hv => (rowL_mem (may_gr hn) hu).symm.trans (mem_gr hu hv)
  refine ⟨⟨rfl, fun u v hu hv h => (key u v hu hv).2 (sy _ _ ((key v u hv hu).1 h)), fun ⟨u, hu, h⟩ => ir u ((key u u hu hu).1 h)⟩, fun u v hu hv => ⟨fun h => (key u v hu hv).1 h.2.2, fun h => ⟨hu, hv, (key u v hu hv).2 h⟩⟩⟩
theorem kd_proper (R width : Nat) (n1 n2 : Nat) (st cols : List Int) (hl1 : st.length = n1) (hl2 : cols.length = n2) (hb1 : n1 ≤ 17592186044000) (hb2 : n2 ≤ 17592186044000) (hm : MayP (R : Int) (width : Int) st cols) : (∃ Q, KdY 1 R width n1 n2 st cols R st cols Q 49 92 93 94 false) ∨ (∃ er, KdN 1 (R : Int) (width : Int) n1 n2 st cols er) := by
  by_cases hg : GraP st cols R width
  · have hRw := hg.1
    subst hRw
    have hR8 : R ≤ 128 := by have := hm.head.fit; omega
    have hP : ∀ (a1 a2 : Option Addr) (c1 c2 : Nat) W, SlI W a1 n1 c1 st → SlI W a2 n2 c2 cols → Calls Tryz.prog 34 #[.int .i64 1, patV (R : Int) (R : Int) a1 n1 c1 a2 n2 c2] W fun e w' => TkP W w' e 49 92 93 94 false R R a1 n1 c1 a2 n2 c2 R st cols := fun a1 a2 c1 c2 W h1 h2 =>
      ctask_ok_self 1 92 93 94 false R R R st cols a1 a2 n1 c1 n2 c2 st cols W h1 h2 hb1 hb2 hm (fun W' => crules_proper W') (fun W' g1 g2 => (citself_yes R R a1 a2 n1 c1 n2 c2 st cols W' g1 g2 hb1 hb2 hm hg).mono (fun e w' ⟨he, hb⟩ => by
        subst hl1 hl2
        exact ⟨a1, c1, a2, c2, he, g1.below hb, g2.below hb, hb, fun t ht hne => .inl (h1.block_lt hne t ht), fun t ht hne => .inl (h2.block_lt hne t ht)⟩))
    have hT : ∀ (a1 a2 : Option Addr) (c1 c2 : Nat) W, SlI W a1 n1 c1 st → SlI W a2 n2 c2 cols → Calls Tryz.prog 21 #[.int .i64 1, patV (R : Int) (R : Int) a1 n1 c1 a2 n2 c2] W fun e w' => TgQ W w' e R (R * R) (fun x => tb (Vis R R st cols cols.length x)) := fun a1 a2 c1 c2 W h1 h2 =>
      (wthings_yes R a1 a2 n1 c1 n2 c2 st cols W h1 h2 (by omega) (by omega) hm hg).mono (fun e w' h => tgQ_of h)
    exact .inl ⟨fun x => tb (Vis R R st cols cols.length x), hm, hg, hR8, by omega, by omega, fun u v hu hv => Iff.trans (vis_in hm hu hv) ⟨fun h => ⟨hu, hv, h⟩, fun h => h.2.2⟩, hP, hT⟩
  · refine .inr ⟨220, by decide, (fun a1 a2 c1 c2 W h1 h2 => ctask_err_self 1 92 93 94 false R width 220 (by decide) a1 a2 n1 c1 n2 c2 st cols W h1 h2 hb1 hb2 hm (fun W' => crules_proper W') (fun W' g1 g2 => ?_)), (fun a1 a2 c1 c2 W h1 h2 => wthings_bad R width a1 a2 n1 c1 n2 c2 st cols W h1 h2 (by omega) (by omega) hm hg)⟩
    by_cases hs : R = width ∧ SyP st cols R
    · obtain ⟨rfl, hsy⟩ := hs
      exact citself_diag R a1 a2 n1 c1 n2 c2 st cols W' g1 g2 hb1 hb2 hm hsy (Classical.byContradiction (fun hd => hg ⟨rfl, hsy, hd⟩))
    · exact citself_asym R width a1 a2 n1 c1 n2 c2 st cols W' g1 g2 hb1 hb2 hm hs
theorem kd_star (R width : Nat) (n1 n2 : Nat) (st cols : List Int) (hl1 : st.length = n1) (hl2 : cols.length = n2) (hb1 : n1 ≤ 17592186044000) (hb2 : n2 ≤ 17592186044000) (hm : MayP (R : Int) (width : Int) st cols) : (∃ Q, KdY 4 R width n1 n2 st cols R st cols Q 49 101 102 94 true) ∨ (∃ er, KdN 4 (R : Int) (width : Int) n1 n2 st cols er) := by
  by_cases hg : GraP st cols R width
  · have hRw := hg.1
    subst hRw
    have hR8 : R ≤ 128 := by have := hm.head.fit; omega
    have hP : ∀ (a1 a2 : Option Addr) (c1 c2 : Nat) W, SlI W a1 n1 c1 st → SlI W a2 n2 c2 cols → Calls Tryz.prog 34 #[.int .i64 4, patV (R : Int) (R : Int) a1 n1 c1 a2 n2 c2] W fun e w' => TkP W w' e 49 101 102 94 true R R a1 n1 c1 a2 n2 c2 R st cols := fun a1 a2 c1 c2 W h1 h2 =>
      ctask_ok_self 4 101 102 94 true R R R st cols a1 a2 n1 c1 n2 c2 st cols W h1 h2 hb1 hb2 hm (fun W' => crules_star W') (fun W' g1 g2 => (citself_yes R R a1 a2 n1 c1 n2 c2 st cols W' g1 g2 hb1 hb2 hm hg).mono (fun e w' ⟨he, hb⟩ => by
        subst hl1 hl2
        exact ⟨a1, c1, a2, c2, he, g1.below hb, g2.below hb, hb, fun t ht hne => .inl (h1.block_lt hne t ht), fun t ht hne => .inl (h2.block_lt hne t ht)⟩))
    have hT : ∀ (a1 a2 : Option Addr) (c1 c2 : Nat) W, SlI W a1 n1 c1 st → SlI W a2 n2 c2 cols → Calls Tryz.prog 21 #[.int .i64 4, patV (R : Int) (R : Int) a1 n1 c1 a2 n2 c2] W fun e w' => TgQ W w' e R (R * R) (fun x => tb (Vis R R st cols cols.length x)) := fun a1 a2 c1 c2 W h1 h2 =>
      (wthings_yes4 R a1 a2 n1 c1 n2 c2 st cols W h1 h2 (by omega) (by omega) hm hg).mono (fun e w' h => tgQ_of h)
    exact .inl ⟨fun x => tb (Vis R R st cols cols.length x), hm, hg, hR8, by omega, by omega, fun u v hu hv => Iff.trans (vis_in hm hu hv) ⟨fun h => ⟨hu, hv, h⟩, fun h => h.2.2⟩, hP, hT⟩
  · refine .inr ⟨220, by decide, (fun a1 a2 c1 c2 W h1 h2 => ctask_err_self 4 101 102 94 true R width 220 (by decide) a1 a2 n1 c1 n2 c2 st cols W h1 h2 hb1 hb2 hm (fun W' => crules_star W') (fun W' g1 g2 => ?_)), (fun a1 a2 c1 c2 W h1 h2 => wthings_bad4 R width a1 a2 n1 c1 n2 c2 st cols W h1 h2 (by omega) (by omega) hm hg)⟩
    by_cases hs : R = width ∧ SyP st cols R
    · obtain ⟨rfl, hsy⟩ := hs
      exact citself_diag R a1 a2 n1 c1 n2 c2 st cols W' g1 g2 hb1 hb2 hm hsy (Classical.byContradiction (fun hd => hg ⟨rfl, hsy, hd⟩))
    · exact citself_asym R width a1 a2 n1 c1 n2 c2 st cols W' g1 g2 hb1 hb2 hm hs
theorem kd_acyc (R width : Nat) (n1 n2 : Nat) (st cols : List Int) (hl1 : st.length = n1) (hl2 : cols.length = n2) (hb1 : n1 ≤ 17592186044000) (hb2 : n2 ≤ 17592186044000) (hm : MayP (R : Int) (width : Int) st cols) : (∃ Q, KdY 5 R width n1 n2 st cols R st cols Q 49 103 104 94 true) ∨ (∃ er, KdN 5 (R : Int) (width : Int) n1 n2 st cols er) := by
  by_cases hg : GraP st cols R width
  · have hRw := hg.1
    subst hRw
    have hR8 : R ≤ 128 := by have := hm.head.fit; omega
    have hP : ∀ (a1 a2 : Option Addr) (c1 c2 : Nat) W, SlI W a1 n1 c1 st → SlI W a2 n2 c2 cols → Calls Tryz.prog 34 #[.int .i64 5, patV (R : Int) (R : Int) a1 n1 c1 a2 n2 c2] W fun e w' => TkP W w' e 49 103 104 94 true R R a1 n1 c1 a2 n2 c2 R st cols := fun a1 a2 c1 c2 W h1 h2 =>
      ctask_ok_self 5 103 104 94 true R R R st cols a1 a2 n1 c1 n2 c2 st cols W h1 h2 hb1 hb2 hm (fun W' => crules_acyc W') (fun W' g1 g2 => (citself_yes R R a1 a2 n1 c1 n2 c2 st cols W' g1 g2 hb1 hb2 hm hg).mono (fun e w' ⟨he, hb⟩ => by
        subst hl1 hl2
        exact ⟨a1, c1, a2, c2, he, g1.below hb, g2.below hb, hb, fun t ht hne => .inl (h1.block_lt hne t ht), fun t ht hne => .inl (h2.block_lt hne t ht)⟩))
    have hT : ∀ (a1 a2 : Option Addr) (c1 c2 : Nat) W, SlI W a1 n1 c1 st → SlI W a2 n2 c2 cols → Calls Tryz.prog 21 #[.int .i64 5, patV (R : Int) (R : Int) a1 n1 c1 a2 n2 c2] W fun e w' => TgQ W w' e R (R * R) (fun x => tb (Vis R R st cols cols.length x)) := fun a1 a2 c1 c2 W h1 h2 =>
      (wthings_yes5 R a1 a2 n1 c1 n2 c2 st cols W h1 h2 (by omega) (by omega) hm hg).mono (fun e w' h => tgQ_of h)
    exact .inl ⟨fun x => tb (Vis R R st cols cols.length x), hm, hg, hR8, by omega, by omega, fun u v hu hv => Iff.trans (vis_in hm hu hv) ⟨fun h => ⟨hu, hv, h⟩, fun h => h.2.2⟩, hP, hT⟩
  · refine .inr ⟨220, by decide, (fun a1 a2 c1 c2 W h1 h2 => ctask_err_self 5 103 104 94 true R width 220 (by decide) a1 a2 n1 c1 n2 c2 st cols W h1 h2 hb1 hb2 hm (fun W' => crules_acyc W') (fun W' g1 g2 => ?_)), (fun a1 a2 c1 c2 W h1 h2 => wthings_bad5 R width a1 a2 n1 c1 n2 c2 st cols W h1 h2 (by omega) (by omega) hm hg)⟩
    by_cases hs : R = width ∧ SyP st cols R
    · obtain ⟨rfl, hsy⟩ := hs
      exact citself_diag R a1 a2 n1 c1 n2 c2 st cols W' g1 g2 hb1 hb2 hm hsy (Classical.byContradiction (fun hd => hg ⟨rfl, hsy, hd⟩))
    · exact citself_asym R width a1 a2 n1 c1 n2 c2 st cols W' g1 g2 hb1 hb2 hm hs
theorem kd_cols (R width : Nat) (n1 n2 : Nat) (st cols : List Int) (hl1 : st.length = n1) (hl2 : cols.length = n2) (hb1 : n1 ≤ 17592186044000) (hb2 : n2 ≤ 17592186044000) (hm : MayP (R : Int) (width : Int) st cols) : ∃ Q, KdY 2 R width n1 n2 st cols width (grS (CoP st cols R) width width) (grC (CoP st cols R) width width) Q 95 96 93 97 false := by
  have hR8 : R ≤ 128 ∧ width ≤ 128 := by have := hm.head.fit; omega
  have hlc := grC_len (CoP st cols R) width width
  have hlc2 : width * width ≤ 128 * 128 := Nat.mul_le_mul (by omega) (by omega)
  have hP : ∀ (a1 a2 : Option Addr) (c1 c2 : Nat) W, SlI W a1 n1 c1 st → SlI W a2 n2 c2 cols → Calls Tryz.prog 34 #[.int .i64 2, patV (R : Int) (width : Int) a1 n1 c1 a2 n2 c2] W fun e w' => TkP W w' e 95 96 93 97 false R width a1 n1 c1 a2 n2 c2 width (grS (CoP st cols R) width width) (grC (CoP st cols R) width width) := fun a1 a2 c1 c2 W h1 h2 =>
    ctask_ok_cols 2 96 93 97 false R width width _ _ a1 a2 n1 c1 n2 c2 st cols W h1 h2 hb1 hb2 hm (fun W' => crules_cols W') (fun W' g1 g2 => (ccolumns_yes R width a1 a2 n1 c1 n2 c2 st cols W' g1 g2 (by omega) (by omega) hm).mono (fun e w' ⟨x, d, y, z, he, s1, s2, hb, e1, e2⟩ => ⟨x, d, y, z, he, s1, s2, hb, fun t ht _ => .inr (e1 t ht), fun t ht _ => .inr (e2 t ht)⟩))
  have hT : ∀ (a1 a2 : Option Addr) (c1 c2 : Nat) W, SlI W a1 n1 c1 st → SlI W a2 n2 c2 cols → Calls Tryz.prog 21 #[.int .i64 2, patV (R : Int) (width : Int) a1 n1 c1 a2 n2 c2] W fun e w' => TgQ W w' e width (width * width) (fun x => tb (LnQ (fun j u v => InC st cols u j ∧ InC st cols v j) width R width 0 0 x)) := fun a1 a2 c1 c2 W h1 h2 =>
    wthings_cols R width a1 a2 n1 c1 n2 c2 st cols W h1 h2 (by omega) (by omega) hm
  obtain ⟨g1, g2⟩ := gra_gr (P := CoP st cols R) (n := width) (by omega) (fun u v h => ⟨fun e => h.1 e.symm, by obtain ⟨_, j, hj, h1, h2⟩ := h; exact ⟨j, hj, h2, h1⟩⟩) (fun u h => h.1 rfl)
  exact ⟨_, may_gr (by omega), g1, by omega, by rw [grS_len]; omega, by omega, fun u v hu hv => Iff.trans (tb_iff.trans (LnQ.last hu hv)) (g2 u v hu hv).symm, hP, hT⟩
theorem kd_rows (R width : Nat) (n1 n2 : Nat) (st cols : List Int) (hl1 : st.length = n1) (hl2 : cols.length = n2) (hb1 : n1 ≤ 17592186044000) (hb2 : n2 ≤ 17592186044000) (hm : MayP (R : Int) (width : Int) st cols) : ∃ Q, KdY 3 R width n1 n2 st cols R (grS (RwP st cols width) R R) (grC (RwP st cols width) R R) Q 98 99 93 100 false := by
  have hR8 : R ≤ 128 ∧ width ≤ 128 := by have := hm.head.fit; omega
  have hlc := grC_len (RwP st cols width) R R
  have hlc2 : R * R ≤ 128 * 128 := Nat.mul_le_mul (by omega) (by omega)
  have hP : ∀ (a1 a2 : Option Addr) (c1 c2 : Nat) W, SlI W a1 n1 c1 st → SlI W a2 n2 c2 cols → Calls Tryz.prog 34 #[.int .i64 3, patV (R : Int) (width : Int) a1 n1 c1 a2 n2 c2] W fun e w' => TkP W w' e 98 99 93 100 false R width a1 n1 c1 a2 n2 c2 R (grS (RwP st cols width) R R) (grC (RwP st cols width) R R) := fun a1 a2 c1 c2 W h1 h2 =>
    ctask_ok_rows 3 99 93 100 false R width R _ _ a1 a2 n1 c1 n2 c2 st cols W h1 h2 hb1 hb2 hm (fun W' => crules_rows W') (fun W' g1 g2 => (crowsf_yes R width a1 a2 n1 c1 n2 c2 st cols W' g1 g2 (by omega) (by omega) hm).mono (fun e w' ⟨x, d, y, z, he, s1, s2, hb, e1, e2⟩ => ⟨x, d, y, z, he, s1, s2, hb, fun t ht _ => .inr (e1 t ht), fun t ht _ => .inr (e2 t ht)⟩))
  have hT : ∀ (a1 a2 : Option Addr) (c1 c2 : Nat) W, SlI W a1 n1 c1 st → SlI W a2 n2 c2 cols → Calls Tryz.prog 21 #[.int .i64 3, patV (R : Int) (width : Int) a1 n1 c1 a2 n2 c2] W fun e w' => TgQ W w' e R (R * R) (fun x => tb (LnQ (fun j u v => InC st cols j u ∧ InC st cols j v) R width R 0 0 x)) := fun a1 a2 c1 c2 W h1 h2 =>
    wthings_rows R width a1 a2 n1 c1 n2 c2 st cols W h1 h2 (by omega) (by omega) hm
  obtain ⟨g1, g2⟩ := gra_gr (P := RwP st cols width) (n := R) (by omega) (fun u v h => ⟨fun e => h.1 e.symm, by obtain ⟨_, j, hj, h1, h2⟩ := h; exact ⟨j, hj, h2, h1⟩⟩) (fun u h => h.1 rfl)
  exact ⟨_, may_gr (by omega), g1, by omega, by rw [grS_len]; omega, by omega, fun u v hu hv => Iff.trans (tb_iff.trans (LnQ.last hu hv)) (g2 u v hu hv).symm, hP, hT⟩
theorem kd_all (k rows width : Int) (n1 n2 : Nat) (st cols : List Int) (hl1 : st.length = n1) (hl2 : cols.length = n2) (hb1 : n1 ≤ 17592186044000) (hb2 : n2 ≤ 17592186044000) :
    (∃ er, KdN k rows width n1 n2 st cols er) ∨ (∃ R W : Nat, rows = (R : Int) ∧ width = (W : Int) ∧ MayP (R : Int) (W : Int) st cols ∧ (
      (k = 1 ∧ ∃ Q, KdY k R W n1 n2 st cols R st cols Q 49 92 93 94 false) ∨
      (k = 4 ∧ ∃ Q, KdY k R W n1 n2 st cols R st cols Q 49 101 102 94 true) ∨
      (k = 5 ∧ ∃ Q, KdY k R W n1 n2 st cols R st cols Q 49 103 104 94 true) ∨
      (k = 2 ∧ ∃ Q, KdY k R W n1 n2 st cols W (grS (CoP st cols R) W W) (grC (CoP st cols R) W W) Q 95 96 93 97 false) ∨
      (k = 3 ∧ ∃ Q, KdY k R W n1 n2 st cols R (grS (RwP st cols W) R R) (grC (RwP st cols W) R R) Q 98 99 93 100 false))) := by
  by_cases hm : MayP rows width st cols
  · obtain ⟨R, rfl⟩ : ∃ R : Nat, rows = (R : Int) := ⟨rows.toNat, by have := hm.head.fit; omega⟩
    obtain ⟨W, rfl⟩ : ∃ W : Nat, width = (W : Int) := ⟨width.toNat, by have := hm.head.fit; omega⟩
    by_cases k1 : k = 1
    · subst k1
      exact (kd_proper R W n1 n2 st cols hl1 hl2 hb1 hb2 hm).elim (fun h => .inr ⟨R, W, rfl, rfl, hm, .inl ⟨rfl, h⟩⟩) .inl
    by_cases k2 : k = 2
    · subst k2
      exact .inr ⟨R, W, rfl, rfl, hm, .inr (.inr (.inr (.inl ⟨rfl, kd_cols R W n1 n2 st cols hl1 hl2 hb1 hb2 hm⟩)))⟩
    by_cases k3 : k = 3
    · subst k3
      exact .inr ⟨R, W, rfl, rfl, hm, .inr (.inr (.inr (.inr ⟨rfl, kd_rows R W n1 n2 st cols hl1 hl2 hb1 hb2 hm⟩)))⟩
    by_cases k4 : k = 4
    · subst k4
      exact (kd_star R W n1 n2 st cols hl1 hl2 hb1 hb2 hm).elim (fun h => .inr ⟨R, W, rfl, rfl, hm, .inr (.inl ⟨rfl, h⟩)⟩) .inl
    by_cases k5 : k = 5
    · subst k5
      exact (kd_acyc R W n1 n2 st cols hl1 hl2 hb1 hb2 hm).elim (fun h => .inr ⟨R, W, rfl, rfl, hm, .inr (.inr (.inl ⟨rfl, h⟩))⟩) .inl
    have f1 : (k == 1) = false := by simp [k1]
    have f2 : (k == 2) = false := by simp [k2]
    have f3 : (k == 3) = false := by simp [k3]
    have f4 : (k == 4) = false := by simp [k4]
    have f5 : (k == 5) = false := by simp [k5]
    exact .inl ⟨242, by decide, (fun a1 a2 c1 c2 W' h1 h2 => ctask_off k R W a1 a2 n1 c1 n2 c2 st cols W' h1 h2 hb1 hb2 hm (fun W'' => crules_off k f1 f2 f3 f4 f5 W'')), (fun a1 a2 c1 c2 W' h1 h2 => wthings_off k f1 f2 f3 f4 f5 R W a1 a2 n1 c1 n2 c2 st cols W' h1 h2 (by omega) (by omega) hm)⟩
  · exact .inl ⟨180, by decide, (fun a1 a2 c1 c2 W' h1 h2 => ctask_pat k rows width a1 a2 n1 c1 n2 c2 st cols W' h1 h2 hb1 hb2 hm), (fun a1 a2 c1 c2 W' h1 h2 => wthings_no k rows width a1 a2 n1 c1 n2 c2 st cols W' h1 h2 (by omega) (by omega) hm)⟩
end Go.Proofs.YtgjokididdffhaaGreat
