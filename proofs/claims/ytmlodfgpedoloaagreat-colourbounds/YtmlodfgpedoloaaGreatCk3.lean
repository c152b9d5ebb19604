/-
  BOUNDS: Bound and Floor of both sides, of every kind and pattern.
-/
import Derived.Test.YtmlodfgpedoloaaGreatCk2
namespace Go.Proofs.YtmlodfgpedoloaaGreat
open Go.RowKit Go.Deep
set_option linter.unusedVariables false

theorem lgT_ex (f : Nat → Nat) (m : Nat) : ∃ q, LgT f m q := by
  induction m with
  | zero => exact ⟨0, fun i hi => absurd hi (Nat.not_lt_zero _), .inl rfl⟩
  | succ j ih => obtain ⟨q, h⟩ := ih; exact ⟨_, h.next⟩
theorem tgQ_of {w w' : World} {e : Ending} {R m : Nat} {f : Nat → Bool} (h : TgP w w' e R m f) : TgQ w w' e R m f := by
  obtain ⟨b, _, e, r, k⟩ := h
  exact ⟨b, e, r, k⟩
theorem two_proper (R width : Nat) (n1 n2 n : Nat) (st cols xs : List Int) (hl1 : st.length = n1) (hl2 : cols.length = n2) (hb1 : n1 ≤ 17592186044000) (hb2 : n2 ≤ 17592186044000) (hn : n ≤ 17592186044000) (hm : MayP (R : Int) (width : Int) st cols) : (∃ q er, BnT 1 (R : Int) (width : Int) n1 n2 n st cols xs q er) ∧ (∃ q er, FlT 1 (R : Int) (width : Int) n1 n2 st cols q er) := by
  by_cases hg : GraP st cols R width
  · have hRw := hg.1
    subst hRw
    have hR8 : R ≤ 128 := by have := hm.head.fit; omega
    have hP : ∀ (a1 a2 : Option Addr) (c1 c2 : Nat) W, SlI W a1 n1 c1 st → SlI W a2 n2 c2 cols → Calls Tryz.prog 13 #[.int .i64 1, patV (R : Int) (R : Int) a1 n1 c1 a2 n2 c2] W fun e w' => TkP W w' e 52 53 54 55 false R R a1 n1 c1 a2 n2 c2 R st cols := fun a1 a2 c1 c2 W h1 h2 =>
      ctask_ok_self 1 53 54 55 false R R R st cols a1 a2 n1 c1 n2 c2 st cols W h1 h2 hb1 hb2 hm (fun W' => crules_proper W') (fun W' g1 g2 => (citself_yes R R a1 a2 n1 c1 n2 c2 st cols W' g1 g2 hb1 hb2 hm hg).mono (fun e w' ⟨he, hb⟩ => by
        subst hl1 hl2
        exact ⟨a1, c1, a2, c2, he, g1.below hb, g2.below hb, hb, fun t ht hne => .inl (h1.block_lt hne t ht), fun t ht hne => .inl (h2.block_lt hne t ht)⟩))
    have hT : ∀ (a1 a2 : Option Addr) (c1 c2 : Nat) W, SlI W a1 n1 c1 st → SlI W a2 n2 c2 cols → Calls Tryz.prog 17 #[.int .i64 1, patV (R : Int) (R : Int) a1 n1 c1 a2 n2 c2] W fun e w' => TgQ W w' e R (R * R) (fun x => tb (Vis R R st cols cols.length x)) := fun a1 a2 c1 c2 W h1 h2 =>
      (wthings_yes R a1 a2 n1 c1 n2 c2 st cols W h1 h2 (by omega) (by omega) hm hg).mono (fun e w' h => tgQ_of h)
    refine ⟨bnT_of (E := fun u v => InC st cols v u) hn (by omega) (by omega) hm (fun u v hu hv => rowL_mem hm hu) hP (fun a1 a2 a c1 c2 c W h1 h2 h3 => wBound_ff 1 (by decide) (by decide) R R R (fun x => tb (Vis R R st cols cols.length x)) (fun u v => InC st cols v u) (fun u v hu hv => vis_in hm hu hv) a n c xs a1 a2 n1 c1 n2 c2 st cols W h1 h2 h3 hn hR8 (hT a1 a2 c1 c2)), ?_⟩
    refine flT_of (m := R) (P := fun q => q = flG n2) (P' := fun q => q = flG n2) (fun q q' e e' => e.trans e'.symm) (fun q q' e e' => e.trans e'.symm) ⟨_, rfl⟩ (fun a1 a2 c1 c2 W h1 h2 => cFloor_two 1 52 53 54 false R R R st cols _ a1 a2 n1 c1 n2 c2 st cols W h1 h2 (hP a1 a2 c1 c2) (fun W' g1 g2 => (ctwo_any (R : Int) (R : Int) a1 a2 n1 c1 n2 c2 W').mono (fun e w' ⟨he, hb⟩ => ⟨min 2 n2, by rw [he]; congr 2; omega, by omega, ?_, hb⟩))) (fun a1 a2 c1 c2 W h1 h2 => wFloor_gr 1 (by decide) (by decide) R R R _ a1 a2 n1 c1 n2 c2 st cols W h1 h2 (hT a1 a2 c1 c2) hb2)
    have := gra_two hm hg
    unfold flG
    split <;> omega
  · refine bnT_no (er := 220) (by decide) (fun a1 a2 c1 c2 W h1 h2 => ctask_err_self 1 53 54 55 false R width 220 (by decide) a1 a2 n1 c1 n2 c2 st cols W h1 h2 hb1 hb2 hm (fun W' => crules_proper W') (fun W' g1 g2 => ?_)) (fun a1 a2 c1 c2 W h1 h2 => wthings_bad R width a1 a2 n1 c1 n2 c2 st cols W h1 h2 (by omega) (by omega) hm hg)
    by_cases hs : R = width ∧ SyP st cols R
    · obtain ⟨rfl, hsy⟩ := hs
      exact citself_diag R a1 a2 n1 c1 n2 c2 st cols W' g1 g2 hb1 hb2 hm hsy (Classical.byContradiction (fun hd => hg ⟨rfl, hsy, hd⟩))
    · exact citself_asym R width a1 a2 n1 c1 n2 c2 st cols W' g1 g2 hb1 hb2 hm hs
theorem two_star (R width : Nat) (n1 n2 n : Nat) (st cols xs : List Int) (hl1 : st.length = n1) (hl2 : cols.length = n2) (hb1 : n1 ≤ 17592186044000) (hb2 : n2 ≤ 17592186044000) (hn : n ≤ 17592186044000) (hm : MayP (R : Int) (width : Int) st cols) : (∃ q er, BnT 4 (R : Int) (width : Int) n1 n2 n st cols xs q er) ∧ (∃ q er, FlT 4 (R : Int) (width : Int) n1 n2 st cols q er) := by
  by_cases hg : GraP st cols R width
  · have hRw := hg.1
    subst hRw
    have hR8 : R ≤ 128 := by have := hm.head.fit; omega
    have hP : ∀ (a1 a2 : Option Addr) (c1 c2 : Nat) W, SlI W a1 n1 c1 st → SlI W a2 n2 c2 cols → Calls Tryz.prog 13 #[.int .i64 4, patV (R : Int) (R : Int) a1 n1 c1 a2 n2 c2] W fun e w' => TkP W w' e 52 62 63 55 true R R a1 n1 c1 a2 n2 c2 R st cols := fun a1 a2 c1 c2 W h1 h2 =>
      ctask_ok_self 4 62 63 55 true R R R st cols a1 a2 n1 c1 n2 c2 st cols W h1 h2 hb1 hb2 hm (fun W' => crules_star W') (fun W' g1 g2 => (citself_yes R R a1 a2 n1 c1 n2 c2 st cols W' g1 g2 hb1 hb2 hm hg).mono (fun e w' ⟨he, hb⟩ => by
        subst hl1 hl2
        exact ⟨a1, c1, a2, c2, he, g1.below hb, g2.below hb, hb, fun t ht hne => .inl (h1.block_lt hne t ht), fun t ht hne => .inl (h2.block_lt hne t ht)⟩))
    have hT : ∀ (a1 a2 : Option Addr) (c1 c2 : Nat) W, SlI W a1 n1 c1 st → SlI W a2 n2 c2 cols → Calls Tryz.prog 17 #[.int .i64 4, patV (R : Int) (R : Int) a1 n1 c1 a2 n2 c2] W fun e w' => TgQ W w' e R (R * R) (fun x => tb (Vis R R st cols cols.length x)) := fun a1 a2 c1 c2 W h1 h2 =>
      (wthings_yes4 R a1 a2 n1 c1 n2 c2 st cols W h1 h2 (by omega) (by omega) hm hg).mono (fun e w' h => tgQ_of h)
    refine ⟨bnT_of (E := fun u v => InC st cols v u) hn (by omega) (by omega) hm (fun u v hu hv => rowL_mem hm hu) hP (fun a1 a2 a c1 c2 c W h1 h2 h3 => wBound_tt 4 (by decide) R R R (fun x => tb (Vis R R st cols cols.length x)) (fun u v => InC st cols v u) (fun u v hu hv => vis_in hm hu hv) a n c xs a1 a2 n1 c1 n2 c2 st cols W h1 h2 h3 hn hR8 (hT a1 a2 c1 c2)), ?_⟩
    refine flT_of (m := R) (P := fun q => q = flG n2) (P' := fun q => q = flG n2) (fun q q' e e' => e.trans e'.symm) (fun q q' e e' => e.trans e'.symm) ⟨_, rfl⟩ (fun a1 a2 c1 c2 W h1 h2 => cFloor_two 4 52 62 63 true R R R st cols _ a1 a2 n1 c1 n2 c2 st cols W h1 h2 (hP a1 a2 c1 c2) (fun W' g1 g2 => (ctwo_any (R : Int) (R : Int) a1 a2 n1 c1 n2 c2 W').mono (fun e w' ⟨he, hb⟩ => ⟨min 2 n2, by rw [he]; congr 2; omega, by omega, ?_, hb⟩))) (fun a1 a2 c1 c2 W h1 h2 => wFloor_gr 4 (by decide) (by decide) R R R _ a1 a2 n1 c1 n2 c2 st cols W h1 h2 (hT a1 a2 c1 c2) hb2)
    have := gra_two hm hg
    unfold flG
    split <;> omega
  · refine bnT_no (er := 220) (by decide) (fun a1 a2 c1 c2 W h1 h2 => ctask_err_self 4 62 63 55 true R width 220 (by decide) a1 a2 n1 c1 n2 c2 st cols W h1 h2 hb1 hb2 hm (fun W' => crules_star W') (fun W' g1 g2 => ?_)) (fun a1 a2 c1 c2 W h1 h2 => wthings_bad4 R width a1 a2 n1 c1 n2 c2 st cols W h1 h2 (by omega) (by omega) hm hg)
    by_cases hs : R = width ∧ SyP st cols R
    · obtain ⟨rfl, hsy⟩ := hs
      exact citself_diag R a1 a2 n1 c1 n2 c2 st cols W' g1 g2 hb1 hb2 hm hsy (Classical.byContradiction (fun hd => hg ⟨rfl, hsy, hd⟩))
    · exact citself_asym R width a1 a2 n1 c1 n2 c2 st cols W' g1 g2 hb1 hb2 hm hs
theorem two_acyc (R width : Nat) (n1 n2 n : Nat) (st cols xs : List Int) (hl1 : st.length = n1) (hl2 : cols.length = n2) (hb1 : n1 ≤ 17592186044000) (hb2 : n2 ≤ 17592186044000) (hn : n ≤ 17592186044000) (hm : MayP (R : Int) (width : Int) st cols) : (∃ q er, BnT 5 (R : Int) (width : Int) n1 n2 n st cols xs q er) ∧ (∃ q er, FlT 5 (R : Int) (width : Int) n1 n2 st cols q er) := by
  by_cases hg : GraP st cols R width
  · have hRw := hg.1
    subst hRw
    have hR8 : R ≤ 128 := by have := hm.head.fit; omega
    have hP : ∀ (a1 a2 : Option Addr) (c1 c2 : Nat) W, SlI W a1 n1 c1 st → SlI W a2 n2 c2 cols → Calls Tryz.prog 13 #[.int .i64 5, patV (R : Int) (R : Int) a1 n1 c1 a2 n2 c2] W fun e w' => TkP W w' e 52 64 65 55 true R R a1 n1 c1 a2 n2 c2 R st cols := fun a1 a2 c1 c2 W h1 h2 =>
      ctask_ok_self 5 64 65 55 true R R R st cols a1 a2 n1 c1 n2 c2 st cols W h1 h2 hb1 hb2 hm (fun W' => crules_acyc W') (fun W' g1 g2 => (citself_yes R R a1 a2 n1 c1 n2 c2 st cols W' g1 g2 hb1 hb2 hm hg).mono (fun e w' ⟨he, hb⟩ => by
        subst hl1 hl2
        exact ⟨a1, c1, a2, c2, he, g1.below hb, g2.below hb, hb, fun t ht hne => .inl (h1.block_lt hne t ht), fun t ht hne => .inl (h2.block_lt hne t ht)⟩))
    have hT : ∀ (a1 a2 : Option Addr) (c1 c2 : Nat) W, SlI W a1 n1 c1 st → SlI W a2 n2 c2 cols → Calls Tryz.prog 17 #[.int .i64 5, patV (R : Int) (R : Int) a1 n1 c1 a2 n2 c2] W fun e w' => TgQ W w' e R (R * R) (fun x => tb (Vis R R st cols cols.length x)) := fun a1 a2 c1 c2 W h1 h2 =>
      (wthings_yes5 R a1 a2 n1 c1 n2 c2 st cols W h1 h2 (by omega) (by omega) hm hg).mono (fun e w' h => tgQ_of h)
    refine ⟨bnT_of (E := fun u v => InC st cols v u) hn (by omega) (by omega) hm (fun u v hu hv => rowL_mem hm hu) hP (fun a1 a2 a c1 c2 c W h1 h2 h3 => wBound_ft 5 (by decide) (by decide) R R R (fun x => tb (Vis R R st cols cols.length x)) (fun u v => InC st cols v u) (fun u v hu hv => vis_in hm hu hv) a n c xs a1 a2 n1 c1 n2 c2 st cols W h1 h2 h3 hn hR8 (hT a1 a2 c1 c2)), ?_⟩
    refine flT_of (m := R) (P := fun q => q = flG n2) (P' := fun q => q = flG n2) (fun q q' e e' => e.trans e'.symm) (fun q q' e e' => e.trans e'.symm) ⟨_, rfl⟩ (fun a1 a2 c1 c2 W h1 h2 => cFloor_two 5 52 64 65 true R R R st cols _ a1 a2 n1 c1 n2 c2 st cols W h1 h2 (hP a1 a2 c1 c2) (fun W' g1 g2 => (ctwo_any (R : Int) (R : Int) a1 a2 n1 c1 n2 c2 W').mono (fun e w' ⟨he, hb⟩ => ⟨min 2 n2, by rw [he]; congr 2; omega, by omega, ?_, hb⟩))) (fun a1 a2 c1 c2 W h1 h2 => wFloor_gr 5 (by decide) (by decide) R R R _ a1 a2 n1 c1 n2 c2 st cols W h1 h2 (hT a1 a2 c1 c2) hb2)
    have := gra_two hm hg
    unfold flG
    split <;> omega
  · refine bnT_no (er := 220) (by decide) (fun a1 a2 c1 c2 W h1 h2 => ctask_err_self 5 64 65 55 true R width 220 (by decide) a1 a2 n1 c1 n2 c2 st cols W h1 h2 hb1 hb2 hm (fun W' => crules_acyc W') (fun W' g1 g2 => ?_)) (fun a1 a2 c1 c2 W h1 h2 => wthings_bad5 R width a1 a2 n1 c1 n2 c2 st cols W h1 h2 (by omega) (by omega) hm hg)
    by_cases hs : R = width ∧ SyP st cols R
    · obtain ⟨rfl, hsy⟩ := hs
      exact citself_diag R a1 a2 n1 c1 n2 c2 st cols W' g1 g2 hb1 hb2 hm hsy (Classical.byContradiction (fun hd => hg ⟨rfl, hsy, hd⟩))
    · exact citself_asym R width a1 a2 n1 c1 n2 c2 st cols W' g1 g2 hb1 hb2 hm hs
theorem two_cols (R width : Nat) (n1 n2 n : Nat) (st cols xs : List Int) (hl1 : st.length = n1) (hl2 : cols.length = n2) (hb1 : n1 ≤ 17592186044000) (hb2 : n2 ≤ 17592186044000) (hn : n ≤ 17592186044000) (hm : MayP (R : Int) (width : Int) st cols) : (∃ q er, BnT 2 (R : Int) (width : Int) n1 n2 n st cols xs q er) ∧ (∃ q er, FlT 2 (R : Int) (width : Int) n1 n2 st cols q er) := by
  have hR8 : R ≤ 128 ∧ width ≤ 128 := by have := hm.head.fit; omega
  have hlc := grC_len (CoP st cols R) width width
  have hlc2 : width * width ≤ 128 * 128 := Nat.mul_le_mul (by omega) (by omega)
  have hP : ∀ (a1 a2 : Option Addr) (c1 c2 : Nat) W, SlI W a1 n1 c1 st → SlI W a2 n2 c2 cols → Calls Tryz.prog 13 #[.int .i64 2, patV (R : Int) (width : Int) a1 n1 c1 a2 n2 c2] W fun e w' => TkP W w' e 56 57 54 58 false R width a1 n1 c1 a2 n2 c2 width (grS (CoP st cols R) width width) (grC (CoP st cols R) width width) := fun a1 a2 c1 c2 W h1 h2 =>
    ctask_ok_cols 2 57 54 58 false R width width _ _ a1 a2 n1 c1 n2 c2 st cols W h1 h2 hb1 hb2 hm (fun W' => crules_cols W') (fun W' g1 g2 => (ccolumns_yes R width a1 a2 n1 c1 n2 c2 st cols W' g1 g2 (by omega) (by omega) hm).mono (fun e w' ⟨x, d, y, z, he, s1, s2, hb, e1, e2⟩ => ⟨x, d, y, z, he, s1, s2, hb, fun t ht _ => .inr (e1 t ht), fun t ht _ => .inr (e2 t ht)⟩))
  have hT : ∀ (a1 a2 : Option Addr) (c1 c2 : Nat) W, SlI W a1 n1 c1 st → SlI W a2 n2 c2 cols → Calls Tryz.prog 17 #[.int .i64 2, patV (R : Int) (width : Int) a1 n1 c1 a2 n2 c2] W fun e w' => TgQ W w' e width (width * width) (fun x => tb (LnQ (fun j u v => InC st cols u j ∧ InC st cols v j) width R width 0 0 x)) := fun a1 a2 c1 c2 W h1 h2 =>
    wthings_cols R width a1 a2 n1 c1 n2 c2 st cols W h1 h2 (by omega) (by omega) hm
  refine ⟨bnT_of (E := CoP st cols R) hn (by rw [grS_len]; omega) (by omega) (may_gr (by omega)) (fun u v hu hv => mem_gr hu hv) hP (fun a1 a2 a c1 c2 c W h1 h2 h3 => wBound_ff 2 (by decide) (by decide) R width width _ (CoP st cols R) (fun u v hu hv => tb_iff.trans (LnQ.last hu hv)) a n c xs a1 a2 n1 c1 n2 c2 st cols W h1 h2 h3 hn (by omega) (hT a1 a2 c1 c2)), ?_⟩
  obtain ⟨y0, hy0⟩ := lgT_ex (fun r => cnP (fun c => InC st cols c r) width) R
  refine flT_of (m := width) (P := fun q => ∃ y, LgT (fun r => (rowL st cols r).length) R y ∧ q = max 1 y) (P' := fun q => ∃ y, LgT (fun r => cnP (fun c => InC st cols c r) width) R y ∧ q = max 1 y) (fun q q' ⟨y, h, e⟩ ⟨y', h', e'⟩ => ?_) (fun q q' ⟨y, h, e⟩ ⟨y', h', e'⟩ => by rw [e, e', h.one h']) ⟨_, y0, hy0, rfl⟩ (fun a1 a2 c1 c2 W h1 h2 => cFloor_lrow 2 56 57 54 false R width width _ _ _ a1 a2 n1 c1 n2 c2 st cols W h1 h2 (hP a1 a2 c1 c2) (fun W' g1 g2 => (clrow_any R width a1 a2 n1 c1 n2 c2 st cols W' g1 g2 hb1 hb2 hm).mono (fun e w' ⟨y, he, hy, hb⟩ => ⟨y, he, ?_, ⟨y, hy, rfl⟩, hb⟩))) (fun a1 a2 c1 c2 W h1 h2 => wFloor_cols R width width _ a1 a2 n1 c1 n2 c2 st cols W h1 h2 (hT a1 a2 c1 c2) hb1 hb2 hm)
  · rw [e, e', (h.congr (fun i hi => rowL_cnP hm hi)).one h']
  · rcases hy.at_ with e0 | ⟨i, hi, e0⟩
    · omega
    · rw [← e0]
      show (rowL st cols i).length ≤ _
      rw [rowL_cnP hm hi]; have := cnP_le (fun c => InC st cols c i) width; omega
theorem two_rows (R width : Nat) (n1 n2 n : Nat) (st cols xs : List Int) (hl1 : st.length = n1) (hl2 : cols.length = n2) (hb1 : n1 ≤ 17592186044000) (hb2 : n2 ≤ 17592186044000) (hn : n ≤ 17592186044000) (hm : MayP (R : Int) (width : Int) st cols) : (∃ q er, BnT 3 (R : Int) (width : Int) n1 n2 n st cols xs q er) ∧ (∃ q er, FlT 3 (R : Int) (width : Int) n1 n2 st cols q er) := by
  have hR8 : R ≤ 128 ∧ width ≤ 128 := by have := hm.head.fit; omega
  have hlc := grC_len (RwP st cols width) R R
  have hlc2 : R * R ≤ 128 * 128 := Nat.mul_le_mul (by omega) (by omega)
  have hP : ∀ (a1 a2 : Option Addr) (c1 c2 : Nat) W, SlI W a1 n1 c1 st → SlI W a2 n2 c2 cols → Calls Tryz.prog 13 #[.int .i64 3, patV (R : Int) (width : Int) a1 n1 c1 a2 n2 c2] W fun e w' => TkP W w' e 59 60 54 61 false R width a1 n1 c1 a2 n2 c2 R (grS (RwP st cols width) R R) (grC (RwP st cols width) R R) := fun a1 a2 c1 c2 W h1 h2 =>
    ctask_ok_rows 3 60 54 61 false R width R _ _ a1 a2 n1 c1 n2 c2 st cols W h1 h2 hb1 hb2 hm (fun W' => crules_rows W') (fun W' g1 g2 => (crowsf_yes R width a1 a2 n1 c1 n2 c2 st cols W' g1 g2 (by omega) (by omega) hm).mono (fun e w' ⟨x, d, y, z, he, s1, s2, hb, e1, e2⟩ => ⟨x, d, y, z, he, s1, s2, hb, fun t ht _ => .inr (e1 t ht), fun t ht _ => .inr (e2 t ht)⟩))
  have hT : ∀ (a1 a2 : Option Addr) (c1 c2 : Nat) W, SlI W a1 n1 c1 st → SlI W a2 n2 c2 cols → Calls Tryz.prog 17 #[.int .i64 3, patV (R : Int) (width : Int) a1 n1 c1 a2 n2 c2] W fun e w' => TgQ W w' e R (R * R) (fun x => tb (LnQ (fun j u v => InC st cols j u ∧ InC st cols j v) R width R 0 0 x)) := fun a1 a2 c1 c2 W h1 h2 =>
    wthings_rows R width a1 a2 n1 c1 n2 c2 st cols W h1 h2 (by omega) (by omega) hm
  refine ⟨bnT_of (E := RwP st cols width) hn (by rw [grS_len]; omega) (by omega) (may_gr (by omega)) (fun u v hu hv => mem_gr hu hv) hP (fun a1 a2 a c1 c2 c W h1 h2 h3 => wBound_ff 3 (by decide) (by decide) R width R _ (RwP st cols width) (fun u v hu hv => tb_iff.trans (LnQ.last hu hv)) a n c xs a1 a2 n1 c1 n2 c2 st cols W h1 h2 h3 hn (by omega) (hT a1 a2 c1 c2)), ?_⟩
  obtain ⟨y0, hy0⟩ := lgT_ex (fun c => cnP (fun r => InC st cols c r) R) width
  refine flT_of (m := R) (P := fun q => ∃ y, LgT (fun c => (grR (InC st cols) c R).length) width y ∧ q = max 1 y) (P' := fun q => ∃ y, LgT (fun c => cnP (fun r => InC st cols c r) R) width y ∧ q = max 1 y) (fun q q' ⟨y, h, e⟩ ⟨y', h', e'⟩ => ?_) (fun q q' ⟨y, h, e⟩ ⟨y', h', e'⟩ => by rw [e, e', h.one h']) ⟨_, y0, hy0, rfl⟩ (fun a1 a2 c1 c2 W h1 h2 => cFloor_lcol 3 59 60 54 false R width R _ _ _ a1 a2 n1 c1 n2 c2 st cols W h1 h2 (hP a1 a2 c1 c2) (fun W' g1 g2 => (clcol_any R width a1 a2 n1 c1 n2 c2 st cols W' g1 g2 hb1 hb2 hm).mono (fun e w' ⟨y, he, hy, hb⟩ => ⟨y, he, ?_, ⟨y, hy, rfl⟩, hb⟩))) (fun a1 a2 c1 c2 W h1 h2 => wFloor_rows R width R _ a1 a2 n1 c1 n2 c2 st cols W h1 h2 (hT a1 a2 c1 c2) hb1 hb2 hm)
  · rw [e, e', (h.congr (fun i hi => grR_cnP R)).one h']
  · rcases hy.at_ with e0 | ⟨i, hi, e0⟩
    · omega
    · rw [← e0]
      show (grR (InC st cols) i R).length ≤ _
      have := grR_len (InC st cols) i R; omega
/-- Bound and Floor of both sides. -/
theorem both_two (k rows width : Int) (n1 n2 n : Nat) (st cols xs : List Int) (hl1 : st.length = n1) (hl2 : cols.length = n2) (hb1 : n1 ≤ 17592186044000) (hb2 : n2 ≤ 17592186044000) (hn : n ≤ 17592186044000) : (∃ q er, BnT k rows width n1 n2 n st cols xs q er) ∧ (∃ q er, FlT k rows width n1 n2 st cols q er) := by
  by_cases hm : MayP rows width st cols
  · obtain ⟨R, rfl⟩ : ∃ R : Nat, rows = (R : Int) := ⟨rows.toNat, by have := hm.head.fit; omega⟩
    obtain ⟨W, rfl⟩ : ∃ W : Nat, width = (W : Int) := ⟨width.toNat, by have := hm.head.fit; omega⟩
    by_cases k1 : k = 1
    · subst k1; exact two_proper R W n1 n2 n st cols xs hl1 hl2 hb1 hb2 hn hm
    by_cases k2 : k = 2
    · subst k2; exact two_cols R W n1 n2 n st cols xs hl1 hl2 hb1 hb2 hn hm
    by_cases k3 : k = 3
    · subst k3; exact two_rows R W n1 n2 n st cols xs hl1 hl2 hb1 hb2 hn hm
    by_cases k4 : k = 4
    · subst k4; exact two_star R W n1 n2 n st cols xs hl1 hl2 hb1 hb2 hn hm
    by_cases k5 : k = 5
    · subst k5; exact two_acyc R W n1 n2 n st cols xs hl1 hl2 hb1 hb2 hn hm
    have f1 : (k == 1) = false := by simp [k1]
    have f2 : (k == 2) = false := by simp [k2]
    have f3 : (k == 3) = false := by simp [k3]
    have f4 : (k == 4) = false := by simp [k4]
    have f5 : (k == 5) = false := by simp [k5]
    exact bnT_no (er := 242) (by decide) (fun a1 a2 c1 c2 W' h1 h2 => ctask_off k R W a1 a2 n1 c1 n2 c2 st cols W' h1 h2 hb1 hb2 hm (fun W'' => crules_off k f1 f2 f3 f4 f5 W'')) (fun a1 a2 c1 c2 W' h1 h2 => wthings_off k f1 f2 f3 f4 f5 R W a1 a2 n1 c1 n2 c2 st cols W' h1 h2 (by omega) (by omega) hm)
  · exact bnT_no (er := 180) (by decide) (fun a1 a2 c1 c2 W' h1 h2 => ctask_pat k rows width a1 a2 n1 c1 n2 c2 st cols W' h1 h2 hb1 hb2 hm) (fun a1 a2 c1 c2 W' h1 h2 => wthings_no k rows width a1 a2 n1 c1 n2 c2 st cols W' h1 h2 (by omega) (by omega) hm)
end Go.Proofs.YtmlodfgpedoloaaGreat
