/- Db1 -/
import Derived.Test.YtgjokididdffhaaGreatDa4
import Derived.Test.YtgjokididdffhaaGreatChb
import Derived.Test.YtgjokididdffhaaGreatCz6
import Derived.Test.YtgjokididdffhaaGreatDa3
import Derived.Test.YtgjokididdffhaaGreatChi
import Derived.Deep.DeepCutAuto
import Derived.Deep.Cut
namespace Go.Proofs.YtgjokididdffhaaGreat
open Go.RowKit Go.Deep
set_option linter.unusedVariables false
theorem kd_yes1 (R : Nat) (n1 n2 : Nat) (st cols : List Int) (hl1 : st.length = n1) (hl2 : cols.length = n2) (hb1 : n1 ≤ 17592186044000) (hb2 : n2 ≤ 17592186044000) (hm : MayP (R : Int) (R : Int) st cols) (hg : GraP st cols R R) : ∃ Q, KdY 1 R R n1 n2 st cols R st cols Q 49 92 93 94 false := by
  have hR8 : R ≤ 128 := by have := hm.head.fit; omega
  have hP : ∀ (a1 a2 : Option Addr) (c1 c2 : Nat) W, SlI W a1 n1 c1 st → SlI W a2 n2 c2 cols → Calls Tryz.prog 34 #[.int .i64 1, patV (R : Int) (R : Int) a1 n1 c1 a2 n2 c2] W fun e w' => TkP W w' e 49 92 93 94 false R R a1 n1 c1 a2 n2 c2 R st cols := fun a1 a2 c1 c2 W h1 h2 =>
    ctask_ok_self 1 92 93 94 false R R R st cols a1 a2 n1 c1 n2 c2 st cols W h1 h2 hb1 hb2 hm (fun W' => crules_proper W') (fun W' g1 g2 => (citself_yes R R a1 a2 n1 c1 n2 c2 st cols W' g1 g2 hb1 hb2 hm hg).mono (fun e w' ⟨he, hb⟩ => by
      subst hl1 hl2
      exact ⟨a1, c1, a2, c2, he, g1.below hb, g2.below hb, hb, fun t ht hne => .inl (h1.block_lt hne t ht), fun t ht hne => .inl (h2.block_lt hne t ht)⟩))
  have hT : ∀ (a1 a2 : Option Addr) (c1 c2 : Nat) W, SlI W a1 n1 c1 st → SlI W a2 n2 c2 cols → Calls Tryz.prog 21 #[.int .i64 1, patV (R : Int) (R : Int) a1 n1 c1 a2 n2 c2] W fun e w' => TgQ W w' e R (R * R) (fun x => tb (Vis R R st cols cols.length x)) := fun a1 a2 c1 c2 W h1 h2 =>
    (wthings_yes R a1 a2 n1 c1 n2 c2 st cols W h1 h2 (by omega) (by omega) hm hg).mono (fun e w' h => tgQ_of h)
  exact ⟨fun x => tb (Vis R R st cols cols.length x), hm, hg, hR8, by omega, by omega, fun u v hu hv => Iff.trans (vis_in hm hu hv) ⟨fun h => ⟨hu, hv, h⟩, fun h => h.2.2⟩, hP, hT⟩
theorem kd_yes4 (R : Nat) (n1 n2 : Nat) (st cols : List Int) (hl1 : st.length = n1) (hl2 : cols.length = n2) (hb1 : n1 ≤ 17592186044000) (hb2 : n2 ≤ 17592186044000) (hm : MayP (R : Int) (R : Int) st cols) (hg : GraP st cols R R) : ∃ Q, KdY 4 R R n1 n2 st cols R st cols Q 49 101 102 94 true := by
  have hR8 : R ≤ 128 := by have := hm.head.fit; omega
  have hP : ∀ (a1 a2 : Option Addr) (c1 c2 : Nat) W, SlI W a1 n1 c1 st → SlI W a2 n2 c2 cols → Calls Tryz.prog 34 #[.int .i64 4, patV (R : Int) (R : Int) a1 n1 c1 a2 n2 c2] W fun e w' => TkP W w' e 49 101 102 94 true R R a1 n1 c1 a2 n2 c2 R st cols := fun a1 a2 c1 c2 W h1 h2 =>
    ctask_ok_self 4 101 102 94 true R R R st cols a1 a2 n1 c1 n2 c2 st cols W h1 h2 hb1 hb2 hm (fun W' => crules_star W') (fun W' g1 g2 => (citself_yes R R a1 a2 n1 c1 n2 c2 st cols W' g1 g2 hb1 hb2 hm hg).mono (fun e w' ⟨he, hb⟩ => by
      subst hl1 hl2
      exact ⟨a1, c1, a2, c2, he, g1.below hb, g2.below hb, hb, fun t ht hne => .inl (h1.block_lt hne t ht), fun t ht hne => .inl (h2.block_lt hne t ht)⟩))
  have hT : ∀ (a1 a2 : Option Addr) (c1 c2 : Nat) W, SlI W a1 n1 c1 st → SlI W a2 n2 c2 cols → Calls Tryz.prog 21 #[.int .i64 4, patV (R : Int) (R : Int) a1 n1 c1 a2 n2 c2] W fun e w' => TgQ W w' e R (R * R) (fun x => tb (Vis R R st cols cols.length x)) := fun a1 a2 c1 c2 W h1 h2 =>
    (wthings_yes4 R a1 a2 n1 c1 n2 c2 st cols W h1 h2 (by omega) (by omega) hm hg).mono (fun e w' h => tgQ_of h)
  exact ⟨fun x => tb (Vis R R st cols cols.length x), hm, hg, hR8, by omega, by omega, fun u v hu hv => Iff.trans (vis_in hm hu hv) ⟨fun h => ⟨hu, hv, h⟩, fun h => h.2.2⟩, hP, hT⟩
theorem kd_yes5 (R : Nat) (n1 n2 : Nat) (st cols : List Int) (hl1 : st.length = n1) (hl2 : cols.length = n2) (hb1 : n1 ≤ 17592186044000) (hb2 : n2 ≤ 17592186044000) (hm : MayP (R : Int) (R : Int) st cols) (hg : GraP st cols R R) : ∃ Q, KdY 5 R R n1 n2 st cols R st cols Q 49 103 104 94 true := by
  have hR8 : R ≤ 128 := by have := hm.head.fit; omega
  have hP : ∀ (a1 a2 : Option Addr) (c1 c2 : Nat) W, SlI W a1 n1 c1 st → SlI W a2 n2 c2 cols → Calls Tryz.prog 34 #[.int .i64 5, patV (R : Int) (R : Int) a1 n1 c1 a2 n2 c2] W fun e w' => TkP W w' e 49 103 104 94 true R R a1 n1 c1 a2 n2 c2 R st cols := fun a1 a2 c1 c2 W h1 h2 =>
    ctask_ok_self 5 103 104 94 true R R R st cols a1 a2 n1 c1 n2 c2 st cols W h1 h2 hb1 hb2 hm (fun W' => crules_acyc W') (fun W' g1 g2 => (citself_yes R R a1 a2 n1 c1 n2 c2 st cols W' g1 g2 hb1 hb2 hm hg).mono (fun e w' ⟨he, hb⟩ => by
      subst hl1 hl2
      exact ⟨a1, c1, a2, c2, he, g1.below hb, g2.below hb, hb, fun t ht hne => .inl (h1.block_lt hne t ht), fun t ht hne => .inl (h2.block_lt hne t ht)⟩))
  have hT : ∀ (a1 a2 : Option Addr) (c1 c2 : Nat) W, SlI W a1 n1 c1 st → SlI W a2 n2 c2 cols → Calls Tryz.prog 21 #[.int .i64 5, patV (R : Int) (R : Int) a1 n1 c1 a2 n2 c2] W fun e w' => TgQ W w' e R (R * R) (fun x => tb (Vis R R st cols cols.length x)) := fun a1 a2 c1 c2 W h1 h2 =>
    (wthings_yes5 R a1 a2 n1 c1 n2 c2 st cols W h1 h2 (by omega) (by omega) hm hg).mono (fun e w' h => tgQ_of h)
  exact ⟨fun x => tb (Vis R R st cols cols.length x), hm, hg, hR8, by omega, by omega, fun u v hu hv => Iff.trans (vis_in hm hu hv) ⟨fun h => ⟨hu, hv, h⟩, fun h => h.2.2⟩, hP, hT⟩
theorem kd_nog4 (R width : Nat) (n1 n2 : Nat) (st cols : List Int) (hb1 : n1 ≤ 17592186044000) (hb2 : n2 ≤ 17592186044000) (hm : MayP (R : Int) (width : Int) st cols) (hg : ¬ GraP st cols R width) : KdN 4 (R : Int) (width : Int) n1 n2 st cols 220 := by
  refine ⟨by decide, (fun a1 a2 c1 c2 W h1 h2 => ctask_err_self 4 101 102 94 true R width 220 (by decide) a1 a2 n1 c1 n2 c2 st cols W h1 h2 hb1 hb2 hm (fun W' => crules_star W') (fun W' g1 g2 => ?_)), (fun a1 a2 c1 c2 W h1 h2 => wthings_bad4 R width a1 a2 n1 c1 n2 c2 st cols W h1 h2 (by omega) (by omega) hm hg)⟩
  by_cases hs : R = width ∧ SyP st cols R
  · obtain ⟨rfl, hsy⟩ := hs
    exact citself_diag R a1 a2 n1 c1 n2 c2 st cols W' g1 g2 hb1 hb2 hm hsy (Classical.byContradiction (fun hd => hg ⟨rfl, hsy, hd⟩))
  · exact citself_asym R width a1 a2 n1 c1 n2 c2 st cols W' g1 g2 hb1 hb2 hm hs
theorem kd_nop (k rows width : Int) (n1 n2 : Nat) (st cols : List Int) (hb1 : n1 ≤ 17592186044000) (hb2 : n2 ≤ 17592186044000) (hm : ¬ MayP rows width st cols) : KdN k rows width n1 n2 st cols 180 :=
  ⟨by decide, (fun a1 a2 c1 c2 W h1 h2 => ctask_pat k rows width a1 a2 n1 c1 n2 c2 st cols W h1 h2 hb1 hb2 hm), (fun a1 a2 c1 c2 W h1 h2 => wthings_no k rows width a1 a2 n1 c1 n2 c2 st cols W h1 h2 (by omega) (by omega) hm)⟩
def chV (ok good : Bool) : Int := if ok = true then (if good = true then 0 else 241) else 240
theorem chV_of {ok good : Bool} {L : List Int} (h : L = [] ↔ good = true) : ckE (if ok = true then L else []) (faE ok) = chV ok good := by
  cases ok with
  | false => rfl
  | true =>
    cases good with
    | true =>
      have : L = [] := h.2 rfl
      subst this
      rfl
    | false =>
      cases L with
      | nil => exact absurd (h.1 rfl) (by decide)
      | cons a l => rfl
section
variable {S C xs : List Int} {m : Nat}
def PrG (S C : List Int) (m : Nat) (cs : Nat → Int) : Prop := ∀ u v, adG S C m u v → cs u ≠ cs v
def StG (S C : List Int) (m : Nat) (cs : Nat → Int) : Prop := PrG S C m cs ∧ ∀ a b c d, ¬ Pa4 (adG S C m) cs a b c d
def AcG (S C : List Int) (m : Nat) (cs : Nat → Int) : Prop := PrG S C m cs ∧ ∀ u v, adG S C m u v → FoP (adG S C m) (TwC cs m (cs u) (cs v))
theorem prO_none (hg : GraP S C m m) {cs : Nat → Int} {o : Option (Nat × Nat)} (h : PrO (adG S C m) cs o) : o = none ↔ PrG S C m cs := by
  cases o with
  | none =>
    refine ⟨fun _ u v ha e => ?_, fun _ => rfl⟩
    rcases Nat.lt_trichotomy u v with c | c | c
    · exact h u v ⟨ha, c, e⟩
    · subst c; exact adG.ir hg _ ha
    · exact h v u ⟨adG.sy hg _ _ ha, c, e.symm⟩
  | some p => exact ⟨fun e => (by cases e), fun k => absurd h.1.2.2 (k _ _ h.1.1)⟩
theorem prL_nil' {o : Option (Nat × Nat)} : prL o = [] ↔ o = none := by
  cases o with
  | none => simp [prL]
  | some p => simp [prL]
theorem paL_nil' {o : Option (Nat × Nat × Nat × Nat)} : paL o = [] ↔ o = none := by
  cases o with
  | none => simp [paL]
  | some p => simp [paL]
theorem ciL_nil' {o : Option (Int × Int)} : ciL o = [] ↔ o = none := by
  cases o with
  | none => simp [ciL]
  | some p => simp [ciL]
theorem stL_nil {o : Option (Nat × Nat)} {q : Option (Nat × Nat × Nat × Nat)} : stL o q = [] ↔ o = none ∧ q = none := by
  cases o with
  | none => exact paL_nil'.trans ⟨fun h => ⟨rfl, h⟩, fun h => h.2⟩
  | some p => exact ⟨fun h => absurd (prL_nil'.1 (show prL (some p) = [] from h)) (by simp), fun h => absurd h.1 (by simp)⟩
theorem cfL_nil {o : Option (Nat × Nat)} {q : Option (Int × Int)} : cfL o q = [] ↔ o = none ∧ q = none := by
  cases o with
  | none => exact ciL_nil'.trans ⟨fun h => ⟨rfl, h⟩, fun h => h.2⟩
  | some p => exact ⟨fun h => absurd (prL_nil'.1 (show prL (some p) = [] from h)) (by simp), fun h => absurd h.1 (by simp)⟩
theorem ciP_none (hg : GraP S C m m) {q : Option (Int × Int)} (h : BsI (CiP S C m xs) q) (hp : PrG S C m (fun i => xs.getD i 0)) : q = none ↔ ∀ u v, adG S C m u v → FoP (adG S C m) (TwC (fun i => xs.getD i 0) m (xs.getD u 0) (xs.getD v 0)) := by
  rw [bsI_none h]
  constructor
  · intro k u v ha
    apply Classical.byContradiction
    intro hn
    by_cases hl : xs.getD u 0 ≤ xs.getD v 0
    · exact k _ _ ⟨u, v, ha, rfl, rfl, hl, hn⟩
    · exact k _ _ ⟨v, u, adG.sy hg _ _ ha, rfl, rfl, by omega, fun f => hn (f.set (fun x hx => hx.swap))⟩
  · rintro k c d ⟨u, v, ha, e1, e2, _, hn⟩
    subst e1 e2
    exact hn (k u v ha)
end
section
variable {R width n1 n2 n m : Nat} {st cols xs S C : List Int} {Q : Nat → Bool} {G G2 G3 : Nat} {wd : Bool}
def ChkP (k rows width : Int) (n1 n2 n : Nat) (st cols xs : List Int) (v : Int) : Prop := ∀ (a1 a2 a : Option Addr) (c1 c2 c : Nat) (w : World), SlI w a1 n1 c1 st → SlI w a2 n2 c2 cols → SlI w a n c xs → Calls Tryz.prog 15 #[.int .i64 k, patV rows width a1 n1 c1 a2 n2 c2, .slice a n c] w fun e w' => e = .returned (.int .i64 v) ∧ Below w.heap.size w w'
theorem chk_of {k rows wd' : Int} {L : List Int} {er : Int} (h : ChT k rows wd' n1 n2 n st cols xs L er) : ChkP k rows wd' n1 n2 n st cols xs (ckE L er) := fun a1 a2 a c1 c2 c w g1 g2 g3 => cCheck_by k rows wd' er L a1 a2 a n1 c1 n2 c2 n c w (fun W b => h.one a1 a2 a c1 c2 c W (g1.below b) (g2.below b) (g3.below b))
theorem chk1_val (hb1 : n1 ≤ 17592186044000) (hb2 : n2 ≤ 17592186044000) (hn : n ≤ 17592186044000) (hm : MayP (R : Int) (width : Int) st cols) (h : KdY 1 R width n1 n2 st cols m S C Q G 92 G2 G3 wd) : ChkP 1 (R : Int) (width : Int) n1 n2 n st cols xs (chV (tb (n = m ∧ MayC xs n)) (tb (PrG S C m (fun i => xs.getD i 0)))) := by
  obtain ⟨o, ho⟩ := PrO.ex (adG S C m) (fun i => xs.getD i 0)
  have := chk_of (chT_pair (xs := xs) (by decide) (by decide) (by decide) (by decide) hb1 hb2 hn hm h o ho)
  rwa [chV_of (L := prL o) (good := tb (PrG S C m (fun i => xs.getD i 0))) (prL_nil'.trans ((prO_none h.gra ho).trans tb_iff.symm))] at this
theorem chk4_val (hb1 : n1 ≤ 17592186044000) (hb2 : n2 ≤ 17592186044000) (hn : n ≤ 17592186044000) (hm : MayP (R : Int) (width : Int) st cols) (h : KdY 4 R width n1 n2 st cols m S C Q G 101 G2 G3 wd) : ChkP 4 (R : Int) (width : Int) n1 n2 n st cols xs (chV (tb (n = m ∧ MayC xs n)) (tb (StG S C m (fun i => xs.getD i 0)))) := by
  obtain ⟨o, ho⟩ := PrO.ex (adG S C m) (fun i => xs.getD i 0)
  obtain ⟨q, hq⟩ := PaO.ex (adG S C m) (fun i => xs.getD i 0)
  have := chk_of (chT_star (xs := xs) (by decide) (by decide) (by decide) hb1 hb2 hn hm h o ho q hq)
  rwa [chV_of (L := stL o q) (good := tb (StG S C m (fun i => xs.getD i 0))) (stL_nil.trans ((and_congr (prO_none h.gra ho) (paO_none hq)).trans tb_iff.symm))] at this
theorem chk5_val (hb1 : n1 ≤ 17592186044000) (hb2 : n2 ≤ 17592186044000) (hn : n ≤ 17592186044000) (hm : MayP (R : Int) (width : Int) st cols) (h : KdY 5 R width n1 n2 st cols m S C Q G 103 G2 G3 wd) : ChkP 5 (R : Int) (width : Int) n1 n2 n st cols xs (chV (tb (n = m ∧ MayC xs n)) (tb (AcG S C m (fun i => xs.getD i 0)))) := by
  obtain ⟨o, ho⟩ := PrO.ex (adG S C m) (fun i => xs.getD i 0)
  obtain ⟨q, hq⟩ := CiP.ex S C m xs
  have := chk_of (chT_acyc (xs := xs) (by decide) (by decide) (by decide) (by decide) hb1 hb2 hn hm h o ho q hq)
  have key : cfL o q = [] ↔ tb (AcG S C m (fun i => xs.getD i 0)) = true := by
    rw [cfL_nil, tb_iff]
    constructor
    · rintro ⟨h1, h2⟩
      have hp := (prO_none h.gra ho).1 h1
      exact ⟨hp, (ciP_none h.gra hq hp).1 h2⟩
    · rintro ⟨h1, h2⟩
      exact ⟨(prO_none h.gra ho).2 h1, (ciP_none h.gra hq h1).2 h2⟩
  rwa [chV_of (L := cfL o q) key] at this
end
section
variable {S C : List Int} {m : Nat} {cs : Nat → Int}
theorem StG.ac (hg : GraP S C m m) (h : StG S C m cs) : AcG S C m cs := by
  refine ⟨h.1, fun u v ha T hT hC x hx => ?_⟩
  obtain ⟨p, q, hpq, hp, hq, a1, a2⟩ := hC x hx
  have sy := adG.sy hg
  have two : ∀ y z, T y → T z → cs y ≠ cs z → ∀ t, T t → cs t = cs y ∨ cs t = cs z := fun y z hy hz hne t ht => by
    have k1 := (hT y hy).2
    have k2 := (hT z hz).2
    have k3 := (hT t ht).2
    omega
  have n1 := h.1 p x a1
  have n2 := h.1 q x a2
  have e1 : cs q = cs p := by rcases two p x hp hx n1 q hq with e | e; exact e; exact absurd e n2
  obtain ⟨y, z, hyz, hy, hz, b1, b2⟩ := hC p hp
  have key : ∀ t, T t → adG S C m t p → t ≠ x → False := fun t ht hb hne => by
    have n3 := h.1 t p hb
    have e2 : cs t = cs x := by rcases two p x hp hx n1 t ht with e | e; exact absurd e n3; exact e
    have htq : t ≠ q := fun e => by rw [e, e1] at e2; exact n1 e2
    rcases Nat.lt_or_ge t q with l | l
    · exact h.2 t p x q ⟨hb, a1, Ne.symm hne, e2.symm, sy _ _ a2, l, Ne.symm hpq, e1⟩
    · exact h.2 q x p t ⟨a2, sy _ _ a1, hpq, e1.symm, sy _ _ hb, by omega, hne, e2⟩
  by_cases e : y = x
  · exact key z hz b2 (fun e2 => hyz (e.trans e2.symm))
  · exact key y hy b1 e
theorem near_st {S' C' : List Int} (hn : ∀ u v, u < m → v < m → (adG S' C' m u v ↔ (u ≠ v ∧ (adG S C m u v ∨ ∃ j, adG S C m u j ∧ adG S C m j v)))) (hg : GraP S C m m) (h : PrG S' C' m cs) : StG S C m cs := by
  refine ⟨fun u v ha => h u v ((hn u v ha.1 ha.2.1).2 ⟨fun e => by subst e; exact adG.ir hg _ ha, .inl ha⟩), fun a b c d hp => ?_⟩
  obtain ⟨ab, bc, hca, eca, _⟩ := hp
  exact h c a ((hn c a bc.2.1 ab.1).2 ⟨hca, .inr ⟨b, adG.sy hg _ _ bc, adG.sy hg _ _ ab⟩⟩) eca
theorem PrG.nn (f : Nat → Nat) : PrG S C m (fun i => (f i : Int)) ↔ GdN S C m f := ⟨fun h u v ha e => h u v ha (by show (f u : Int) = (f v : Int); omega), fun h u v ha e => h u v ha (by have e : (f u : Int) = (f v : Int) := e; omega)⟩
theorem StG.nn (f : Nat → Nat) : StG S C m (fun i => (f i : Int)) ↔ GdS S C m f := and_congr (PrG.nn f) Iff.rfl
theorem AcG.nn (hg : GraP S C m m) (f : Nat → Nat) : AcG S C m (fun i => (f i : Int)) ↔ GdA S C m f := by
  refine and_congr (PrG.nn f) ⟨fun h u v ha _ => h u v ha, fun h u v ha => ?_⟩
  by_cases hl : f u ≤ f v
  · exact h u v ha hl
  · exact (h v u (adG.sy hg _ _ ha) (by omega)).set (fun x hx => hx.swap)
theorem fw_mono {b1 b2 : (Nat → Int) → Nat → Nat → Prop} {r1 r2 : Nat} (h1 : FwP b1 m (fun _ => 0) 0 m r1) (h2 : FwP b2 m (fun _ => 0) 0 m r2) (hi : ∀ f, (∀ j, j < m → ¬ b2 (cuE f j) j (f j)) → ∀ j, j < m → ¬ b1 (cuE f j) j (f j)) : r1 ≤ r2 := by
  rcases h2.at_ with e | ⟨f, _, k2, k3⟩
  · rw [e]; exact h1.le
  · have := h1.all f (fun i hi => by omega) (fun j _ hj => ⟨(k2 j (Nat.zero_le _) hj).1, hi f (fun j hj => (k2 j (Nat.zero_le _) hj).2) j hj⟩) trivial
    omega
theorem StG.re {ds : Nat → Int} (h : ∀ i j, i < m → j < m → (ds i = ds j ↔ cs i = cs j)) : StG S C m ds ↔ StG S C m cs := by
  have k : ∀ (x y : Nat → Int), (∀ i j, i < m → j < m → (x i = x j ↔ y i = y j)) → StG S C m y → StG S C m x := fun x y hxy ⟨h1, h2⟩ => ⟨fun u v ha e => h1 u v ha ((hxy u v ha.1 ha.2.1).1 e), fun a b c d ⟨p1, p2, p3, p4, p5, p6, p7, p8⟩ => h2 a b c d ⟨p1, p2, p3, (hxy c a p2.2.1 p1.1).1 p4, p5, p6, p7, (hxy d b p5.2.1 p1.2.1).1 p8⟩⟩
  exact ⟨k cs ds (fun i j hi hj => (h i j hi hj).symm), k ds cs h⟩
theorem StG.sub {S' C' : List Int} (hs : ∀ u v, adG S' C' m u v → adG S C m u v) (h : StG S C m cs) : StG S' C' m cs := ⟨fun u v ha => h.1 u v (hs u v ha), fun a b c d ⟨p1, p2, p3, p4, p5, p6⟩ => h.2 a b c d ⟨hs _ _ p1, hs _ _ p2, p3, p4, hs _ _ p5, p6⟩⟩
theorem AcG.sub {S' C' : List Int} (hs : ∀ u v, adG S' C' m u v → adG S C m u v) (h : AcG S C m cs) : AcG S' C' m cs := ⟨fun u v ha => h.1 u v (hs u v ha), fun u v ha T hT hC => h.2 u v (hs u v ha) T hT (fun x hx => by
  obtain ⟨p, q, h1, h2, h3, h4, h5⟩ := hC x hx
  exact ⟨p, q, h1, h2, h3, hs _ _ h4, hs _ _ h5⟩)⟩
end
structure ThK (w1 W : World) (B : Nat) (v : Value) (S : List Int) : Prop where
  own : W.ownsRow B 3 1 v S.length (valsI S)
  bel : Below B w1 W
  le : B ≤ W.heap.size
theorem ThK.app {w1 W W3 : World} {B : Nat} {v : Value} {S : List Int} {x : Int} {g cap : Nat} (h : ThK w1 W B v S) (o : Obj) (hown : W3.ownsRow B 3 1 (.slice (some ⟨g, 0, none⟩) (S.length + 1) cap) (S.length + 1) (valsI S ++ [.int .i64 x])) (hg : (W.alloc o).grownBy W3 v.ownBlock) : ThK w1 W3 B (.slice (some ⟨g, 0, none⟩) (S.length + 1) cap) (S ++ [x]) := by
  have hB : Below B W W3 := Below.grown ((Below.refl B W).alloc h.le o) hg (by simp; have := h.le; omega) (fun j hj => (own_ge h.own j hj).1)
  exact ⟨by simpa [valsI] using hown, h.bel.trans hB, Nat.le_trans h.le hB.size⟩
def xoV (shift x : Int) : Int := bits .xor .i64 x (bits .and .i64 shift 15)
def xoL (shift : Int) (xs : List Int) (k : Nat) : List Int := (xs.take k).map (xoV shift)
theorem xoL_succ {shift : Int} {xs : List Int} {k : Nat} (h : k < xs.length) : xoL shift xs (k + 1) = xoL shift xs k ++ [xoV shift (xs.getD k 0)] := by
  unfold xoL
  rw [List.take_add_one, List.map_append, List.getElem?_eq_getElem h, List.getD_eq_getElem?_getD, List.getElem?_eq_getElem h]
  rfl
theorem xoL_len {shift : Int} {xs : List Int} {k : Nat} (h : k ≤ xs.length) : (xoL shift xs k).length = k := by
  simp [xoL]; omega
theorem xoL_at {shift : Int} {xs : List Int} {i : Nat} (h : i < xs.length) : (xoL shift xs xs.length).getD i 0 = xoV shift (xs.getD i 0) := by
  simp [xoL, h]
theorem wrap_inj {a b : Nat} (ha : a < 18446744073709551616) (hb : b < 18446744073709551616) (h : IntKind.i64.wrap (a : Int) = IntKind.i64.wrap (b : Int)) : a = b := by
  have e : ∀ z : Int, IntKind.i64.wrap z = (z + 9223372036854775808) % 18446744073709551616 - 9223372036854775808 := fun z => by
    first
      | rfl
      | (unfold IntKind.wrap; simp [IntKind.signed, IntKind.bits]; omega)
      | (unfold IntKind.wrap; simp; omega)
  rw [e, e] at h
  omega
theorem xoV_inj (shift x y : Int) (hx : 0 ≤ x ∧ x ≤ 65536) (hy : 0 ≤ y ∧ y ≤ 65536) : xoV shift x = xoV shift y ↔ x = y := by
  refine ⟨fun h => ?_, fun h => by rw [h]⟩
  unfold xoV at h
  obtain ⟨c, hc⟩ : ∃ c, bits .and .i64 shift 15 = c := ⟨_, rfl⟩
  rw [hc] at h
  have h2 : (BitVec.ofInt 64 x ^^^ BitVec.ofInt 64 c).toNat = (BitVec.ofInt 64 y ^^^ BitVec.ofInt 64 c).toNat := wrap_inj (BitVec.isLt _) (BitVec.isLt _) h
  have h3 : BitVec.ofInt 64 x ^^^ BitVec.ofInt 64 c = BitVec.ofInt 64 y ^^^ BitVec.ofInt 64 c := BitVec.eq_of_toNat_eq h2
  have h4 : BitVec.ofInt 64 x = BitVec.ofInt 64 y := by
    have := congrArg (· ^^^ BitVec.ofInt 64 c) h3
    simpa [BitVec.xor_assoc] using this
  have h5 := congrArg BitVec.toNat h4
  rw [BitVec.toNat_ofInt, BitVec.toNat_ofInt] at h5
  have e1 : ((2 ^ 64 : Nat) : Int) = 18446744073709551616 := by decide
  rw [e1] at h5
  omega
set_option maxRecDepth 100000 in
set_option maxHeartbeats 32000000 in
theorem kinds_no (rows width er : Int) (a1 : Option Addr) (n1 c1 : Nat) (st : List Int) (a2 : Option Addr) (n2 c2 : Nat) (cols : List Int) (a : Option Addr) (n c : Nat) (xs : List Int) (b : Option Addr) (no co : Nat) (os : List Int) (shift : Int) (w : World) (h1 : SlI w a1 n1 c1 st) (h2 : SlI w a2 n2 c2 cols) (h3 : SlI w a n c xs) (h4 : SlI w b no co os) (her : (er != 0) = true) (hK : KdN 4 rows width n1 n2 st cols er) (hNear : ∀ W, SlI W a1 n1 c1 st → SlI W a2 n2 c2 cols → Calls Tryz.prog 25 #[patV rows width a1 n1 c1 a2 n2 c2] W fun e w' => GqP W w' e 0 [] [] er) : Calls Tryz.prog 6 #[patV rows width a1 n1 c1 a2 n2 c2, .slice a n c, .slice b no co, .int .i64 shift] w fun e w' => e = .returned (.bool true) ∧ Below w.heap.size w w' := by
  obtain ⟨wb, hwb⟩ : ∃ x, w.alloc (.cells #[.int .i64 rows, .int .i64 width, .slice a1 n1 c1, .slice a2 n2 c2] 25) = x := ⟨_, rfl⟩
  have bb : Below w.heap.size w wb := by rw [← hwb]; exact (Below.refl _ _).alloc (Nat.le_refl _) _
  have hT0 := BoxP.made w #[.int .i64 rows, .int .i64 width, .slice a1 n1 c1, .slice a2 n2 c2] 25
  rw [hwb] at hT0
  have HN := hide (show ∀ W, Below wb.heap.size wb W → BoxP W w.heap.size [.int .i64 rows, .int .i64 width, .slice a1 n1 c1, .slice a2 n2 c2] ∧ SlI W a1 n1 c1 st ∧ SlI W a2 n2 c2 cols ∧ SlI W a n c xs ∧ SlI W b no co os ∧ Below w.heap.size w W from fun W b => ⟨hT0.below b, (h1.below bb).below b, (h2.below bb).below b, (h3.below bb).below b, (h4.below bb).below b, bb.trans (b.mono bb.size)⟩)
  have HK := hide hK
  have HNE := hide hNear
  clear hT0 bb h1 h2 h3 h4 hK hNear
  unfold patV
  go_enter Tryz.func6, Tryz.ntmps6
  go_wp2_with fail
  refine (calive_any wb).mono ?_
  rintro _ w1 ⟨rfl, b1⟩
  have hx := unhide HN w1 b1
  have p0 := (hx.1.all 0 _ rfl).1
  have p1 := (hx.1.all 1 _ rfl).1
  have p2 := (hx.1.all 2 _ rfl).1
  have p3 := (hx.1.all 3 _ rfl).1
  have KN := unhide HNE w1 hx.2.1 hx.2.2.1
  unfold patV at KN
  have KN := hide KN
  have HB1 := hide b1
  clear hx b1
  go_wp2_with fail
  refine (unhide KN).mono ?_
  rintro _ w2 ⟨y1, d1, y2, d2, rfl, g1, g2, b2, f1, f2⟩
  have HB2 := hide ((unhide HB1).trans (b2.mono (unhide HB1).size))
  clear KN g1 g2 f1 f2 b2 p0 p1 p2 p3
  try dsimp only
  repeat ((fail_if_success (with_reducible (show Code.wp _ _ _ _ (World.alloc w2 (Obj.cells #[_, _, _, .slice y2 _ d2] _))))); (first | go_values | go_skip | go_guarded | go_step | go_upon | go_back))
  have hNb := BoxP.made w2 #[.int .i64 ((0 : Nat) : Int), .int .i64 ((0 : Nat) : Int), .slice y1 ([] : List Int).length d1, .slice y2 ([] : List Int).length d2] 25
  have bn : Below w2.heap.size w2 (w2.alloc (.cells #[.int .i64 ((0 : Nat) : Int), .int .i64 ((0 : Nat) : Int), .slice y1 ([] : List Int).length d1, .slice y2 ([] : List Int).length d2] 25)) := (Below.refl _ _).alloc (Nat.le_refl _) _
  have HB3 := hide ((unhide HB2).trans (bn.mono (unhide HB2).size))
  simp only [Int.natCast_zero, List.length_nil] at *
  generalize w2.alloc (.cells #[.int .i64 0, .int .i64 0, .slice y1 0 d1, .slice y2 0 d2] 25) = w3 at *
  have HNb := hide hNb
  have hx := unhide HN w3 (unhide HB3)
  have p0 := (hx.1.all 0 _ rfl).1
  have p1 := (hx.1.all 1 _ rfl).1
  have p2 := (hx.1.all 2 _ rfl).1
  have p3 := (hx.1.all 3 _ rfl).1
  have KG := (unhide HK).thg a1 a2 c1 c2 w3 hx.2.1 hx.2.2.1
  unfold patV at KG
  have KG := hide KG
  clear hx bn hNb
  go_wp2_with fail
  refine (unhide KG).mono ?_
  rintro _ w4 ⟨rfl, b4⟩
  have HB4 := hide ((unhide HB3).trans (b4.mono (unhide HB3).size))
  have HNb4 := hide ((unhide HNb).below b4)
  clear KG b4 p0 p1 p2 p3
  have e1 : (er != er) = false := by simp
  have e2 : (er == er) = true := by simp
  go_wp2_with fail
  have bg : Below w4.heap.size w4 (w4.alloc (.cells #[.int .i64 0, .slice none 0 0] 45)) := (Below.refl _ _).alloc (Nat.le_refl _) _
  have HB5 := hide ((unhide HB4).trans (bg.mono (unhide HB4).size))
  have HNb4 := hide ((unhide HNb4).below bg)
  clear bg
  generalize w4.alloc (.cells #[.int .i64 0, .slice none 0 0] 45) = w5 at *
  refine (num12_any er w5).mono ?_
  rintro _ wn ⟨rfl, hwn⟩
  rw [hwn]
  clear hwn wn
  have hx := unhide HN w5 (unhide HB5)
  have p0 := (hx.1.all 0 _ rfl).1
  have p1 := (hx.1.all 1 _ rfl).1
  have p2 := (hx.1.all 2 _ rfl).1
  have p3 := (hx.1.all 3 _ rfl).1
  have KC := cCheck_by 4 rows width er [] a1 a2 a n1 c1 n2 c2 n c w5 (fun W b => (cFault_no 4 rows width er her a n c a1 a2 n1 c1 n2 c2 st cols W (hx.2.1.below b) (hx.2.2.1.below b) ((unhide HK).task a1 a2 c1 c2)).mono (fun e w' q => faP_no (L := []) q))
  unfold patV at KC
  have hck : ckE [] er = er := rfl
  rw [hck] at KC
  have KC := hide KC
  have q3 := ((unhide HNb4).all 3 _ rfl).1
  clear hx hck
  go_wp2_with fail
  refine (num12_any er w5).mono ?_
  rintro _ wn ⟨rfl, hwn⟩
  rw [hwn]
  clear hwn wn
  go_wp2_with fail
  refine (unhide KC).mono ?_
  rintro _ w6 ⟨rfl, b6⟩
  have HNb6 := hide ((unhide HNb4).below b6)
  have HB6 := hide (unhide HN w6 ((unhide HB5).trans (b6.mono (unhide HB5).size))).2.2.2.2.2
  clear KC b6 p0 p1 p2 p3 q3
  have q3 := ((unhide HNb6).all 3 _ rfl).1
  go_wp2_with fail
  refine (num12_any er w6).mono ?_
  rintro _ wn ⟨rfl, hwn⟩
  rw [hwn]
  clear hwn wn
  go_wp2_with fail
  try go_ret
  exact ⟨rfl, unhide HB6⟩
def LeP (k rows width : Int) (n1 n2 : Nat) (st cols : List Int) (d er : Int) : Prop := ∀ (a1 a2 : Option Addr) (c1 c2 : Nat) (W : World), SlI W a1 n1 c1 st → SlI W a2 n2 c2 cols → Calls Tryz.prog 10 #[.int .i64 k, patV rows width a1 n1 c1 a2 n2 c2] W fun e w' => e = .returned (.tuple #[.int .i64 d, .int .i64 er]) ∧ Below W.heap.size W w'
def GrD (R n1 n2 : Nat) (st cols : List Int) (w' : World) (lv : Value) (ev : Int) : Prop := ev = 182 ∨ (ev = 0 ∧ ∃ (al : Option Addr) (cl : Nat) (ls : List Int), lv = .slice al ls.length cl ∧ SlI w' al ls.length cl ls ∧ ChkP 4 (R : Int) (R : Int) n1 n2 ls.length st cols ls 0)
end Go.Proofs.YtgjokididdffhaaGreat
