/- Db3 -/
import Derived.Test.YtgjokididdffhaaGreatDbb
import Derived.Test.YtgjokididdffhaaGreatDbc
import Derived.Test.YtgjokididdffhaaGreatDbd
import Derived.Test.YtgjokididdffhaaGreatDbe
import Derived.Test.YtgjokididdffhaaGreatDbf
import Derived.Test.YtgjokididdffhaaGreatSa4
import Derived.Test.YtgjokididdffhaaGreatRows
import Derived.ProofKit
import Derived.OpenShut
import Derived.ShutString
import Derived.ChangeOld
import Derived.Below
import Derived.SizedLaws
namespace Go.Proofs.YtgjokididdffhaaGreat
open Go.RowKit Go.Deep
set_option linter.unusedVariables false
section
variable {k : Int} {R width n1 n2 m : Nat} {st cols S C : List Int} {Q : Nat → Bool} {G G1 G2 G3 : Nat} {wd : Bool}
theorem lea_of {bar : (Nat → Int) → Nat → Nat → Prop} {Gd : (Nat → Nat) → Prop} (hG : ∀ f, (∀ j, j < m → f j ≤ usE f j) → (Gd f ↔ ∀ j, j < m → ¬ bar (cuE f j) j (f j)))
    (hp : ∀ (a1 a2 : Option Addr) (c1 c2 : Nat) (w : World), SlI w a1 n1 c1 st → SlI w a2 n2 c2 cols → Calls Tryz.prog 10 #[.int .i64 k, patV (R : Int) (width : Int) a1 n1 c1 a2 n2 c2] w fun e w' => LeA bar m w w' e) :
    ∃ (d : Nat) (er : Int), LeP k (R : Int) (width : Int) n1 n2 st cols (d : Int) er ∧ ((8 < m ∧ er = 1) ∨ (m ≤ 8 ∧ er = 0 ∧ FwP bar m (fun _ => 0) 0 m d)) := by
  by_cases h8 : m ≤ 8
  · obtain ⟨d, hd⟩ := dsP_ex Gd m
    have hF := fwP_of_ds hG hd
    refine ⟨d, 0, fun a1 a2 c1 c2 w g1 g2 => (hp a1 a2 c1 c2 w g1 g2).mono (fun e w' h => ?_), .inr ⟨h8, rfl, hF⟩⟩
    rcases h.2 with ⟨h9, _⟩ | ⟨_, r, hr, he⟩
    · omega
    · have e1 : r = d := Nat.le_antisymm (fw_mono hr hF (fun f k => k)) (fw_mono hF hr (fun f k => k))
      subst e1
      exact ⟨he, h.1⟩
  · refine ⟨0, 1, fun a1 a2 c1 c2 w g1 g2 => (hp a1 a2 c1 c2 w g1 g2).mono (fun e w' h => ?_), .inl ⟨by omega, rfl⟩⟩
    rcases h.2 with ⟨_, he⟩ | ⟨h9, _⟩
    · exact ⟨he, h.1⟩
    · exact absurd h9 h8
theorem lea_nb (h : KdY k R width n1 n2 st cols m S C Q G G1 93 G3 wd) : ∃ (d : Nat) (er : Int), LeP k (R : Int) (width : Int) n1 n2 st cols (d : Int) er ∧ ((8 < m ∧ er = 1) ∨ (m ≤ 8 ∧ er = 0 ∧ FwP (BarN S C) m (fun _ => 0) 0 m d)) :=
  lea_of (fun f _ => gd_nb h.may h.gra f) (fun a1 a2 c1 c2 w g1 g2 => cLeast_yes (BarN S C) (fun _ _ => True) (fun _ _ _ _ _ => trivial) (fun _ _ _ _ _ _ _ => trivial) (fun _ _ _ => trivial) k G G1 _ G3 wd R width m S C a1 a2 n1 c1 n2 c2 st cols w g1 g2 h.m8 (fun X x d y z g h' => frAll_nb h.may h.sl h.cl) (fun W' => h.task a1 a2 c1 c2 W'))
theorem lea_st (h : KdY k R width n1 n2 st cols m S C Q G G1 102 G3 wd) : ∃ (d : Nat) (er : Int), LeP k (R : Int) (width : Int) n1 n2 st cols (d : Int) er ∧ ((8 < m ∧ er = 1) ∨ (m ≤ 8 ∧ er = 0 ∧ FwP (BarP S C) m (fun _ => 0) 0 m d)) :=
  lea_of (fun f _ => gd_st h.may h.gra f) (fun a1 a2 c1 c2 w g1 g2 => cLeast_yes (BarP S C) (fun _ _ => True) (fun _ _ _ _ _ => trivial) (fun _ _ _ _ _ _ _ => trivial) (fun _ _ _ => trivial) k G G1 _ G3 wd R width m S C a1 a2 n1 c1 n2 c2 st cols w g1 g2 h.m8 (fun X x d y z g h' => frAll_st h.may h.sl h.cl) (fun W' => h.task a1 a2 c1 c2 W'))
theorem lea_ac (h : KdY k R width n1 n2 st cols m S C Q G G1 104 G3 wd) : ∃ (d : Nat) (er : Int), LeP k (R : Int) (width : Int) n1 n2 st cols (d : Int) er ∧ ((8 < m ∧ er = 1) ∨ (m ≤ 8 ∧ er = 0 ∧ FwP (BarA S C m) m (fun _ => 0) 0 m d)) :=
  lea_of (fun f _ => gd_ac h.may h.gra f) (fun a1 a2 c1 c2 w g1 g2 => cLeast_yes (BarA S C m) (fun X W => ∃ pf, RoF W X 16 pf) (fun X W W' ⟨pf, hr⟩ b => ⟨pf, hr.below b⟩) (fun X g W W' hne ⟨pf, hr⟩ b => ⟨pf, hr.chg b (fun e => hne e.symm)⟩) (fun X W hr => ⟨_, hr⟩) k G G1 _ G3 wd R width m S C a1 a2 n1 c1 n2 c2 st cols w g1 g2 h.m8 (fun X x d y z g h' => frAll_ac h.may h.gra h.sl h.cl) (fun W' => h.task a1 a2 c1 c2 W'))
end
theorem kinds_gra (R : Nat) (a1 : Option Addr) (n1 c1 : Nat) (st : List Int) (a2 : Option Addr) (n2 c2 : Nat) (cols : List Int) (a : Option Addr) (n c : Nat) (xs : List Int) (b : Option Addr) (no co : Nat) (os : List Int) (shift : Int) (w : World) (h1 : SlI w a1 n1 c1 st) (h2 : SlI w a2 n2 c2 cols) (h3 : SlI w a n c xs) (h4 : SlI w b no co os) (hb1 : n1 ≤ 17592186044000) (hb2 : n2 ≤ 17592186044000) (hn : n ≤ 17592186044000) (hno : no ≤ 17592186044000) (hm : MayP (R : Int) (R : Int) st cols) (hg : GraP st cols R R) : Calls Tryz.prog 6 #[patV (R : Int) (R : Int) a1 n1 c1 a2 n2 c2, .slice a n c, .slice b no co, .int .i64 shift] w fun e w' => e = .returned (.bool true) ∧ Below w.heap.size w w' := by
  have hl1 := h1.len
  have hl2 := h2.len
  have hl3 := h3.len
  have hl4 := h4.len
  have hR8 : R ≤ 128 := by have := hm.head.fit; omega
  obtain ⟨Q1, k1⟩ := kd_yes1 R n1 n2 st cols (by omega) (by omega) hb1 hb2 hm hg
  obtain ⟨Q4, k4⟩ := kd_yes4 R n1 n2 st cols (by omega) (by omega) hb1 hb2 hm hg
  obtain ⟨Q5, k5⟩ := kd_yes5 R n1 n2 st cols (by omega) (by omega) hb1 hb2 hm hg
  -- what is near
  obtain ⟨P, hP⟩ : ∃ P : Nat → Nat → Prop, P = fun u v => u < R ∧ v < R ∧ NeP st cols R u v := ⟨_, rfl⟩
  have hPu : ∀ u v, u < R → v < R → ((NrP st cols R (u * 128 + v) ∧ u ≠ v) ↔ P u v) := fun u v hu hv => by
    rw [NrP.ne hm hg hu hv, hP]
    exact ⟨fun h => ⟨hu, hv, h⟩, fun h => h.2.2⟩
  have hsy : ∀ u v, P u v → P v u := fun u v h => by
    rw [hP] at h ⊢
    obtain ⟨hu, hv, hne, h⟩ := h
    refine ⟨hv, hu, Ne.symm hne, ?_⟩
    rcases h with h | ⟨j, hj, e1, e2⟩
    · exact .inl (hg.2.1 _ _ hv hu h)
    · exact .inr ⟨j, hj, hg.2.1 _ _ hv hj e2, hg.2.1 _ _ hj hu e1⟩
  have hir : ∀ u, ¬ P u u := fun u h => by rw [hP] at h; exact h.2.2.1 rfl
  obtain ⟨hgN, hadN⟩ := gra_gr hR8 hsy hir
  have hmN : MayP (R : Int) (R : Int) (grS P R R) (grC P R R) := may_gr hR8
  have hNr := fun W g1 g2 => cnearf_yes R a1 a2 n1 c1 n2 c2 st cols W g1 g2 hb1 hb2 hm hg P hPu
  have sN : (grS P R R).length ≤ 17592186044000 := by rw [grS_len]; omega
  have cN : (grC P R R).length ≤ 17592186044000 := by
    have e1 := grC_len P R R
    have e2 : R * R ≤ 128 * 128 := Nat.mul_le_mul hR8 hR8
    omega
  obtain ⟨S, hS⟩ : ∃ S, grS P R R = S := ⟨_, rfl⟩
  obtain ⟨C, hC⟩ : ∃ C, grC P R R = C := ⟨_, rfl⟩
  rw [hS, hC] at hgN hadN hmN hNr
  rw [hS] at sN
  rw [hC] at cN
  have hnear : ∀ u v, u < R → v < R → (adG S C R u v ↔ (u ≠ v ∧ (adG st cols R u v ∨ ∃ j, adG st cols R u j ∧ adG st cols R j v))) := fun u v hu hv => by
    rw [hadN u v hu hv, hP]
    constructor
    · rintro ⟨_, _, hne, h | ⟨j, hj, e1, e2⟩⟩
      · exact ⟨hne, .inl ⟨hu, hv, h⟩⟩
      · exact ⟨hne, .inr ⟨j, ⟨hu, hj, e1⟩, ⟨hj, hv, e2⟩⟩⟩
    · rintro ⟨hne, h | ⟨j, e1, e2⟩⟩
      · exact ⟨hu, hv, hne, .inl h.2.2⟩
      · exact ⟨hu, hv, hne, .inr ⟨j, e1.2.1, e1.2.2, e2.2.2⟩⟩
  clear hS hC hPu hsy hir hP
  obtain ⟨QN, kN⟩ := kd_yes1 R S.length C.length S C rfl rfl sN cN hmN hgN
  -- the part
  obtain ⟨Cd, hCd⟩ : ∃ Cd : Nat → Nat → Prop, Cd = fun r c => r < R ∧ c < R ∧ cdP false false (pzI os R) ((R - 1) / 2) r c := ⟨_, rfl⟩
  have hsyP : ∀ u v, (InC st cols v u ∧ Cd u v) → (InC st cols u v ∧ Cd v u) := fun u v h => by
    rw [hCd] at h ⊢
    obtain ⟨h1, hu, hv, h2⟩ := h
    refine ⟨hg.2.1 _ _ hv hu h1, hv, hu, ?_⟩
    simp only [cdP] at h2 ⊢
    simpa [and_comm] using h2
  have hirP : ∀ u, ¬ (InC st cols u u ∧ Cd u u) := fun u h => by
    rw [hCd] at h
    exact hg.2.2 ⟨u, h.2.1, h.1⟩
  obtain ⟨hgP, hadP⟩ := gra_gr (P := fun r c => InC st cols c r ∧ Cd r c) hR8 hsyP hirP
  have hmP : MayP (R : Int) (R : Int) (grS (fun r c => InC st cols c r ∧ Cd r c) R R) (grC (fun r c => InC st cols c r ∧ Cd r c) R R) := may_gr hR8
  have hPa : ∀ ok : Bool, TruQ ok (IsOrd os R) → ok = true → 0 < R → ∀ (x1 x2 x : Option Addr) (d1 d2 d : Nat) W, SlI W x1 n1 d1 st → SlI W x2 n2 d2 cols → SlI W x no d os → Calls Tryz.prog 23 #[.int .i64 4, patV (R : Int) (R : Int) x1 n1 d1 x2 n2 d2, .slice x no d, .int .i64 (((R - 1) / 2 : Nat) : Int)] W fun e w' => GpQ W w' e R R (grS (fun r c => InC st cols c r ∧ Cd r c) R R) (grC (fun r c => InC st cols c r ∧ Cd r c) R R) := fun ok hok e hpos x1 x2 x d1 d2 d W g1 g2 g3 => by
    obtain ⟨e1, e2⟩ := hok.1 e
    have e3 : no = R := by omega
    subst e3
    exact wpart_both 4 (by decide) (by decide) no no no ((no - 1) / 2) x1 x2 x n1 d1 n2 d2 d st cols os W g1 g2 g3 hb1 hb2 hm e2 hR8 (Nat.le_refl _) (Nat.le_refl _) Cd (fun r c hr hc => by rw [hCd]; exact ⟨fun h => h.2.2, fun h => ⟨hr, hc, h⟩⟩)
  have sP : (grS (fun r c => InC st cols c r ∧ Cd r c) R R).length ≤ 17592186044000 := by rw [grS_len]; omega
  have cP : (grC (fun r c => InC st cols c r ∧ Cd r c) R R).length ≤ 17592186044000 := by
    have e1 := grC_len (fun r c => InC st cols c r ∧ Cd r c) R R
    have e2 : R * R ≤ 128 * 128 := Nat.mul_le_mul hR8 hR8
    omega
  have hsub : ∀ u v, adG (grS (fun r c => InC st cols c r ∧ Cd r c) R R) (grC (fun r c => InC st cols c r ∧ Cd r c) R R) R u v → adG st cols R u v := fun u v h => ⟨h.1, h.2.1, ((hadP u v h.1 h.2.1).1 h).1⟩
  obtain ⟨S', hS'⟩ : ∃ S, grS (fun r c => InC st cols c r ∧ Cd r c) R R = S := ⟨_, rfl⟩
  obtain ⟨C', hC'⟩ : ∃ C, grC (fun r c => InC st cols c r ∧ Cd r c) R R = C := ⟨_, rfl⟩
  rw [hS', hC'] at hgP hmP hsub
  simp only [hS', hC'] at hPa
  rw [hS'] at sP
  rw [hC'] at cP
  clear hS' hC' hadP hsyP hirP hCd
  obtain ⟨Q4', k4'⟩ := kd_yes4 R S'.length C'.length S' C' rfl rfl sP cP hmP hgP
  obtain ⟨Q5', k5'⟩ := kd_yes5 R S'.length C'.length S' C' rfl rfl sP cP hmP hgP
  -- the least numbers
  obtain ⟨l1, er, hL1, f1⟩ := lea_nb k1
  obtain ⟨l5, er5, hL5, f5⟩ := lea_ac k5
  obtain ⟨l4, er4, hL4, f4⟩ := lea_st k4
  obtain ⟨ln, ern, hLn, fn⟩ := lea_nb kN
  have hLs : er5 = er ∧ er4 = er ∧ ern = er ∧ ((R ≤ 8 ∧ er = 0 ∧ (l1 : Int) ≤ l5 ∧ (l5 : Int) ≤ l4 ∧ (l4 : Int) ≤ ln) ∨ (8 < R ∧ er = 1)) := by
    rcases f1 with ⟨r1, e1⟩ | ⟨r1, e1, f1⟩
    · rcases f5 with ⟨r5, e5⟩ | ⟨r5, e5, f5⟩
      · rcases f4 with ⟨r4, e4⟩ | ⟨r4, e4, f4⟩
        · rcases fn with ⟨rn, en⟩ | ⟨rn, en, fn⟩
          · exact ⟨by omega, by omega, by omega, .inr ⟨r1, e1⟩⟩
          · omega
        · omega
      · omega
    · rcases f5 with ⟨r5, e5⟩ | ⟨r5, e5, f5⟩
      · omega
      rcases f4 with ⟨r4, e4⟩ | ⟨r4, e4, f4⟩
      · omega
      rcases fn with ⟨rn, en⟩ | ⟨rn, en, fn⟩
      · omega
      have m1 : l1 ≤ l5 := fw_mono f1 f5 (fun f h => (gd_nb hm hg f).1 ((PrG.nn f).1 ((AcG.nn hg f).2 ((gd_ac hm hg f).2 h)).1))
      have m2 : l5 ≤ l4 := fw_mono f5 f4 (fun f h => (gd_ac hm hg f).1 ((AcG.nn hg f).1 (((StG.nn f).2 ((gd_st hm hg f).2 h)).ac hg)))
      have m3 : l4 ≤ ln := fw_mono f4 fn (fun f h => (gd_st hm hg f).1 ((StG.nn f).1 (near_st hnear hg ((PrG.nn f).2 ((gd_nb hmN hgN f).2 h)))))
      exact ⟨by omega, by omega, by omega, .inl ⟨r1, e1, by omega, by omega, by omega⟩⟩
  obtain ⟨e5, e4, en, hLs⟩ := hLs
  subst e5 e4 en
  clear f1 f5 f4 fn
  -- Greedy of what is near
  have hGr : ∀ (x1 x2 : Option Addr) (d1 d2 : Nat) W, SlI W x1 S.length d1 S → SlI W x2 C.length d2 C → SlI W b no co os → Calls Tryz.prog 18 #[.int .i64 1, patV (R : Int) (R : Int) x1 S.length d1 x2 C.length d2, .slice b no co] W fun e w' => ∃ (lv : Value) (zv ev : Int), e = .returned (.tuple #[lv, .int .i64 zv, .int .i64 ev]) ∧ Below W.heap.size W w' ∧ GrD R n1 n2 st cols w' lv ev := fun x1 x2 d1 d2 W g1 g2 g3 =>
    (cGreedy_nb 1 _ _ _ _ R R R S C b no co os x1 x2 S.length d1 C.length d2 S C W g1 g2 g3 hno kN.sl kN.cl kN.may (fun W' => kN.task x1 x2 d1 d2 W')).mono (fun e w' h => by
      by_cases ho : IsOrd os R
      · obtain ⟨g, cs, z, he, hp, hz, hr, hgl⟩ := h.2.1 ho
        have hs := ((PntN.g.1 hp).steps (ord_dist ho.2)).2
        have h0 := all_nn ho.2 (fun j hj => (hs j hj).1)
        have hpr : PrG S C R cs := pnt_nb hmN hgN ho.2 (fun j hj => ⟨(hs j hj).1, (hs j hj).2.may⟩)
        have hup := PntN.rng hmN (fun i hi => ho.2.rng i hi) (Nat.le_refl _) hp
        refine ⟨_, _, _, he, h.1, .inr ⟨rfl, some ⟨g, 0, none⟩, R, csL cs R, by rw [csL_len], by rw [csL_len]; exact hr.sli hR8, ?_⟩⟩
        have hst := near_st hnear hg hpr
        have hcs : ∀ i, i < R → (csL cs R).getD i 0 = cs i := fun i hi => csL_get hi
        have := chk4_val (xs := csL cs R) (n := (csL cs R).length) hb1 hb2 (by rw [csL_len]; omega) hm k4
        rw [tb_iff.2 (show (csL cs R).length = R ∧ MayC (csL cs R) (csL cs R).length from ⟨csL_len cs R, fun i hi => by
          rw [csL_len] at hi
          rw [hcs i hi]
          have := hup i
          have := h0 i hi
          omega⟩), tb_iff.2 (show StG st cols R (fun i => (csL cs R).getD i 0) from (StG.re (fun i j hi hj => by show (csL cs R).getD i 0 = (csL cs R).getD j 0 ↔ cs i = cs j; rw [hcs i hi, hcs j hj])).2 hst)] at this
        exact this
      · exact ⟨_, _, _, h.2.2 ho, h.1, .inl rfl⟩)
  -- Check
  have K1 := chk1_val (xs := xs) hb1 hb2 hn hm k1
  have K4 := chk4_val (xs := xs) hb1 hb2 hn hm k4
  have K5 := chk5_val (xs := xs) hb1 hb2 hn hm k5
  have Kf := chk1_val (xs := xs) sN cN hn hmN kN
  have KO := chk4_val (xs := xoL shift xs n) hb1 hb2 hn hm k4
  have Kq4 := chk4_val (xs := xs) sP cP hn hmP k4'
  have Kq5 := chk5_val (xs := xs) sP cP hn hmP k5'
  obtain ⟨ok, hok⟩ : ∃ ok, TruQ ok (IsOrd os R) := ⟨tb (IsOrd os R), tb_iff⟩
  have hThg := fun W g1 g2 => k4.thg a1 a2 c1 c2 W g1 g2
  by_cases hmc : n = R ∧ MayC xs n
  · rw [tb_iff.2 hmc] at K1 K4 K5 Kf Kq4 Kq5
    have hOS : StG st cols R (fun i => (xoL shift xs n).getD i 0) ↔ StG st cols R (fun i => xs.getD i 0) := StG.re (fun i j hi hj => by
      have e1 : n = xs.length := by omega
      have hi' : i < xs.length := by omega
      have hj' : j < xs.length := by omega
      show (xoL shift xs n).getD i 0 = (xoL shift xs n).getD j 0 ↔ xs.getD i 0 = xs.getD j 0
      rw [e1, xoL_at hi', xoL_at hj']
      exact xoV_inj shift _ _ (hmc.2 i (by omega)) (hmc.2 j (by omega)))
    have hov : ∀ v, chV true (tb (StG st cols R (fun i => xs.getD i 0))) = v → (chV (tb (n = R ∧ MayC (xoL shift xs n) n)) (tb (StG st cols R (fun i => (xoL shift xs n).getD i 0))) = v ∨ chV (tb (n = R ∧ MayC (xoL shift xs n) n)) (tb (StG st cols R (fun i => (xoL shift xs n).getD i 0))) = 240) := fun v hv => by
      have e1 : tb (StG st cols R (fun i => (xoL shift xs n).getD i 0)) = tb (StG st cols R (fun i => xs.getD i 0)) := by
        apply Bool.eq_iff_iff.2
        rw [tb_iff, tb_iff]
        exact hOS
      rw [e1]
      cases tb (n = R ∧ MayC (xoL shift xs n) n) with
      | true => exact .inl hv
      | false => exact .inr rfl
    have tt : ∀ {p : Prop}, p → tb p = true := fun h => tb_iff.2 h
    have tf : ∀ {p : Prop}, ¬ p → tb p = false := fun {p} h => by
      cases hh : tb p with
      | false => rfl
      | true => exact absurd (tb_iff.1 hh) h
    have subS : StG st cols R (fun i => xs.getD i 0) → StG S' C' R (fun i => xs.getD i 0) := StG.sub hsub
    have subA : AcG st cols R (fun i => xs.getD i 0) → AcG S' C' R (fun i => xs.getD i 0) := AcG.sub hsub
    by_cases hs : StG st cols R (fun i => xs.getD i 0)
    · have hst := tt hs
      rw [tt hs] at K4
      rw [tt (hs.ac hg)] at K5
      rw [tt hs.1] at K1
      rw [tt (subS hs)] at Kq4
      rw [tt (subA (hs.ac hg))] at Kq5
      by_cases hf : PrG S C R (fun i => xs.getD i 0)
      · rw [tt hf] at Kf
        exact kinds_yes_f R a1 n1 c1 st a2 n2 c2 cols a n c xs b no co os shift w h1 h2 h3 h4 S C Q4 hNr hThg hR8 hn hno ok hok S' C' (hPa ok hok) l1 l5 l4 ln ern hL1 hL5 hL4 hLn hLs Kq4 Kq5 _ (hov 0 (by rw [hst]; rfl)) KO K1 K4 K5 Kf hGr
      · rw [tf hf] at Kf
        exact kinds_yes_e R a1 n1 c1 st a2 n2 c2 cols a n c xs b no co os shift w h1 h2 h3 h4 S C Q4 hNr hThg hR8 hn hno ok hok S' C' (hPa ok hok) l1 l5 l4 ln ern hL1 hL5 hL4 hLn hLs Kq4 Kq5 _ (hov 0 (by rw [hst]; rfl)) KO K1 K4 K5 Kf hGr
    · have hst := tf hs
      have hf : ¬ PrG S C R (fun i => xs.getD i 0) := fun h => hs (near_st hnear hg h)
      rw [tf hs] at K4
      rw [tf hf] at Kf
      by_cases ha : AcG st cols R (fun i => xs.getD i 0)
      · rw [tt ha] at K5
        rw [tt ha.1] at K1
        rw [tt (subA ha)] at Kq5
        exact kinds_yes_d R a1 n1 c1 st a2 n2 c2 cols a n c xs b no co os shift w h1 h2 h3 h4 S C Q4 hNr hThg hR8 hn hno ok hok S' C' (hPa ok hok) l1 l5 l4 ln ern hL1 hL5 hL4 hLn hLs trivial Kq5 _ (hov 241 (by rw [hst]; rfl)) KO K1 K4 K5 Kf hGr
      · rw [tf ha] at K5
        by_cases hp : PrG st cols R (fun i => xs.getD i 0)
        · rw [tt hp] at K1
          exact kinds_yes_c R a1 n1 c1 st a2 n2 c2 cols a n c xs b no co os shift w h1 h2 h3 h4 S C Q4 hNr hThg hR8 hn hno ok hok S' C' (hPa ok hok) l1 l5 l4 ln ern hL1 hL5 hL4 hLn hLs trivial trivial _ (hov 241 (by rw [hst]; rfl)) KO K1 K4 K5 Kf hGr
        · rw [tf hp] at K1
          exact kinds_yes_b R a1 n1 c1 st a2 n2 c2 cols a n c xs b no co os shift w h1 h2 h3 h4 S C Q4 hNr hThg hR8 hn hno ok hok S' C' (hPa ok hok) l1 l5 l4 ln ern hL1 hL5 hL4 hLn hLs trivial trivial _ (hov 241 (by rw [hst]; rfl)) KO K1 K4 K5 Kf hGr
  · have e0 : tb (n = R ∧ MayC xs n) = false := by
      cases hh : tb (n = R ∧ MayC xs n) with
      | false => rfl
      | true => exact absurd (tb_iff.1 hh) hmc
    rw [e0] at K1 K4 K5 Kf Kq4 Kq5
    exact kinds_yes_a R a1 n1 c1 st a2 n2 c2 cols a n c xs b no co os shift w h1 h2 h3 h4 S C Q4 hNr hThg hR8 hn hno ok hok S' C' (hPa ok hok) l1 l5 l4 ln ern hL1 hL5 hL4 hLn hLs trivial trivial 0 trivial trivial K1 K4 K5 Kf hGr
theorem kinds_any (rows width : Int) (a1 : Option Addr) (n1 c1 : Nat) (st : List Int) (a2 : Option Addr) (n2 c2 : Nat) (cols : List Int) (a : Option Addr) (n c : Nat) (xs : List Int) (b : Option Addr) (no co : Nat) (os : List Int) (shift : Int) (w : World) (h1 : SlI w a1 n1 c1 st) (h2 : SlI w a2 n2 c2 cols) (h3 : SlI w a n c xs) (h4 : SlI w b no co os) (hb1 : n1 ≤ 17592186044000) (hb2 : n2 ≤ 17592186044000) (hn : n ≤ 17592186044000) (hno : no ≤ 17592186044000) : Calls Tryz.prog 6 #[patV rows width a1 n1 c1 a2 n2 c2, .slice a n c, .slice b no co, .int .i64 shift] w fun e w' => e = .returned (.bool true) ∧ Below w.heap.size w w' := by
  by_cases hm : MayP rows width st cols
  · obtain ⟨R, rfl⟩ : ∃ R : Nat, rows = (R : Int) := ⟨rows.toNat, by have := hm.head.fit; omega⟩
    obtain ⟨N, rfl⟩ : ∃ N : Nat, width = (N : Int) := ⟨width.toNat, by have := hm.head.fit; omega⟩
    by_cases hg : GraP st cols R N
    · have e := hg.1
      subst e
      exact kinds_gra R a1 n1 c1 st a2 n2 c2 cols a n c xs b no co os shift w h1 h2 h3 h4 hb1 hb2 hn hno hm hg
    · refine kinds_no R N 220 a1 n1 c1 st a2 n2 c2 cols a n c xs b no co os shift w h1 h2 h3 h4 (by decide) (kd_nog4 R N n1 n2 st cols hb1 hb2 hm hg) (fun W g1 g2 => cnearf_no R N a1 a2 n1 c1 n2 c2 st cols W g1 g2 hb1 hb2 220 (by decide) (fun W' hb => ?_))
      have q1 := g1.below hb
      have q2 := g2.below hb
      by_cases hs : R = N ∧ SyP st cols R
      · obtain ⟨rfl, hsy⟩ := hs
        exact citself_diag R a1 a2 n1 c1 n2 c2 st cols W' q1 q2 hb1 hb2 hm hsy (Classical.byContradiction (fun hd => hg ⟨rfl, hsy, hd⟩))
      · exact citself_asym R N a1 a2 n1 c1 n2 c2 st cols W' q1 q2 hb1 hb2 hm hs
  · exact kinds_no rows width 180 a1 n1 c1 st a2 n2 c2 cols a n c xs b no co os shift w h1 h2 h3 h4 (by decide) (kd_nop 4 rows width n1 n2 st cols hb1 hb2 hm) (fun W g1 g2 => cnearf_no rows width a1 a2 n1 c1 n2 c2 st cols W g1 g2 hb1 hb2 180 (by decide) (fun W' hb => citself_no rows width a1 a2 n1 c1 n2 c2 st cols W' (g1.below hb) (g2.below hb) hb1 hb2 hm))
end Go.Proofs.YtgjokididdffhaaGreat
namespace Go.Proofs.YtgjokididdffhaaGreat
open Go.ChangeShapes Go.WideShapes Go.ChangeAt Go.RowKit Go.Deep
set_option linter.unusedVariables false
theorem law_bytesI : Tryz.prog.bytesOf 3 = 8 := by kernel_rfl
theorem law_cellsI : Tryz.prog.cellsOf 3 = 1 := by kernel_rfl
theorem law_cellsIs : Tryz.prog.cellsOf 23 = 1 := by kernel_rfl
theorem law_cellsP : Tryz.prog.cellsOf 25 = 4 := by kernel_rfl
theorem trod_s4 {H : Type} {enc : TypeId × Value → H} {P : Program} {w : World} {base : Nat} {spare : Nat → Bool} {held : Bool} {t : TypeId} {f0 f1 f2 f3 : Field} {fuel : Nat} {cs : List Value} {x : DataW H × List MemPlace} (ht : P.underlying t = some (.struct #[f0, f1, f2, f3])) (h : DataW.trod enc P w base spare held fuel t cs = some x) :
    ∃ y0 y1 y2 y3 n, x = (.agg [y0.1, y1.1, y2.1, y3.1], y0.2 ++ (y1.2 ++ (y2.2 ++ y3.2))) ∧ cs.length = P.cellsOf t ∧ DataW.trod enc P w base spare held n f0.type ((cs.drop f0.offset).take (P.cellsOf f0.type)) = some y0 ∧
      DataW.trod enc P w base spare held n f1.type ((cs.drop f1.offset).take (P.cellsOf f1.type)) = some y1 ∧ DataW.trod enc P w base spare held n f2.type ((cs.drop f2.offset).take (P.cellsOf f2.type)) = some y2 ∧ DataW.trod enc P w base spare held n f3.type ((cs.drop f3.offset).take (P.cellsOf f3.type)) = some y3 := by
  obtain ⟨xs, n, _, rfl, hl, hlen, hf⟩ := DataW.trod_struct ht h
  match xs, hlen with
  | [y0, y1, y2, y3], _ => exact ⟨y0, y1, y2, y3, n, by simp, hl, by simpa using hf 0 f0 rfl, by simpa using hf 1 f1 rfl, by simpa using hf 2 f2 rfl, by simpa using hf 3 f3 rfl⟩
theorem trod_intsZ {H : Type} {enc : TypeId × Value → H} {W : World} {fuel : Nat} {cs : List Value} {x : DataW H × List MemPlace}
    (h : DataW.trod enc Tryz.prog W 0 (fun _ => true) true fuel 23 cs = some x) (hz : ∀ k ∈ x.1.weights Tryz.prog 23, k ≤ reachBytes) :
    ∃ a n c xs, cs = [.slice a n c] ∧ SlI W a n c xs ∧ n ≤ 17592186044000 := by
  rcases open_ints Tryz.underlying23 Tryz.underlying3 law_cellsI h with ⟨rfl, _⟩ | ⟨y, n, c, zs, rfl, _, hl, hm, hzl, rfl, hcell, hwz⟩
  · exact ⟨none, 0, 0, [], rfl, SlI.nil _, Nat.zero_le _⟩
  · have hzl' : zs.length = c := by simpa using hzl
    have hb := hz (((lits (H := H) .i64 (zs.take n)).length + (lits (H := H) .i64 (zs.drop n)).length) * Tryz.prog.bytesOf 3) (by simp [DataW.weights, Tryz.underlying23])
    have hlen : (lits (H := H) .i64 (zs.take n)).length + (lits (H := H) .i64 (zs.drop n)).length = c := by
      simp [lits]; omega
    rw [hlen, law_bytesI] at hb
    unfold reachBytes at hb
    refine ⟨some y, n, c, zs.take n, rfl, ⟨by simp; omega, hl, hm, ?_⟩, by omega⟩
    by_cases h0 : n = 0
    · left; subst h0; simp
    · right
      obtain ⟨b, off, spot⟩ := y
      have c0 := hcell 0 (by omega)
      have hspot : spot = none := by simpa [Addr.add] using World.cell?_spot c0
      subst hspot
      refine ⟨b, off, rfl, ?_⟩
      intro i hi
      have hi' : i < n := by simp at hi; omega
      have e : (⟨b, off, none⟩ : Addr).add i = ⟨b, off + i, none⟩ := by unfold Addr.add; split <;> simp_all
      have hzi := hcell i (by omega)
      rw [e] at hzi
      rw [hzi]
      have e2 : (zs.take n).getD i 0 = zs.getD i 0 := by
        simp [List.getD, hi', show i < zs.length from by omega]
      rw [e2]
structure PatZ (W : World) (a1 : Option Addr) (n1 c1 : Nat) (st : List Int) (a2 : Option Addr) (n2 c2 : Nat) (cols : List Int) : Prop where
  h1 : SlI W a1 n1 c1 st
  h2 : SlI W a2 n2 c2 cols
  l1 : n1 ≤ 17592186044000
  l2 : n2 ≤ 17592186044000
set_option maxRecDepth 100000 in
theorem trod_patZ {H : Type} {enc : TypeId × Value → H} {W : World} {fuel : Nat} {cs : List Value} {x : DataW H × List MemPlace}
    (h : DataW.trod enc Tryz.prog W 0 (fun _ => true) true fuel 25 cs = some x) (hz : ∀ k ∈ x.1.weights Tryz.prog 25, k ≤ reachBytes) :
    ∃ rows width a1 n1 c1 st a2 n2 c2 cols, cs = [.int .i64 rows, .int .i64 width, .slice a1 n1 c1, .slice a2 n2 c2] ∧ PatZ W a1 n1 c1 st a2 n2 c2 cols := by
  obtain ⟨y0, y1, y2, y3, k, rfl, hl, h0, h1, h2, h3⟩ := trod_s4 Tryz.underlying25 h
  rw [law_cellsP] at hl
  match cs, hl with
  | [c0, c1, c2, c3], _ =>
    simp only [List.drop_zero, List.drop_succ_cons, law_cellsI, law_cellsIs, List.take_succ_cons, List.take_zero] at h0 h1 h2 h3
    obtain ⟨r, e0, _⟩ := DataW.trod_int Tryz.underlying3 h0
    obtain ⟨wd, e1, _⟩ := DataW.trod_int Tryz.underlying3 h1
    obtain ⟨a1, n1, d1, st, e2, k1, k2⟩ := trod_intsZ h2 (fun k hk => hz k (by simp [DataW.weights, DataW.weightsEach, Tryz.underlying25, hk]))
    obtain ⟨a2, n2, d2, cols, e3, k3, k4⟩ := trod_intsZ h3 (fun k hk => hz k (by simp [DataW.weights, DataW.weightsEach, Tryz.underlying25, hk]))
    cases e0
    cases e1
    cases e2
    cases e3
    exact ⟨r, wd, a1, n1, d1, st, a2, n2, d2, cols, rfl, ⟨k1, k3, k2, k4⟩⟩
set_option maxRecDepth 100000 in
theorem arg_patZ {H : Type} {enc : TypeId × Value → H} {W : World} {v : Value} {d : DataW H} {p : List MemPlace} {r : Reach} {b0 : Nat}
    (hv : Value.okWide Tryz.prog W r b0 25 v) (h : DataW.Trod enc Tryz.prog W 0 (fun _ => true) true 25 v d p) (hz : ∀ k ∈ d.weights Tryz.prog 25, k ≤ reachBytes) :
    ∃ rows width a1 n1 c1 st a2 n2 c2 cols, v = patV rows width a1 n1 c1 a2 n2 c2 ∧ PatZ W a1 n1 c1 st a2 n2 c2 cols := by
  obtain ⟨cs, rfl, hsz⟩ := okWide_struct Tryz.underlying25 hv
  obtain ⟨fuel, hf⟩ := h
  obtain ⟨rows, width, a1, n1, c1, st, a2, n2, c2, cols, e, k⟩ := trod_patZ hf hz
  have hcs : (Value.agg cs).cells.toList = cs.toList := by simp [Value.cells]
  rw [hcs] at e
  refine ⟨rows, width, a1, n1, c1, st, a2, n2, c2, cols, ?_, k⟩
  unfold patV
  congr 1
  apply Array.ext'
  simpa using e
end Go.Proofs.YtgjokididdffhaaGreat
