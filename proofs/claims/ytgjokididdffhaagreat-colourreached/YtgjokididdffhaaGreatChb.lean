/- Cz4 -/
import Derived.Test.YtgjokididdffhaaGreatCz3
import Derived.Test.YtgjokididdffhaaGreatCy9
import Derived.Test.YtgjokididdffhaaGreatCxd
import Derived.Test.YtgjokididdffhaaGreatCy1
import Derived.Test.YtgjokididdffhaaGreatSp4
import Derived.Test.YtgjokididdffhaaGreatCi1
import Derived.Test.YtgjokididdffhaaGreatCgd
namespace Go.Proofs.YtgjokididdffhaaGreat
open Go.RowKit Go.Deep
set_option linter.unusedVariables false
theorem fwP_of_ds {bar : (Nat → Int) → Nat → Nat → Prop} {Gd : (Nat → Nat) → Prop} {m d : Nat} (hG : ∀ f, (∀ j, j < m → f j ≤ usE f j) → (Gd f ↔ ∀ j, j < m → ¬ bar (cuE f j) j (f j))) (hd : DsP Gd m d) : FwP bar m (fun _ => 0) 0 m d := by
  have hs : ∀ f, VdE bar m f 0 → ∀ k, usE f m ≤ k → SmP Gd m (fun _ => 0) 0 k := fun f hf k hk => by
    have h1 : ∀ j, j < m → f j ≤ usE f j := fun j hj => (hf j (Nat.zero_le _) hj).1
    exact ⟨f, fun i hi => by omega, fun j _ hj => ⟨by have := usE_at f hj; omega, h1 j hj⟩, (hG f h1).2 (fun j hj => (hf j (Nat.zero_le _) hj).2)⟩
  have hle : d ≤ m := by rcases hd with h | h <;> omega
  have hno : ∀ k, k < d → ¬ SmP Gd m (fun _ => 0) 0 k := fun k hk => by
    rcases hd with ⟨_, _, h⟩ | ⟨h1, h2⟩
    · exact h k hk
    · exact h2 k (by omega)
  refine ⟨hle, ?_, fun f _ hf _ => ?_⟩
  · rcases hd with ⟨h1, ⟨f, _, f2, f3⟩, h3⟩ | ⟨h1, _⟩
    · have g1 : ∀ j, j < m → f j ≤ usE f j := fun j hj => (f2 j (Nat.zero_le _) hj).2
      have hV : VdE bar m f 0 := fun j _ hj => ⟨g1 j hj, (hG f g1).1 f3 j hj⟩
      have hu : usE f m ≤ d := usE_le f (fun j hj => (f2 j (Nat.zero_le _) hj).1)
      refine .inr ⟨f, fun i hi => by omega, hV, ?_⟩
      rcases Nat.lt_or_ge (usE f m) d with c | c
      · exact absurd (hs f hV _ (Nat.le_refl _)) (hno _ c)
      · omega
    · exact .inl h1
  · rcases Nat.lt_or_ge (usE f m) d with c | c
    · exact absurd (hs f hf _ (Nat.le_refl _)) (hno _ c)
    · exact c
structure RcY (k rows width : Int) (n1 n2 : Nat) (st cols : List Int) (m r : Nat) (V : (Nat → Nat) → Nat → Prop) : Prop where
  m8 : m ≤ 8
  rle : r ≤ m
  lst : ∀ (a1 a2 : Option Addr) (c1 c2 : Nat) (w : World), SlI w a1 n1 c1 st → SlI w a2 n2 c2 cols → Calls Tryz.prog 10 #[.int .i64 k, patV rows width a1 n1 c1 a2 n2 c2] w fun e w' => Below w.heap.size w w' ∧ e = .returned (.tuple #[.int .i64 (r : Int), .int .i64 0])
  vp : ∀ f z, V f z → PrmE m f
  vc : ∀ f o z z', AgE f o m → V f z' → V o z → z' = z
  vm : ∀ f z, V f z → z ≤ m
  lo : ∀ f z, V f z → r ≤ z
  ex : ∃ f z, V f z
  gr : ∀ (a1 a2 : Option Addr) (c1 c2 go : Nat) (o : Nat → Nat) (W : World), PrmE m o → SlI W a1 n1 c1 st → SlI W a2 n2 c2 cols → RoV W go m (fun i => .int .i64 (o i : Int)) → Calls Tryz.prog 18 #[.int .i64 k, patV rows width a1 n1 c1 a2 n2 c2, .slice (some ⟨go, 0, none⟩) m m] W fun e w' => Below W.heap.size W w' ∧ ∃ (a : Option Addr) (n c z : Nat), e = .returned (.tuple #[.slice a n c, .int .i64 (z : Int), .int .i64 0]) ∧ V o z
def VzP (P : List Int → Nat → (Nat → Int) → Prop) (m : Nat) (f : Nat → Nat) (z : Nat) : Prop := PrmE m f ∧ ∃ cs, P (csL (fun i => (f i : Int)) m) m cs ∧ NmI cs m z
section
variable {k : Int} {R width n1 n2 m : Nat} {st cols S C : List Int}
theorem rcY_of {bar : (Nat → Int) → Nat → Nat → Prop} {Gd : (Nat → Nat) → Prop} {RT : (Nat → Int) → Nat → Prop} {P : List Int → Nat → (Nat → Int) → Prop} (h8 : m ≤ 8)
    (hG : ∀ f, (∀ j, j < m → f j ≤ usE f j) → (Gd f ↔ ∀ j, j < m → ¬ bar (cuE f j) j (f j))) (hre : ∀ f g, (∀ i j, i < m → j < m → (g i = g j ↔ f i = f j)) → Gd f → Gd g)
    (hPX : ∀ xs, OrdTo xs m m → PnX RT xs m (P xs)) (hone : ∀ xs cs ds, P xs m cs → P xs m ds → cs = ds)
    (hP : ∀ xs cs, OrdTo xs m m → P xs m cs → (∀ i, i < m → 0 ≤ cs i) ∧ Gd (fun i => (cs i).toNat))
    (hL : ∀ (a1 a2 : Option Addr) (c1 c2 : Nat) (w : World), SlI w a1 n1 c1 st → SlI w a2 n2 c2 cols → Calls Tryz.prog 10 #[.int .i64 k, patV (R : Int) (width : Int) a1 n1 c1 a2 n2 c2] w fun e w' => LeA bar m w w' e)
    (hgr : ∀ (a1 a2 a : Option Addr) (c1 c2 c : Nat) (xs : List Int) W, SlI W a1 n1 c1 st → SlI W a2 n2 c2 cols → SlI W a m c xs → Calls Tryz.prog 18 #[.int .i64 k, patV (R : Int) (width : Int) a1 n1 c1 a2 n2 c2, .slice a m c] W fun e w' => GrB xs m (P xs m) W w' e) :
    ∃ r, RcY k (R : Int) (width : Int) n1 n2 st cols m r (VzP P m) ∧ FwP bar m (fun _ => 0) 0 m r := by
  obtain ⟨d, hd⟩ := dsP_ex Gd m
  have hF := fwP_of_ds hG hd
  have huni : ∀ xs cs z z', P xs m cs → NmI cs m z → NmI cs m z' → z = z' := fun xs cs z z' _ h1 h2 => by have := NumC.one h1.num h2.num; omega
  refine ⟨d, ⟨h8, hF.le, fun a1 a2 c1 c2 w g1 g2 => (hL a1 a2 c1 c2 w g1 g2).mono (fun e w' h => ⟨h.1, ?_⟩), fun f z h => h.1, ?_, ?_, ?_, ?_, ?_⟩, hF⟩
  · rcases h.2 with h2 | ⟨_, r, h2, h3⟩
    · omega
    · rw [h3, least_same hG h2 hd]
  · rintro f o z z' ha ⟨_, cs, h1, h2⟩ ⟨_, ds, h3, h4⟩
    rw [csL_ag ha] at h1
    have := hone _ _ _ h1 h3
    subst this
    exact huni _ _ _ _ h1 h2 h4
  · rintro f z ⟨hp, cs, h1, h2⟩
    rcases h2.at_ with e | ⟨i, hi, e⟩
    · omega
    · have := ((hPX _ hp.ord.2).rng m cs (Nat.le_refl _) h1 i).2
      omega
  · rintro f z ⟨hp, cs, h1, h2⟩
    obtain ⟨q1, q2⟩ := hP _ cs hp.ord.2 h1
    exact reach_lo hG hre q1 q2 h2.le hF
  · have hp : PrmE m (fun i => i) := ⟨fun i hi => hi, fun i j _ _ e => e⟩
    obtain ⟨cs, z, h1, h2⟩ := (hPX _ hp.ord.2).ex hp.ord.2 m (Nat.le_refl _)
    exact ⟨_, z, hp, cs, h1, h2⟩
  · intro a1 a2 c1 c2 go o W hp g1 g2 g3
    refine (hgr a1 a2 (some ⟨go, 0, none⟩) c1 c2 m (csL (fun i => (o i : Int)) m) W g1 g2 (g3.sli (cs := fun i => (o i : Int)) (by omega))).mono (fun e w' h => ⟨h.1, ?_⟩)
    obtain ⟨g, cs, z, e1, e2, e3, _, _⟩ := h.2.1 hp.ord
    obtain ⟨ds, z', f1, f2⟩ := (hPX _ hp.ord.2).ex hp.ord.2 m (Nat.le_refl _)
    have := hone _ _ _ e2 f1
    subst this
    have hz := NumC.one e3 f2.num
    obtain rfl : z = z' := by omega
    exact ⟨_, _, _, z, e1, hp, cs, e2, f2⟩
variable {Q : Nat → Bool} {G G1 G3 : Nat} {wd : Bool}
theorem toNat_nb {cs : Nat → Int} (h0 : ∀ i, i < m → 0 ≤ cs i) (h : ∀ u v, adG S C m u v → cs u ≠ cs v) : GdN S C m (fun i => (cs i).toNat) := fun u v ha e => by
  have := h u v ha
  have := h0 u ha.1
  have := h0 v ha.2.1
  have e : (cs u).toNat = (cs v).toNat := e
  omega
theorem all_nn {xs : List Int} {cs : Nat → Int} (ho : OrdTo xs m m) (h : ∀ j, j < m → 0 ≤ cs (xs.getD j 0).toNat) : ∀ i, i < m → 0 ≤ cs i := fun i hi => by
  obtain ⟨j, h1, h2⟩ := ord_at ho hi
  have := h j h1
  rwa [h2] at this
theorem rcY_nb (h8 : m ≤ 8) (h : KdY k R width n1 n2 st cols m S C Q G G1 93 G3 wd) : ∃ r, RcY k (R : Int) (width : Int) n1 n2 st cols m r (VzP (fun xs => PntN S C xs) m) ∧ FwP (BarN S C) m (fun _ => 0) 0 m r :=
  rcY_of (RT := RtN Q m) h8 (fun f _ => gd_nb h.may h.gra f) (fun f g => gdN_re) (fun xs ho => pnx_nb h.may h.gra h.hQ ho) (fun xs cs ds => PntN.one) (fun xs cs ho hp => by
    have hs := ((PntN.g.1 hp).steps (ord_dist ho)).2
    have h0 := all_nn ho (fun j hj => (hs j hj).1)
    exact ⟨h0, toNat_nb h0 (pnt_nb h.may h.gra ho (fun j hj => ⟨(hs j hj).1, (hs j hj).2.may⟩))⟩)
    (fun a1 a2 c1 c2 w g1 g2 => cLeast_yes (BarN S C) (fun _ _ => True) (fun _ _ _ _ _ => trivial) (fun _ _ _ _ _ _ _ => trivial) (fun _ _ _ => trivial) k G G1 _ G3 wd R width m S C a1 a2 n1 c1 n2 c2 st cols w g1 g2 h.m8 (fun X x d y z g h' => frAll_nb h.may h.sl h.cl) (fun W' => h.task a1 a2 c1 c2 W'))
    (fun a1 a2 a c1 c2 c xs W g1 g2 g3 => cGreedy_nb k G G1 G3 wd R width m S C a m c xs a1 a2 n1 c1 n2 c2 st cols W g1 g2 g3 (by omega) h.sl h.cl h.may (fun W' => h.task a1 a2 c1 c2 W'))
theorem rcY_st (h8 : m ≤ 8) (h : KdY k R width n1 n2 st cols m S C Q G G1 102 G3 wd) : ∃ r, RcY k (R : Int) (width : Int) n1 n2 st cols m r (VzP (fun xs => PntI S C xs) m) ∧ FwP (BarP S C) m (fun _ => 0) 0 m r :=
  rcY_of (RT := RtS Q m) h8 (fun f _ => gd_st h.may h.gra f) (fun f g => gdS_re) (fun xs ho => pnx_st h.may h.gra h.hQ ho) (fun xs cs ds => PntI.one) (fun xs cs ho hp => by
    have hs := ((PntI.g.1 hp).steps (ord_dist ho)).2
    have h0 := all_nn ho (fun j hj => (hs j hj).1)
    have hN : ∀ u v, adG S C m u v → cs u ≠ cs v := pnt_nb h.may h.gra ho (fun j hj => ⟨(hs j hj).1, fun hb => (hs j hj).2.may (.inl hb)⟩)
    have hS := pnt_st h.may h.gra ho (fun j hj => ⟨(hs j hj).1, (hs j hj).2.may⟩)
    refine ⟨h0, toNat_nb h0 hN, fun a b c d hp => ?_⟩
    obtain ⟨h1, h2, h3, h4, h5, h6, h7, h8'⟩ := hp
    have k1 := h0 a h1.1
    have k2 := h0 b h2.1
    have k3 := h0 c h5.1
    have k4 := h0 d h5.2.1
    simp only at h4 h8'
    exact hS a b c d ⟨h1, h2, h3, by omega, h5, h6, h7, by omega⟩)
    (fun a1 a2 c1 c2 w g1 g2 => cLeast_yes (BarP S C) (fun _ _ => True) (fun _ _ _ _ _ => trivial) (fun _ _ _ _ _ _ _ => trivial) (fun _ _ _ => trivial) k G G1 _ G3 wd R width m S C a1 a2 n1 c1 n2 c2 st cols w g1 g2 h.m8 (fun X x d y z g h' => frAll_st h.may h.sl h.cl) (fun W' => h.task a1 a2 c1 c2 W'))
    (fun a1 a2 a c1 c2 c xs W g1 g2 g3 => cGreedy_st k G G1 G3 wd R width m S C a m c xs a1 a2 n1 c1 n2 c2 st cols W g1 g2 g3 (by omega) h.sl h.cl h.may (fun W' => h.task a1 a2 c1 c2 W'))
theorem rcY_ac (h8 : m ≤ 8) (h : KdY k R width n1 n2 st cols m S C Q G G1 104 G3 wd) : ∃ r, RcY k (R : Int) (width : Int) n1 n2 st cols m r (VzP (fun xs => PntA S C m xs) m) ∧ FwP (BarA S C m) m (fun _ => 0) 0 m r :=
  rcY_of (RT := RtA Q m) h8 (fun f _ => gd_ac h.may h.gra f) (fun f g => gdA_re h.gra) (fun xs ho => pnx_ac h.may h.gra h.hQ ho) (fun xs cs ds => PntA.one) (fun xs cs ho hp => by
    have hs := ((PntA.g.1 hp).steps (ord_dist ho)).2
    have h0 := all_nn ho (fun j hj => (hs j hj).1)
    have hN : ∀ u v, adG S C m u v → cs u ≠ cs v := pnt_nb h.may h.gra ho (fun j hj => ⟨(hs j hj).1, fun hb => (hs j hj).2.may (.inl hb)⟩)
    have hA := PntA.acy h.may h.gra ho (Nat.le_refl _) hp
    refine ⟨h0, toNat_nb h0 hN, fun u v ha hl => (hA (cs u) (cs v) (h0 u ha.1) (h0 v ha.2.1)).set (fun x hx => ⟨hx.1, ?_⟩)⟩
    have k1 := h0 u ha.1
    have k2 := h0 v ha.2.1
    have k3 := h0 x hx.1
    have k4 := hx.2
    simp only at k4
    omega)
    (fun a1 a2 c1 c2 w g1 g2 => cLeast_yes (BarA S C m) (fun X W => ∃ pf, RoF W X 16 pf) (fun X W W' ⟨pf, hr⟩ b => ⟨pf, hr.below b⟩) (fun X g W W' hne ⟨pf, hr⟩ b => ⟨pf, hr.chg b (fun e => hne e.symm)⟩) (fun X W hr => ⟨_, hr⟩) k G G1 _ G3 wd R width m S C a1 a2 n1 c1 n2 c2 st cols w g1 g2 h.m8 (fun X x d y z g h' => frAll_ac h.may h.gra h.sl h.cl) (fun W' => h.task a1 a2 c1 c2 W'))
    (fun a1 a2 a c1 c2 c xs W g1 g2 g3 => cGreedy_ac k G G1 G3 wd R width m S C a m c xs a1 a2 n1 c1 n2 c2 st cols W g1 g2 g3 (by omega) h.sl h.cl h.may h.gra (fun W' => h.task a1 a2 c1 c2 W'))
theorem least_far {bar : (Nat → Int) → Nat → Nat → Prop} {w w' : World} {e : Ending} (h8 : ¬ m ≤ 8) (h : LeA bar m w w' e) : Below w.heap.size w w' ∧ e = .returned (.tuple #[.int .i64 0, .int .i64 1]) := ⟨h.1, by
  rcases h.2 with ⟨_, h2⟩ | ⟨h2, _⟩
  · exact h2
  · exact absurd h2 h8⟩
theorem rcY_hi (h : KdY k R width n1 n2 st cols m S C Q G G1 93 G3 wd) {r : Nat} (hF : FwP (BarN S C) m (fun _ => 0) 0 m r) : ∃ f z, VzP (fun xs => PntN S C xs) m f z ∧ z ≤ r := by
  have hx : ∃ f, GdN S C m f ∧ ∀ i, i < m → f i < r := by
    rcases hF.at_ with e | ⟨f, _, h2, h3⟩
    · exact ⟨fun i => i, fun u v ha e2 => by have e2 : u = v := e2; subst e2; exact adG.ir h.gra _ ha, fun i hi => (by show i < r; omega)⟩
    · exact ⟨f, (gd_nb h.may h.gra f).2 (fun v hv => (h2 v (Nat.zero_le _) hv).2), fun i hi => by have := usE_at f hi; omega⟩
  obtain ⟨f, f1, f2⟩ := hx
  obtain ⟨o, o1, o2⟩ := reach_hi h.may h.gra f1 f2
  obtain ⟨cs, z, h1, h2⟩ := (pnx_nb h.may h.gra h.hQ o1.ord.2).ex o1.ord.2 m (Nat.le_refl _)
  refine ⟨o, z, ⟨o1, cs, h1, h2⟩, ?_⟩
  rcases h2.at_ with e | ⟨i, hi, e⟩
  · omega
  · have := o2 cs h1 i hi
    omega
end

set_option maxRecDepth 100000 in
set_option maxHeartbeats 16000000 in
theorem ctask_star (R : Nat) (a1 a2 : Option Addr) (n1 c1 n2 c2 : Nat) (st cols : List Int) (w : World) (h1 : SlI w a1 n1 c1 st) (h2 : SlI w a2 n2 c2 cols) (hb1 : n1 ≤ 17592186044000) (hb2 : n2 ≤ 17592186044000) (hm : MayP (R : Int) (R : Int) st cols) (hg : GraP st cols R R) :
    Calls Tryz.prog 34 #[.int .i64 4, patV (R : Int) (R : Int) a1 n1 c1 a2 n2 c2] w fun e w' => e = .returned (.tuple #[.agg #[(.func (.func 49) #[] #[]), (.func (.func 101) #[] #[]), (.func (.func 102) #[] #[]), (.func (.func 94) #[] #[]), (.bool true), .int .i64 (R : Int), .int .i64 (R : Int), .slice a1 n1 c1, .slice a2 n2 c2, .int .i64 (R : Int), .int .i64 (R : Int), .slice a1 n1 c1, .slice a2 n2 c2], .int .i64 0]) ∧ Below w.heap.size w w' := by
  obtain ⟨wb, hwb⟩ : ∃ x, w.alloc (.cells #[.int .i64 (R : Int), .int .i64 (R : Int), .slice a1 n1 c1, .slice a2 n2 c2] 25) = x := ⟨_, rfl⟩
  have bb : Below w.heap.size w wb := by rw [← hwb]; exact (Below.refl _ _).alloc (Nat.le_refl _) _
  have hT := BoxP.made w #[.int .i64 (R : Int), .int .i64 (R : Int), .slice a1 n1 c1, .slice a2 n2 c2] 25
  rw [hwb] at hT
  have hO0 := BoxP.made wb #[Value.nilFunc, Value.nilFunc, Value.nilFunc, Value.nilFunc, .bool false, .int .i64 0, .int .i64 0, .slice none 0 0, .slice none 0 0, .int .i64 0, .int .i64 0, .slice none 0 0, .slice none 0 0] 80
  obtain ⟨wo, hwo⟩ : ∃ x, wb.alloc (.cells #[Value.nilFunc, Value.nilFunc, Value.nilFunc, Value.nilFunc, .bool false, .int .i64 0, .int .i64 0, .slice none 0 0, .slice none 0 0, .int .i64 0, .int .i64 0, .slice none 0 0, .slice none 0 0] 80) = x := ⟨_, rfl⟩
  have bo : Below wb.heap.size wb wo := by rw [← hwo]; exact (Below.refl _ _).alloc (Nat.le_refl _) _
  rw [hwo] at hO0
  have hT1 := hT.below bo
  have p0 := (hT1.all 0 _ rfl).1
  have p1 := (hT1.all 1 _ rfl).1
  have p2 := (hT1.all 2 _ rfl).1
  have p3 := (hT1.all 3 _ rfl).1
  have bw := bb.trans (bo.mono bb.size)
  have KM := hide (smay_any (R : Int) (R : Int) a1 a2 n1 c1 n2 c2 st cols wo (h1.below bw) (h2.below bw) (by omega) (by omega))
  unfold patV at KM
  have HT := hide hT1
  have HO := hide hO0
  have HB := hide bw
  have HWB := hide bb.size
  have HS := hide (And.intro h1 h2)
  have HM := hide hm
  have HG := hide hg
  have HTQ := hide (show TruQ true (MayP (R : Int) (R : Int) st cols) from ⟨fun _ => hm, fun _ => rfl⟩)
  clear hT hT1 hO0 bb bo bw h1 h2 hm hg
  unfold patV
  go_enter Tryz.func34, Tryz.ntmps34
  go_wp2_with fail
  refine (unhide KM).mono ?_
  intro e w2 hq
  obtain ⟨rfl, b2⟩ := hq.known (unhide HTQ)
  have hT2 := (unhide HT).below b2
  have HT2 := hide hT2
  have HO2 := hide ((unhide HO).below b2)
  have HB2 := hide ((unhide HB).trans (b2.mono (unhide HB).size))
  clear hq KM b2 hT2 p0 p1 p2 p3
  go_wp2_with fail
  refine (crules_star w2).mono ?_
  rintro _ w3 ⟨rfl, b3⟩
  try dsimp only
  repeat ((fail_if_success (with_reducible (show Code.wp _ _ _ _ (World.alloc w3 (Obj.cells #[_, _, _, _, .bool true] _))))); (first | go_values | go_skip | go_guarded | go_step | go_upon | go_back))
  have hR := BoxP.made w3 #[(.func (.func 49) #[] #[]), (.func (.func 101) #[] #[]), (.func (.func 102) #[] #[]), (.func (.func 94) #[] #[]), (.bool true)] 78
  have br : Below w3.heap.size w3 (w3.alloc (.cells #[(.func (.func 49) #[] #[]), (.func (.func 101) #[] #[]), (.func (.func 102) #[] #[]), (.func (.func 94) #[] #[]), (.bool true)] 78)) := (Below.refl _ _).alloc (Nat.le_refl _) _
  have hT3 := ((unhide HT2).below b3).below br
  have HO3 := hide (((unhide HO2).below b3).below br)
  have HB3 := hide (((unhide HB2).trans (b3.mono (unhide HB2).size)).trans (br.mono (Nat.le_trans (unhide HB2).size b3.size)))
  clear b3 br
  generalize w3.alloc (.cells #[(.func (.func 49) #[] #[]), (.func (.func 101) #[] #[]), (.func (.func 102) #[] #[]), (.func (.func 94) #[] #[]), (.bool true)] 78) = wr at *
  have s0 := (hR.all 0 _ rfl).1
  have q0 := (hT3.all 0 _ rfl).1
  have q1 := (hT3.all 1 _ rfl).1
  have q2 := (hT3.all 2 _ rfl).1
  have q3 := (hT3.all 3 _ rfl).1
  have HR := hide hR
  have HT3 := hide hT3
  clear hR hT3
  go_wp2_with fail
  have KI := hide (citself_yes R R a1 a2 n1 c1 n2 c2 st cols wr ((unhide HS).1.below (unhide HB3)) ((unhide HS).2.below (unhide HB3)) hb1 hb2 (unhide HM) (unhide HG))
  unfold patV at KI
  refine (unhide KI).mono ?_
  rintro _ w4 ⟨rfl, b4⟩
  have hR4 := (unhide HR).below b4
  have hT4 := (unhide HT3).below b4
  have hO4 := (unhide HO3).below b4
  have bw4 := (unhide HB3).trans (b4.mono (unhide HB3).size)
  clear KI b4 s0 q0 q1 q2 q3
  try dsimp only
  repeat ((fail_if_success (with_reducible (show Code.wp _ _ _ _ (World.alloc w4 (Obj.cells #[_, _, _, .slice a2 n2 c2] _))))); (first | go_values | go_skip | go_guarded | go_step | go_upon | go_back))
  have hG := BoxP.made w4 #[.int .i64 (R : Int), .int .i64 (R : Int), .slice a1 n1 c1, .slice a2 n2 c2] 25
  have bg : Below w4.heap.size w4 (w4.alloc (.cells #[.int .i64 (R : Int), .int .i64 (R : Int), .slice a1 n1 c1, .slice a2 n2 c2] 25)) := (Below.refl _ _).alloc (Nat.le_refl _) _
  have hR5 := hR4.below bg
  have hT5 := hT4.below bg
  have hO5 := hO4.below bg
  have bw5 := bw4.trans (bg.mono bw4.size)
  clear bg bw4 hR4 hT4 hO4
  generalize w4.alloc (.cells #[.int .i64 (R : Int), .int .i64 (R : Int), .slice a1 n1 c1, .slice a2 n2 c2] 25) = wg at *
  have s0 := (hR5.all 0 _ rfl).1
  have s1 := (hR5.all 1 _ rfl).1
  have s2 := (hR5.all 2 _ rfl).1
  have s3 := (hR5.all 3 _ rfl).1
  have s4 := (hR5.all 4 _ rfl).1
  have q0 := (hT5.all 0 _ rfl).1
  have q1 := (hT5.all 1 _ rfl).1
  have q2 := (hT5.all 2 _ rfl).1
  have q3 := (hT5.all 3 _ rfl).1
  have g0 := (hG.all 0 _ rfl).1
  have g1 := (hG.all 1 _ rfl).1
  have g2 := (hG.all 2 _ rfl).1
  have g3 := (hG.all 3 _ rfl).1
  have o0 := (hO5.all 0 _ rfl).1
  have r0 := (hO5.all 0 _ rfl).2
  have o1 := (hO5.all 1 _ rfl).1
  have r1 := (hO5.all 1 _ rfl).2
  have o2 := (hO5.all 2 _ rfl).1
  have r2 := (hO5.all 2 _ rfl).2
  have o3 := (hO5.all 3 _ rfl).1
  have r3 := (hO5.all 3 _ rfl).2
  have o4 := (hO5.all 4 _ rfl).1
  have r4 := (hO5.all 4 _ rfl).2
  have o5 := (hO5.all 5 _ rfl).1
  have r5 := (hO5.all 5 _ rfl).2
  have o6 := (hO5.all 6 _ rfl).1
  have r6 := (hO5.all 6 _ rfl).2
  have o7 := (hO5.all 7 _ rfl).1
  have r7 := (hO5.all 7 _ rfl).2
  have o8 := (hO5.all 8 _ rfl).1
  have r8 := (hO5.all 8 _ rfl).2
  have o9 := (hO5.all 9 _ rfl).1
  have r9 := (hO5.all 9 _ rfl).2
  have o10 := (hO5.all 10 _ rfl).1
  have r10 := (hO5.all 10 _ rfl).2
  have o11 := (hO5.all 11 _ rfl).1
  have r11 := (hO5.all 11 _ rfl).2
  have o12 := (hO5.all 12 _ rfl).1
  have r12 := (hO5.all 12 _ rfl).2
  have HO5 := hide hO5
  have HB5 := hide bw5
  clear hO5 bw5 hG hR5 hT5
  go_wp2_with fail
  have hf := ((((((((((((((unhide HO5).put 0 (.func (.func 49) #[] #[])).put 1 (.func (.func 101) #[] #[])).put 2 (.func (.func 102) #[] #[])).put 3 (.func (.func 94) #[] #[])).put 4 (.bool true)).put 5 (.int .i64 (R : Int))).put 6 (.int .i64 (R : Int))).put 7 (.slice a1 n1 c1)).put 8 (.slice a2 n2 c2)).put 9 (.int .i64 (R : Int))).put 10 (.int .i64 (R : Int))).put 11 (.slice a1 n1 c1)).put 12 (.slice a2 n2 c2))
  have t0 := (hf.all 0 _ rfl).1
  have t1 := (hf.all 1 _ rfl).1
  have t2 := (hf.all 2 _ rfl).1
  have t3 := (hf.all 3 _ rfl).1
  have t4 := (hf.all 4 _ rfl).1
  have t5 := (hf.all 5 _ rfl).1
  have t6 := (hf.all 6 _ rfl).1
  have t7 := (hf.all 7 _ rfl).1
  have t8 := (hf.all 8 _ rfl).1
  have t9 := (hf.all 9 _ rfl).1
  have t10 := (hf.all 10 _ rfl).1
  have t11 := (hf.all 11 _ rfl).1
  have t12 := (hf.all 12 _ rfl).1
  have cc : Chg (fun j => j = wb.heap.size) wg (((((((((((((wg.setCell ⟨wb.heap.size, 0, none⟩ (.func (.func 49) #[] #[])).setCell ⟨wb.heap.size, 1, none⟩ (.func (.func 101) #[] #[])).setCell ⟨wb.heap.size, 2, none⟩ (.func (.func 102) #[] #[])).setCell ⟨wb.heap.size, 3, none⟩ (.func (.func 94) #[] #[])).setCell ⟨wb.heap.size, 4, none⟩ (.bool true)).setCell ⟨wb.heap.size, 5, none⟩ (.int .i64 (R : Int))).setCell ⟨wb.heap.size, 6, none⟩ (.int .i64 (R : Int))).setCell ⟨wb.heap.size, 7, none⟩ (.slice a1 n1 c1)).setCell ⟨wb.heap.size, 8, none⟩ (.slice a2 n2 c2)).setCell ⟨wb.heap.size, 9, none⟩ (.int .i64 (R : Int))).setCell ⟨wb.heap.size, 10, none⟩ (.int .i64 (R : Int))).setCell ⟨wb.heap.size, 11, none⟩ (.slice a1 n1 c1)).setCell ⟨wb.heap.size, 12, none⟩ (.slice a2 n2 c2)) := (((((((((((((Chg.of_set (S := fun j => j = wb.heap.size) _ _ _ _ rfl).trans (Chg.of_set (S := fun j => j = wb.heap.size) _ _ _ _ rfl)).trans (Chg.of_set (S := fun j => j = wb.heap.size) _ _ _ _ rfl)).trans (Chg.of_set (S := fun j => j = wb.heap.size) _ _ _ _ rfl)).trans (Chg.of_set (S := fun j => j = wb.heap.size) _ _ _ _ rfl)).trans (Chg.of_set (S := fun j => j = wb.heap.size) _ _ _ _ rfl)).trans (Chg.of_set (S := fun j => j = wb.heap.size) _ _ _ _ rfl)).trans (Chg.of_set (S := fun j => j = wb.heap.size) _ _ _ _ rfl)).trans (Chg.of_set (S := fun j => j = wb.heap.size) _ _ _ _ rfl)).trans (Chg.of_set (S := fun j => j = wb.heap.size) _ _ _ _ rfl)).trans (Chg.of_set (S := fun j => j = wb.heap.size) _ _ _ _ rfl)).trans (Chg.of_set (S := fun j => j = wb.heap.size) _ _ _ _ rfl)).trans (Chg.of_set (S := fun j => j = wb.heap.size) _ _ _ _ rfl))
  generalize (((((((((((((wg.setCell ⟨wb.heap.size, 0, none⟩ (.func (.func 49) #[] #[])).setCell ⟨wb.heap.size, 1, none⟩ (.func (.func 101) #[] #[])).setCell ⟨wb.heap.size, 2, none⟩ (.func (.func 102) #[] #[])).setCell ⟨wb.heap.size, 3, none⟩ (.func (.func 94) #[] #[])).setCell ⟨wb.heap.size, 4, none⟩ (.bool true)).setCell ⟨wb.heap.size, 5, none⟩ (.int .i64 (R : Int))).setCell ⟨wb.heap.size, 6, none⟩ (.int .i64 (R : Int))).setCell ⟨wb.heap.size, 7, none⟩ (.slice a1 n1 c1)).setCell ⟨wb.heap.size, 8, none⟩ (.slice a2 n2 c2)).setCell ⟨wb.heap.size, 9, none⟩ (.int .i64 (R : Int))).setCell ⟨wb.heap.size, 10, none⟩ (.int .i64 (R : Int))).setCell ⟨wb.heap.size, 11, none⟩ (.slice a1 n1 c1)).setCell ⟨wb.heap.size, 12, none⟩ (.slice a2 n2 c2)) = wf at *
  refine bodyPost_ret (by simp [results, Tryz.results34, go_sem, t0, t1, t2, t3, t4, t5, t6, t7, t8, t9, t10, t11, t12]; try rfl) rfl ?_
  exact ⟨rfl, (unhide HB5).trans (cc.below (unhide HB5).size (fun j hj e => by have := unhide HWB; omega))⟩
end Go.Proofs.YtgjokididdffhaaGreat
