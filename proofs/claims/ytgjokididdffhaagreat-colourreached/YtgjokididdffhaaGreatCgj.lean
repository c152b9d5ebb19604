/- Cz1 -/
import Derived.Test.YtgjokididdffhaaGreatCy1
import Derived.Test.YtgjokididdffhaaGreatCi1
import Derived.Test.YtgjokididdffhaaGreatCxd
import Derived.Test.YtgjokididdffhaaGreatCge
import Derived.Test.YtgjokididdffhaaGreatCgh
import Derived.Test.YtgjokididdffhaaGreatSp4
import Derived.Test.YtgjokididdffhaaGreatCgd
namespace Go.Proofs.YtgjokididdffhaaGreat
open Go.RowKit Go.Deep
set_option linter.unusedVariables false
noncomputable def atK (xs : List Int) (cs : Nat → Int) (k : Nat) : Nat → Int := fun i => if tb (∃ j, j < k ∧ (xs.getD j 0).toNat = i) = true then cs i else -1
theorem atK_in {xs : List Int} {cs : Nat → Int} {k i : Nat} (h : ∃ j, j < k ∧ (xs.getD j 0).toNat = i) : atK xs cs k i = cs i := by unfold atK; rw [if_pos (tb_iff.2 h)]
theorem atK_out {xs : List Int} {cs : Nat → Int} {k i : Nat} (h : ¬ ∃ j, j < k ∧ (xs.getD j 0).toNat = i) : atK xs cs k i = -1 := by unfold atK; rw [if_neg (fun e => h (tb_iff.1 e))]
theorem PntG.steps {L : (Nat → Int) → Nat → Nat → Prop} {xs : List Int} : ∀ {k : Nat} {cs : Nat → Int}, (∀ i j, i < k → j < k → (xs.getD i 0).toNat = (xs.getD j 0).toNat → i = j) → PntG L xs k cs → atK xs cs k = cs ∧ ∀ j, j < k → 0 ≤ cs (xs.getD j 0).toNat ∧ L (atK xs cs j) (xs.getD j 0).toNat (cs (xs.getD j 0).toNat).toNat
  | 0, cs, hd, h => by
    unfold PntG at h
    subst h
    refine ⟨?_, fun j hj => by omega⟩
    funext i
    exact atK_out (fun ⟨j, hj, _⟩ => by omega)
  | k + 1, cs, hd, ⟨c0, y, h1, h2, h3⟩ => by
    obtain ⟨i1, i2⟩ := PntG.steps (fun i j hi hj e => hd i j (by omega) (by omega) e) h1
    have hfr : c0 (xs.getD k 0).toNat = -1 := by
      rw [← i1]
      exact atK_out (fun ⟨j, hj, e⟩ => by have := hd j k (by omega) (by omega) e; omega)
    have hold : ∀ i, i ≠ (xs.getD k 0).toNat → cs i = c0 i := fun i hi => by rw [h3, updC_other _ _ hi]
    have hnew : cs (xs.getD k 0).toNat = (y : Int) := by rw [h3, updC_same]
    have hpre : ∀ j, j ≤ k → atK xs cs j = atK xs c0 j := fun j hj => by
      funext i
      by_cases hi : ∃ j', j' < j ∧ (xs.getD j' 0).toNat = i
      · rw [atK_in hi, atK_in hi]
        obtain ⟨j', h5, h6⟩ := hi
        exact hold i (fun e => by have := hd j' k (by omega) (by omega) (by rw [h6, e]); omega)
      · rw [atK_out hi, atK_out hi]
    refine ⟨?_, fun j hj => ?_⟩
    · funext i
      by_cases hi : ∃ j, j < k + 1 ∧ (xs.getD j 0).toNat = i
      · exact atK_in hi
      · rw [atK_out hi, hold i (fun e => hi ⟨k, by omega, e.symm⟩), ← i1]
        exact (atK_out (fun ⟨j, hj, e⟩ => hi ⟨j, by omega, e⟩)).symm
    · by_cases e : j = k
      · subst e
        rw [hnew, hpre j (Nat.le_refl _), i1]
        exact ⟨by omega, by rw [Int.toNat_natCast]; exact h2⟩
      · have hne : (xs.getD j 0).toNat ≠ (xs.getD k 0).toNat := fun e2 => e (hd j k hj (by omega) e2)
        rw [hold _ hne, hpre j (by omega)]
        exact i2 j (by omega)
theorem ord_dist {xs : List Int} {m : Nat} (ho : OrdTo xs m m) : ∀ i j, i < m → j < m → (xs.getD i 0).toNat = (xs.getD j 0).toNat → i = j := fun i j hi hj e => by
  have h1 := ho.rng i hi
  have h2 := ho.rng j hj
  rcases Nat.lt_trichotomy i j with c | c | c
  · exact absurd (show xs.getD i 0 = xs.getD j 0 by omega) (ho.one i j c hj)
  · exact c
  · exact absurd (show xs.getD j 0 = xs.getD i 0 by omega) (ho.one j i c hi)
theorem ord_at {xs : List Int} {m : Nat} (ho : OrdTo xs m m) {v : Nat} (hv : v < m) : ∃ j, j < m ∧ (xs.getD j 0).toNat = v := by
  obtain ⟨j, h1, h2, _⟩ := ho.place hv
  exact ⟨j, h1, by rw [h2, Int.toNat_natCast]⟩
section
variable {S C xs : List Int} {m : Nat} {cs : Nat → Int}
theorem pnt_nb (hm : MayP (m : Int) (m : Int) S C) (hg : GraP S C m m) (ho : OrdTo xs m m) (h : ∀ j, j < m → 0 ≤ cs (xs.getD j 0).toNat ∧ ¬ BarN S C (atK xs cs j) (xs.getD j 0).toNat (cs (xs.getD j 0).toNat).toNat) : ∀ u v, adG S C m u v → cs u ≠ cs v := fun u v ha e => by
  have key : ∀ a b ja jb, adG S C m b a → cs a = cs b → ja < m → jb < m → (xs.getD ja 0).toNat = a → (xs.getD jb 0).toNat = b → ja < jb → False := fun a b ja jb ha e h1 h2 h3 h4 hl => by
    have hs := h jb h2
    rw [h4] at hs
    refine hs.2 ((barN_ad hm ha.1).2 ⟨a, ha, ?_⟩)
    rw [atK_in ⟨ja, hl, h3⟩]
    omega
  obtain ⟨ju, h1, h2⟩ := ord_at ho ha.1
  obtain ⟨jv, h3, h4⟩ := ord_at ho ha.2.1
  rcases Nat.lt_trichotomy ju jv with l | l | l
  · exact key u v ju jv (adG.sy hg _ _ ha) e h1 h3 h2 h4 l
  · subst l
    rw [h2] at h4
    subst h4
    exact adG.ir hg _ ha
  · exact key v u jv ju ha e.symm h3 h1 h4 h2 l
theorem pnt_st (hm : MayP (m : Int) (m : Int) S C) (hg : GraP S C m m) (ho : OrdTo xs m m) (h : ∀ j, j < m → 0 ≤ cs (xs.getD j 0).toNat ∧ ¬ BarP S C (atK xs cs j) (xs.getD j 0).toNat (cs (xs.getD j 0).toNat).toNat) (a b c d : Nat) : ¬ Pa4 (adG S C m) cs a b c d := fun hp => by
  obtain ⟨ab, bc, hca, eca, cd, had, hdb, edb⟩ := hp
  have sy := adG.sy hg
  have ir := adG.ir hg
  have nab : a ≠ b := fun e => ir a (by rw [e] at ab ⊢; exact ab)
  have nbc : b ≠ c := fun e => ir b (by rw [← e] at bc; exact bc)
  have ncd : c ≠ d := fun e => ir c (by rw [← e] at cd; exact cd)
  have key : ∀ v b c d jv jb jc jd, adG S C m v b → adG S C m b c → cs c = cs v → d ≠ b → (adG S C m v d ∨ adG S C m c d) → cs d = cs b → jv < m → (xs.getD jv 0).toNat = v → jb < jv → (xs.getD jb 0).toNat = b → jc < jv → (xs.getD jc 0).toNat = c → jd < jv → (xs.getD jd 0).toNat = d → False := fun v b c d jv jb jc jd h1 h2 h3 h4 h5 h6 v1 v2 b1 b2 c1 c2 d1 d2 => by
    have hs := h jv v1
    rw [v2] at hs
    have hb0 := (h jb (by omega)).1
    rw [b2] at hb0
    refine hs.2 ((barP_ad hm h1.1).2 (.inr ⟨b, c, d, h1, ?_, h2, ?_, h4, h5, ?_⟩))
    · rw [atK_in ⟨jb, b1, b2⟩]; omega
    · rw [atK_in ⟨jc, c1, c2⟩]; omega
    · rw [atK_in ⟨jd, d1, d2⟩, atK_in ⟨jb, b1, b2⟩, h6]
  obtain ⟨ja, a1, a2⟩ := ord_at ho ab.1
  obtain ⟨jb, b1, b2⟩ := ord_at ho bc.1
  obtain ⟨jc, c1, c2⟩ := ord_at ho cd.1
  obtain ⟨jd, d1, d2⟩ := ord_at ho cd.2.1
  have nd : a ≠ d := by omega
  have j1 : ja ≠ jb := fun e => nab (by rw [← a2, e, b2])
  have j2 : ja ≠ jc := fun e => hca (by rw [← a2, e, c2])
  have j3 : ja ≠ jd := fun e => nd (by rw [← a2, e, d2])
  have j4 : jb ≠ jc := fun e => nbc (by rw [← b2, e, c2])
  have j5 : jb ≠ jd := fun e => hdb (by rw [← b2, e, d2])
  have j6 : jc ≠ jd := fun e => ncd (by rw [← c2, e, d2])
  by_cases m1 : jb < ja ∧ jc < ja ∧ jd < ja
  · exact key a b c d ja jb jc jd ab bc eca hdb (.inr cd) edb a1 a2 m1.1 b2 m1.2.1 c2 m1.2.2 d2
  · by_cases m2 : ja < jb ∧ jc < jb ∧ jd < jb
    · exact key b c d a jb jc jd ja bc cd edb (Ne.symm hca) (.inl (sy _ _ ab)) eca.symm b1 b2 m2.2.1 c2 m2.2.2 d2 m2.1 a2
    · by_cases m3 : ja < jc ∧ jb < jc ∧ jd < jc
      · exact key c b a d jc jb ja jd (sy _ _ bc) (sy _ _ ab) eca.symm hdb (.inl cd) edb c1 c2 m3.2.1 b2 m3.1 a2 m3.2.2 d2
      · exact key d c b a jd jc jb ja (sy _ _ cd) (sy _ _ bc) edb.symm (Ne.symm hca) (.inr (sy _ _ ab)) eca.symm d1 d2 (by omega) c2 (by omega) b2 (by omega) a2
end
theorem relabel (f : Nat → Nat) : ∀ v : Nat, ∃ g : Nat → Nat, (∀ i, i < v → g i ≤ usE g i) ∧ (∀ i j, i < v → j < v → (g i = g j ↔ f i = f j)) ∧ ∀ y, y < usE g v → ∃ i, i < v ∧ g i = y
  | 0 => ⟨fun _ => 0, fun i hi => by omega, fun i j hi => by omega, fun y hy => by unfold usE at hy; omega⟩
  | v + 1 => by
    obtain ⟨g, h1, h2, h3⟩ := relabel f v
    have mk : ∀ y, y ≤ usE g v → (∀ i, i < v → (g i = y ↔ f i = f v)) → (∀ z, z < max (usE g v) (y + 1) → (∃ i, i < v ∧ g i = z) ∨ z = y) → ∃ g' : Nat → Nat, (∀ i, i < v + 1 → g' i ≤ usE g' i) ∧ (∀ i j, i < v + 1 → j < v + 1 → (g' i = g' j ↔ f i = f j)) ∧ ∀ z, z < usE g' (v + 1) → ∃ i, i < v + 1 ∧ g' i = z := fun y hy he hs => by
      have ag := upE_ag g v y
      refine ⟨upE g v y, fun i hi => ?_, fun i j hi hj => ?_, fun z hz => ?_⟩
      · by_cases e : i = v
        · subst e; rw [upE_same, ag.us]; exact hy
        · rw [upE_other _ _ e, (ag.mono (show i ≤ v by omega)).us]; exact h1 i (by omega)
      · by_cases e : i = v
        · subst e
          rw [upE_same]
          by_cases e2 : j = i
          · subst e2; rw [upE_same]; exact ⟨fun _ => rfl, fun _ => rfl⟩
          · rw [upE_other _ _ e2]
            have := he j (by omega)
            exact ⟨fun k => (this.1 k.symm).symm, fun k => (this.2 k.symm).symm⟩
        · rw [upE_other _ _ e]
          by_cases e2 : j = v
          · subst e2; rw [upE_same]; exact he i (by omega)
          · rw [upE_other _ _ e2]; exact h2 i j (by omega) (by omega)
      · rw [usE_succ, ag.us, upE_same] at hz
        rcases hs z hz with ⟨i, hi, e⟩ | e
        · exact ⟨i, by omega, by rw [upE_other _ _ (by omega), e]⟩
        · exact ⟨v, by omega, by rw [upE_same, e]⟩
    by_cases hex : ∃ i, i < v ∧ f i = f v
    · obtain ⟨i, hi, e⟩ := hex
      have hlt := usE_at g hi
      refine mk (g i) (by omega) (fun j hj => by rw [h2 j i hj hi, e]) (fun z hz => .inl (h3 z (by omega)))
    · refine mk (usE g v) (Nat.le_refl _) (fun j hj => ⟨fun e => ?_, fun e => absurd ⟨j, hj, e⟩ hex⟩) (fun z hz => ?_)
      · have := usE_at g hj; omega
      · by_cases e : z = usE g v
        · exact .inr e
        · exact .inl (h3 z (by omega))
theorem pig (n z : Nat) (h : Nat → Nat) (h1 : ∀ i, i < n → h i < z) (h2 : ∀ i j, i < n → j < n → h i = h j → i = j) : n ≤ z := by
  apply Classical.byContradiction
  intro hn
  obtain ⟨i, hi, e⟩ := inj_surj z h (fun i hi => h1 i (by omega)) (fun i j hi hj e => h2 i j (by omega) (by omega) e) (h z) (h1 z (by omega))
  have := h2 i z (by omega) (by omega) e
  omega
theorem relabel_le {f g : Nat → Nat} {m z : Nat} (hf : ∀ i, i < m → f i < z) (h2 : ∀ i j, i < m → j < m → (g i = g j ↔ f i = f j)) (h3 : ∀ y, y < usE g m → ∃ i, i < m ∧ g i = y) : usE g m ≤ z := by
  have hc : ∃ t : Nat → Nat, ∀ y, y < usE g m → t y < m ∧ g (t y) = y := by
    refine ⟨fun y => if h : y < usE g m then Classical.choose (h3 y h) else 0, fun y hy => ?_⟩
    show (if h : y < usE g m then Classical.choose (h3 y h) else 0) < m ∧ g (if h : y < usE g m then Classical.choose (h3 y h) else 0) = y
    rw [dif_pos hy]
    exact Classical.choose_spec (h3 y hy)
  obtain ⟨t, ht⟩ := hc
  refine pig _ z (fun y => f (t y)) (fun y hy => hf _ (ht y hy).1) (fun y y' hy hy' e => ?_)
  have := (h2 (t y) (t y') (ht y hy).1 (ht y' hy').1).2 e
  rw [(ht y hy).2, (ht y' hy').2] at this
  exact this
section
variable {S C : List Int} {m : Nat}
theorem gdN_re {f g : Nat → Nat} (h : ∀ i j, i < m → j < m → (g i = g j ↔ f i = f j)) (k : GdN S C m f) : GdN S C m g := fun u v ha e => k u v ha ((h u v ha.1 ha.2.1).1 e)
theorem gdS_re {f g : Nat → Nat} (h : ∀ i j, i < m → j < m → (g i = g j ↔ f i = f j)) (k : GdS S C m f) : GdS S C m g := ⟨gdN_re h k.1, fun a b c d ⟨h1, h2, h3, h4, h5, h6, h7, h8⟩ => k.2 a b c d ⟨h1, h2, h3, by
    have := (h c a h2.2.1 h1.1).1 (by simp only at h4; omega)
    simp only
    omega, h5, h6, h7, by
    have := (h d b h5.2.1 h1.2.1).1 (by simp only at h8; omega)
    simp only
    omega⟩⟩
theorem gdA_re (hg : GraP S C m m) {f g : Nat → Nat} (h : ∀ i j, i < m → j < m → (g i = g j ↔ f i = f j)) (k : GdA S C m f) : GdA S C m g := ⟨gdN_re h k.1, fun u v ha _ => by
  have tw : ∀ x, TwC (fun i => (g i : Int)) m (g u : Int) (g v : Int) x → TwC (fun i => (f i : Int)) m (f u : Int) (f v : Int) x := fun x hx => ⟨hx.1, by
    have k1 := h x u hx.1 ha.1
    have k2 := h x v hx.1 ha.2.1
    have k3 := hx.2
    simp only at k3 ⊢
    omega⟩
  by_cases hl : f u ≤ f v
  · exact (k.2 u v ha hl).set tw
  · exact (k.2 v u (adG.sy hg _ _ ha) (by omega)).set (fun x hx => (tw x hx).swap)⟩
end
theorem reach_lo {bar : (Nat → Int) → Nat → Nat → Prop} {Gd : (Nat → Nat) → Prop} {m : Nat} (hG : ∀ f, (∀ j, j < m → f j ≤ usE f j) → (Gd f ↔ ∀ j, j < m → ¬ bar (cuE f j) j (f j))) (hre : ∀ f g, (∀ i j, i < m → j < m → (g i = g j ↔ f i = f j)) → Gd f → Gd g) {cs : Nat → Int} {z r : Nat} (h0 : ∀ i, i < m → 0 ≤ cs i) (hg : Gd (fun i => (cs i).toNat)) (hz : ∀ i, i < m → cs i < (z : Int)) (h : FwP bar m (fun _ => 0) 0 m r) : r ≤ z := by
  obtain ⟨g, h1, h2, h3⟩ := relabel (fun i => (cs i).toNat) m
  have hgg := hre _ g h2 hg
  have hle : usE g m ≤ z := relabel_le (f := fun i => (cs i).toNat) (fun i hi => by have := h0 i hi; have := hz i hi; show (cs i).toNat < z; omega) h2 h3
  have := h.all g (fun i hi => by omega) (fun j _ hj => ⟨h1 j hj, (hG g h1).1 hgg j hj⟩) trivial
  omega
theorem sorted_ord (f : Nat → Nat) (m : Nat) : ∃ o : Nat → Nat, (∀ i, i < m → o i < m) ∧ (∀ i j, i < m → j < m → o i = o j → i = j) ∧ ∀ i j, i < j → j < m → f (o i) ≤ f (o j) := by
  have hp := List.mergeSort_perm (List.range m) (fun x y => decide (f x ≤ f y))
  have hs : ((List.range m).mergeSort fun x y => decide (f x ≤ f y)).Pairwise (fun x y => decide (f x ≤ f y) = true) := List.pairwise_mergeSort (fun a b c h1 h2 => by simp at h1 h2 ⊢; omega) (fun a b => by simp; omega) _
  obtain ⟨s, es⟩ : ∃ s, ((List.range m).mergeSort fun x y => decide (f x ≤ f y)) = s := ⟨_, rfl⟩
  rw [es] at hp hs
  have hl : s.length = m := by rw [hp.length_eq, List.length_range]
  have hnd : s.Nodup := hp.nodup_iff.2 List.nodup_range
  have hget : ∀ i, i < m → ∃ h : i < s.length, s.getD i 0 = s[i] := fun i hi => ⟨by omega, by simp [List.getD, show i < s.length by omega]⟩
  refine ⟨fun i => s.getD i 0, fun i hi => ?_, fun i j hi hj e => ?_, fun i j hij hj => ?_⟩
  · obtain ⟨h, e⟩ := hget i hi
    show s.getD i 0 < m
    rw [e]
    exact List.mem_range.1 (hp.subset (List.getElem_mem h))
  · obtain ⟨h1, e1⟩ := hget i hi
    obtain ⟨h2, e2⟩ := hget j hj
    have e' : s.getD i 0 = s.getD j 0 := e
    rw [e1, e2] at e'
    rw [List.nodup_iff_pairwise_ne, List.pairwise_iff_getElem] at hnd
    rcases Nat.lt_trichotomy i j with c | c | c
    · exact absurd e' (hnd i j h1 h2 c)
    · exact c
    · exact absurd e'.symm (hnd j i h2 h1 c)
  · obtain ⟨h1, e1⟩ := hget i (by omega)
    obtain ⟨h2, e2⟩ := hget j hj
    show f (s.getD i 0) ≤ f (s.getD j 0)
    rw [e1, e2]
    have := (List.pairwise_iff_getElem.1 hs) i j h1 h2 hij
    simpa using this
def PrmE (m : Nat) (o : Nat → Nat) : Prop := (∀ i, i < m → o i < m) ∧ ∀ i j, i < m → j < m → o i = o j → i = j
theorem PrmE.ord {m : Nat} {o : Nat → Nat} (h : PrmE m o) : IsOrd (csL (fun i => (o i : Int)) m) m := by
  refine ⟨csL_len _ _, fun j hj => ?_, fun i j hij hj e => ?_⟩
  · rw [csL_get hj]
    have := h.1 j hj
    omega
  · rw [csL_get hj, csL_get (show i < m by omega)] at e
    have := h.2 i j (by omega) hj (by omega)
    omega
theorem csL_toNat {m i : Nat} {o : Nat → Nat} (hi : i < m) : ((csL (fun i => (o i : Int)) m).getD i 0).toNat = o i := by rw [csL_get hi, Int.toNat_natCast]
theorem csL_ag {m : Nat} {o p : Nat → Nat} (h : AgE o p m) : csL (fun i => (o i : Int)) m = csL (fun i => (p i : Int)) m := by
  unfold csL
  refine List.map_congr_left (fun i hi => ?_)
  rw [h i (List.mem_range.1 hi)]
theorem reach_hi {S C : List Int} {m r : Nat} (hm : MayP (m : Int) (m : Int) S C) (hg : GraP S C m m) {f : Nat → Nat} (hf : GdN S C m f) (hr : ∀ i, i < m → f i < r) : ∃ o, PrmE m o ∧ ∀ cs, PntN S C (csL (fun i => (o i : Int)) m) m cs → ∀ i, i < m → cs i < (r : Int) := by
  obtain ⟨o, o1, o2, o3⟩ := sorted_ord f m
  have hp : PrmE m o := ⟨o1, o2⟩
  refine ⟨o, hp, fun cs hc i hi => ?_⟩
  obtain ⟨_, hst⟩ := (PntN.g.1 hc).steps (ord_dist hp.ord.2)
  have key : ∀ j, j < m → cs (o j) ≤ (f (o j) : Int) := fun j => by
    induction j using Nat.strongRecOn with
    | _ j ih =>
      intro hj
      have hs := hst j hj
      rw [csL_toNat hj] at hs
      apply Classical.byContradiction
      intro hn
      have hb := hs.2.bar (f (o j)) (by omega)
      obtain ⟨u, ha, e⟩ := (barN_ad hm (o1 j hj)).1 hb
      have hex : ∃ j', j' < j ∧ ((csL (fun i => (o i : Int)) m).getD j' 0).toNat = u := Classical.byContradiction (fun hne => by rw [atK_out hne] at e; omega)
      rw [atK_in hex] at e
      obtain ⟨j', h1, h2⟩ := hex
      rw [csL_toNat (show j' < m by omega)] at h2
      subst h2
      have h3 := ih j' h1 (by omega)
      have h4 := o3 j' j h1 hj
      exact hf (o j) (o j') ha (by omega)
  obtain ⟨j, hj, e⟩ := ord_at hp.ord.2 hi
  rw [csL_toNat hj] at e
  have := key j hj
  rw [e] at this
  have := hr i hi
  omega
structure OpE (V : (Nat → Nat) → Nat → Prop) (e : Nat → Nat) (v : Nat) (A : Nat → Prop) (best r : Nat) : Prop where
  le : r ≤ best
  at_ : r = best ∨ ∃ f, AgE f e v ∧ V f r
  all : ∀ f z, AgE f e v → V f z → A (f v) → r ≤ z
section
variable {V : (Nat → Nat) → Nat → Prop} {e : Nat → Nat} {v best r : Nat}
theorem OpE.start (e : Nat → Nat) (v best : Nat) : OpE V e v (fun y => y < 0) best best := ⟨Nat.le_refl _, .inl rfl, fun f z _ _ h => by omega⟩
theorem OpE.skip {y : Nat} (h : OpE V e v (fun x => x < y) best r) (k : ∀ f z, AgE f e v → V f z → f v ≠ y) : OpE V e v (fun x => x < y + 1) best r := ⟨h.le, h.at_, fun f z h1 h2 h3 => h.all f z h1 h2 (by have := k f z h1 h2; omega)⟩
theorem OpE.step {y r' : Nat} (h : OpE V e v (fun x => x < y) best r) (g : OpE V (upE e v y) (v + 1) (fun _ => True) r r') : OpE V e v (fun x => x < y + 1) best r' := by
  have up : ∀ f, AgE f (upE e v y) (v + 1) → AgE f e v ∧ f v = y := fun f hf => ⟨fun i hi => by rw [hf i (by omega), upE_other _ _ (by omega)], by rw [hf v (by omega), upE_same]⟩
  refine ⟨Nat.le_trans g.le h.le, ?_, fun f z h1 h2 h3 => ?_⟩
  · rcases g.at_ with e1 | ⟨f, h1, h2⟩
    · rw [e1]; exact h.at_
    · exact .inr ⟨f, (up f h1).1, h2⟩
  · by_cases e2 : f v = y
    · refine g.all f z (fun i hi => ?_) h2 trivial
      by_cases e3 : i = v
      · subst e3; rw [upE_same, e2]
      · rw [upE_other _ _ e3]; exact h1 i (by omega)
    · exact Nat.le_trans g.le (h.all f z h1 h2 (by omega))
theorem OpE.all_ {m : Nat} (h : OpE V e v (fun x => x < m) best r) (k : ∀ f z, V f z → f v < m) : OpE V e v (fun _ => True) best r := ⟨h.le, h.at_, fun f z h1 h2 _ => h.all f z h1 h2 (k f z h2)⟩
theorem OpE.done {m z : Nat} (hc : ∀ f z', AgE f e m → V f z' → z' = z) (hz : V e z) : OpE V e m (fun _ => True) best (min z best) := by
  by_cases hb : best ≤ z
  · rw [Nat.min_eq_right hb]
    exact ⟨Nat.le_refl _, .inl rfl, fun f z' h1 h2 _ => by rw [hc f z' h1 h2]; exact hb⟩
  · rw [Nat.min_eq_left (by omega)]
    exact ⟨by omega, .inr ⟨e, AgE.refl _ _, hz⟩, fun f z' h1 h2 _ => by rw [hc f z' h1 h2]; exact Nat.le_refl _⟩
end

def NeP (st cols : List Int) (R u v : Nat) : Prop := u ≠ v ∧ (InC st cols v u ∨ ∃ j, j < R ∧ InC st cols j u ∧ InC st cols v j)
def NeQ (st cols : List Int) (R u v x : Nat) : Prop := ∃ a b, a < R ∧ b < R ∧ x = a * R + b ∧ (a < u ∨ a = u ∧ b < v) ∧ NeP st cols R a b
theorem NeQ.first (st cols : List Int) (R x : Nat) : ¬ NeQ st cols R 0 0 x := by
  rintro ⟨a, b, _, _, _, h, _⟩
  omega
theorem NeQ.nextU {st cols : List Int} {R u x : Nat} : NeQ st cols R (u + 1) 0 x ↔ NeQ st cols R u R x := by
  constructor
  · rintro ⟨a, b, h1, h2, h3, h4, h5⟩
    exact ⟨a, b, h1, h2, h3, by omega, h5⟩
  · rintro ⟨a, b, h1, h2, h3, h4, h5⟩
    exact ⟨a, b, h1, h2, h3, by omega, h5⟩
theorem NeQ.at {st cols : List Int} {R u v : Nat} (hu : u < R) (hv : v < R) : NeQ st cols R u (v + 1) (u * R + v) ↔ NeP st cols R u v := by
  constructor
  · rintro ⟨a, b, h1, h2, h3, h4, h5⟩
    obtain ⟨rfl, rfl⟩ := idx_one hv h2 h3
    exact h5
  · intro h
    exact ⟨u, v, hu, hv, rfl, .inr ⟨rfl, by omega⟩, h⟩
theorem NeQ.other {st cols : List Int} {R u v x : Nat} (hx : x ≠ u * R + v) : NeQ st cols R u (v + 1) x ↔ NeQ st cols R u v x := by
  constructor
  · rintro ⟨a, b, h1, h2, h3, h4, h5⟩
    refine ⟨a, b, h1, h2, h3, ?_, h5⟩
    by_cases e : a = u ∧ b = v
    · obtain ⟨rfl, rfl⟩ := e
      exact absurd h3 hx
    · omega
  · rintro ⟨a, b, h1, h2, h3, h4, h5⟩
    exact ⟨a, b, h1, h2, h3, by omega, h5⟩
theorem NeQ.last {st cols : List Int} {R u v : Nat} (hu : u < R) (hv : v < R) : NeQ st cols R R 0 (u * R + v) ↔ NeP st cols R u v := by
  constructor
  · rintro ⟨a, b, h1, h2, h3, h4, h5⟩
    obtain ⟨rfl, rfl⟩ := idx_one hv h2 h3
    exact h5
  · intro h
    exact ⟨u, v, hu, hv, rfl, .inl hu, h⟩
theorem NrP.ne {st cols : List Int} {R : Nat} (hm : MayP (R : Int) (R : Int) st cols) (hg : GraP st cols R R) {u v : Nat} (hu : u < R) (hv : v < R) : (NrP st cols R (u * 128 + v) ∧ u ≠ v) ↔ NeP st cols R u v := by
  have hf := hm.head.fit
  have sym : ∀ a b, a < R → b < R → (InC st cols a b ↔ InC st cols b a) := fun a b ha hb => ⟨hg.2.1 a b ha hb, hg.2.1 b a hb ha⟩
  unfold NeP
  constructor
  · rintro ⟨⟨i, hi, h⟩, hne⟩
    refine ⟨hne, ?_⟩
    rcases h with h | ⟨t, ht, h⟩
    · rw [MeP.mem (rowL_rng hm hi) (by omega), rowL_mem hm hi, rowL_mem hm hi] at h
      exact .inr ⟨i, hi, (sym u i hu hi).1 h.1, h.2⟩
    · have hr := rowL_rng hm hi t ht
      have e1 : i = u := by omega
      subst e1
      left
      refine (rowL_mem hm hi).1 (mem_getD.2 ⟨t, ht, by omega⟩)
  · rintro ⟨hne, h⟩
    refine ⟨?_, hne⟩
    rcases h with h | ⟨j, hj, h1, h2⟩
    · obtain ⟨t, ht, e⟩ := mem_getD.1 ((rowL_mem hm hu).2 h)
      exact ⟨u, hu, .inr ⟨t, ht, by rw [e]; simp⟩⟩
    · refine ⟨j, hj, .inl ?_⟩
      rw [MeP.mem (rowL_rng hm hj) (by omega), rowL_mem hm hj, rowL_mem hm hj]
      exact ⟨(sym j u hj hu).1 h1, h2⟩
def givO : Obj := .cells #[.slice none 0 0, .slice none 0 0, .slice none 0 0, .slice none 0 0, .slice none 0 0, .slice none 0 0, .slice none 0 0, .slice none 0 0, .slice none 0 0, .slice none 0 0, .slice none 0 0, .slice none 0 0, .slice none 0 0, .slice none 0 0, .slice none 0 0, .slice none 0 0, .slice none 0 0, .slice none 0 0, .slice none 0 0, .slice none 0 0] 65
theorem nil20 (i : Nat) (h : i < 20) : (#[.slice none 0 0, .slice none 0 0, .slice none 0 0, .slice none 0 0, .slice none 0 0, .slice none 0 0, .slice none 0 0, .slice none 0 0, .slice none 0 0, .slice none 0 0, .slice none 0 0, .slice none 0 0, .slice none 0 0, .slice none 0 0, .slice none 0 0, .slice none 0 0, .slice none 0 0, .slice none 0 0, .slice none 0 0, .slice none 0 0] : Array Value)[i]? = some (.slice none 0 0) := by
  have : (#[.slice none 0 0, .slice none 0 0, .slice none 0 0, .slice none 0 0, .slice none 0 0, .slice none 0 0, .slice none 0 0, .slice none 0 0, .slice none 0 0, .slice none 0 0, .slice none 0 0, .slice none 0 0, .slice none 0 0, .slice none 0 0, .slice none 0 0, .slice none 0 0, .slice none 0 0, .slice none 0 0, .slice none 0 0, .slice none 0 0] : Array Value) = Array.replicate 20 (.slice none 0 0) := rfl
  rw [this, Array.getElem?_replicate, if_pos h]
theorem GivI.made (w : World) : GivI (w.alloc givO) w.heap.size (.slice none 0 0) (.slice none 0 0) [] (fun _ => .slice none 0 0) := by
  refine ⟨⟨_, alloc_block w _, rfl, rfl, rfl, fun i _ h20 => nil20 i h20⟩, ⟨rfl, .inl ⟨rfl, rfl⟩⟩, ⟨rfl, .inl ⟨rfl, rfl⟩⟩, fun k e => by simp [Value.ownBlock] at e, fun e he => by cases he⟩
set_option maxRecDepth 20000 in
set_option maxHeartbeats 1000000 in
theorem num12_any (x : Int) (w : World) : Calls Tryz.prog 11 #[.int .i64 x] w fun e w' => e = .returned (.int .i64 x) ∧ w' = w := by
  go_enter Tryz.func11, Tryz.ntmps11
  go_wp2_with fail
  try go_ret
  exact ⟨rfl, rfl⟩
structure PaB (W : World) (B : Nat) (v0 v1 : Value) (X n : Nat) (S C : List Int) (a1 : Option Addr) (c1 : Nat) (a2 : Option Addr) (c2 : Nat) : Prop where
  box : BoxP W X [.int .i64 (n : Int), .int .i64 (n : Int), .slice a1 S.length c1, .slice a2 C.length c2]
  s1 : SlI W a1 S.length c1 S
  s2 : SlI W a2 C.length c2 C
  nx : ¬ Own B v0 v1 X
  n1 : ∀ z, a1 = some z → S ≠ [] → ¬ Own B v0 v1 z.block
  n2 : ∀ z, a2 = some z → C ≠ [] → ¬ Own B v0 v1 z.block
theorem PaB.below {W W' : World} {B : Nat} {v0 v1 : Value} {X n : Nat} {S C : List Int} {a1 : Option Addr} {c1 : Nat} {a2 : Option Addr} {c2 : Nat} (h : PaB W B v0 v1 X n S C a1 c1 a2 c2) (k : Below W.heap.size W W') : PaB W' B v0 v1 X n S C a1 c1 a2 c2 :=
  ⟨h.box.below k, h.s1.below k, h.s2.below k, h.nx, h.n1, h.n2⟩
theorem PaB.made {W W' : World} {B : Nat} {v0 v1 : Value} {es : List EntI} {rs : Nat → Value} {n : Nat} {S C : List Int} {a1 : Option Addr} {c1 : Nat} {a2 : Option Addr} {c2 : Nat} (hg : GivI W B v0 v1 es rs) (s1 : SlI W' a1 S.length c1 S) (s2 : SlI W' a2 C.length c2 C) (k : Below W.heap.size W W') (f1 : ∀ z, a1 = some z → W.heap.size ≤ z.block) (f2 : ∀ z, a2 = some z → W.heap.size ≤ z.block) :
    PaB (W'.alloc (.cells #[.int .i64 (n : Int), .int .i64 (n : Int), .slice a1 S.length c1, .slice a2 C.length c2] 25)) B v0 v1 W'.heap.size n S C a1 c1 a2 c2 := by
  have ba : Below W'.heap.size W' (W'.alloc (.cells #[.int .i64 (n : Int), .int .i64 (n : Int), .slice a1 S.length c1, .slice a2 C.length c2] 25)) := (Below.refl _ _).alloc (Nat.le_refl _) _
  refine ⟨BoxP.made W' _ _, s1.below ba, s2.below ba, fun e => ?_, fun z hz _ e => ?_, fun z hz _ e => ?_⟩
  · have := hg.own_lt e; have := k.size; omega
  · have := hg.own_lt e; have := f1 z hz; omega
  · have := hg.own_lt e; have := f2 z hz; omega
end Go.Proofs.YtgjokididdffhaaGreat
