/- Cu8 -/
import Derived.Test.YtgjokididdffhaaGreatGiv
import Derived.Test.YtgjokididdffhaaGreatCg1
import Derived.Test.YtgjokididdffhaaGreatCu5
import Derived.Test.YtgjokididdffhaaGreatCv5
namespace Go.Proofs.YtgjokididdffhaaGreat
open Go.RowKit Go.Deep
set_option linter.unusedVariables false
def nuB (f : Nat → Bool) : Nat → Nat
  | 0 => 0
  | i + 1 => nuB f i + (if f i = true then 1 else 0)
theorem nuB_zero {f : Nat → Bool} : ∀ {i}, nuB f i = 0 ↔ ∀ u, u < i → f u = false
  | 0 => ⟨fun _ u hu => absurd hu (Nat.not_lt_zero _), fun _ => rfl⟩
  | i + 1 => by
    have ih := nuB_zero (f := f) (i := i)
    simp only [nuB]
    constructor
    · intro h u hu
      by_cases e : u = i
      · subst e
        cases hf : f u
        · rfl
        · rw [if_pos hf] at h; omega
      · exact ih.1 (by omega) u (by omega)
    · intro h
      rw [ih.2 (fun u hu => h u (by omega)), if_neg (by rw [h i (by omega)]; decide)]
theorem nuB_congr {f g : Nat → Bool} : ∀ i, (∀ u, u < i → f u = g u) → nuB f i = nuB g i
  | 0, _ => rfl
  | i + 1, h => by simp only [nuB]; rw [nuB_congr i (fun u hu => h u (by omega)), h i (by omega)]
theorem nuB_drop {f : Nat → Bool} {v : Nat} (hf : f v = true) : ∀ i, v < i → nuB (fun u => if u = v then false else f u) i + 1 = nuB f i
  | 0, h => absurd h (Nat.not_lt_zero _)
  | i + 1, h => by
    simp only [nuB]
    by_cases e : v = i
    · subst e
      rw [nuB_congr (g := f) v (fun u hu => by rw [if_neg (by omega)])]
      simp [hf]
    · have := nuB_drop hf i (by omega)
      simp only [show ¬ i = v by omega, if_false]
      omega
theorem nuB_two {f : Nat → Bool} : ∀ {i}, 2 ≤ nuB f i ↔ ∃ p q, p ≠ q ∧ p < i ∧ q < i ∧ f p = true ∧ f q = true
  | 0 => ⟨fun h => absurd h (by simp [nuB]), fun ⟨p, q, _, h, _⟩ => absurd h (Nat.not_lt_zero _)⟩
  | i + 1 => by
    have ih := nuB_two (f := f) (i := i)
    simp only [nuB]
    constructor
    · intro h
      by_cases c : 2 ≤ nuB f i
      · obtain ⟨p, q, h1, h2, h3, h4, h5⟩ := ih.1 c
        exact ⟨p, q, h1, by omega, by omega, h4, h5⟩
      · have h1 : nuB f i = 1 ∧ f i = true := by
          by_cases e : f i = true
          · rw [if_pos e] at h; exact ⟨by omega, e⟩
          · rw [if_neg e] at h; omega
        have h2 : ∃ p, p < i ∧ f p = true := by
          apply Classical.byContradiction
          intro hn
          have : nuB f i = 0 := nuB_zero.2 (fun u hu => by
            cases hu2 : f u
            · rfl
            · exact absurd ⟨u, hu, hu2⟩ hn)
          omega
        obtain ⟨p, hp, hp2⟩ := h2
        exact ⟨p, i, by omega, by omega, by omega, hp2, h1.2⟩
    · rintro ⟨p, q, h1, h2, h3, h4, h5⟩
      by_cases e1 : p = i
      · subst e1
        rw [if_pos h4]
        have : nuB f p ≠ 0 := fun h => by have := nuB_zero.1 h q (by omega); rw [this] at h5; cases h5
        omega
      · by_cases e2 : q = i
        · subst e2
          rw [if_pos h5]
          have : nuB f q ≠ 0 := fun h => by have := nuB_zero.1 h p (by omega); rw [this] at h4; cases h4
          omega
        · have := ih.2 ⟨p, q, h1, by omega, by omega, h4, h5⟩
          split <;> omega
def adQ (Q : Nat → Bool) (N u v : Nat) : Prop := u < N ∧ v < N ∧ Q (u * N + v) = true
structure PaQ (Q : Nat → Bool) (N : Nat) (T0 lf0 : Nat → Bool) (v : Nat) (ag : Bool) (lf : Nat → Bool) : Prop where
  sub : ∀ u, u < N → lf u = true → T0 u = true
  mx : ∀ T : Nat → Prop, (∀ u, T u → u < N ∧ T0 u = true) → CyP (adQ Q N) T → ∀ u, T u → lf u = true
  no : ag = false → (∀ u, u < N → lf u = lf0 u) ∧ ∀ u, u < v → lf u = true → 2 ≤ nuB (fun x => lf x && Q (x * N + u)) N
  yes : ag = true → nuB lf N < nuB lf0 N
theorem PaQ.le {Q : Nat → Bool} {N : Nat} {T0 lf0 : Nat → Bool} {v : Nat} {ag : Bool} {lf : Nat → Bool} (h : PaQ Q N T0 lf0 v ag lf) : nuB lf N ≤ nuB lf0 N := by
  cases ag
  · exact Nat.le_of_eq (nuB_congr N (h.no rfl).1)
  · exact Nat.le_of_lt (h.yes rfl)
theorem PaQ.drop {Q : Nat → Bool} {N : Nat} {T0 lf0 : Nat → Bool} {v : Nat} {ag : Bool} {lf : Nat → Bool} (h : PaQ Q N T0 lf0 v ag lf) (hv : v < N) (hl : lf v = true) (hk : nuB (fun x => lf x && Q (x * N + v)) N < 2) : PaQ Q N T0 lf0 (v + 1) true (fun u => if u = v then false else lf u) := by
  refine ⟨fun u hu e => ?_, fun T hT hc u hu => ?_, fun e => (by cases e), fun _ => ?_⟩
  · by_cases c : u = v
    · rw [if_pos c] at e; cases e
    · rw [if_neg c] at e; exact h.sub u hu e
  · by_cases c : u = v
    · subst c
      obtain ⟨p, q, h1, h2, h3, h4, h5⟩ := hc u hu
      have : 2 ≤ nuB (fun x => lf x && Q (x * N + u)) N := nuB_two.2 ⟨p, q, h1, h4.1, h5.1, by simp [h.mx T hT hc p h2, h4.2.2], by simp [h.mx T hT hc q h3, h5.2.2]⟩
      omega
    · rw [if_neg c]; exact h.mx T hT hc u hu
  · have h1 := nuB_drop hl N hv
    have h2 := h.le
    omega
theorem PaQ.done {Q : Nat → Bool} {N : Nat} {T0 lf0 lf : Nat → Bool} (h : PaQ Q N T0 lf0 N false lf) : nuB lf N = 0 ↔ FoP (adQ Q N) (fun u => u < N ∧ T0 u = true) := by
  constructor
  · intro h0 T hT hc u hu
    have h1 := h.mx T hT hc u hu
    have h2 := nuB_zero.1 h0 u (hT u hu).1
    rw [h1] at h2
    cases h2
  · intro hF
    refine nuB_zero.2 (fun u hu => ?_)
    cases e : lf u
    · rfl
    · refine absurd ⟨hu, e⟩ (hF (fun x => x < N ∧ lf x = true) (fun x hx => ⟨hx.1, h.sub x hx.1 hx.2⟩) (fun x hx => ?_) u)
      obtain ⟨p, q, h1, h2, h3, h4, h5⟩ := nuB_two.1 ((h.no rfl).2 x hx.1 hx.2)
      simp at h4 h5
      exact ⟨p, q, h1, ⟨h2, h4.1⟩, ⟨h3, h5.1⟩, ⟨h2, hx.1, h4.2⟩, ⟨h3, hx.1, h5.2⟩⟩
def twB (cs : Nat → Int) (c d : Int) (v : Nat) : Bool := (cs v == c) || (cs v == d)
def Sk1 (Q : Nat → Bool) (N : Nat) (cs : Nat → Int) (v b c d : Nat) : Prop := Q (v * N + b) = true ∧ Q (b * N + c) = true ∧ c ≠ v ∧ cs c = cs v ∧ d ≠ b ∧ (Q (c * N + d) = true ∨ Q (v * N + d) = true) ∧ cs d = cs b
def SkP (Q : Nat → Bool) (N : Nat) (cs : Nat → Int) (v : Nat) : Prop := ∃ b c d, b < N ∧ c < N ∧ d < N ∧ Sk1 Q N cs v b c d
def RtN (Q : Nat → Bool) (N : Nat) (cs : Nat → Int) (v : Nat) : Prop := ∀ u, u < N → Q (u * N + v) = true → cs u ≠ cs v
def ptQ (Q : Nat → Bool) (N : Nat) (cs : Nat → Int) (x : Nat) : Bool := decide (0 ≤ cs (x / N)) && (decide (0 ≤ cs (x % N)) && Q x)
def RtS (Q : Nat → Bool) (N : Nat) (cs : Nat → Int) (v : Nat) : Prop := RtN Q N cs v ∧ ¬ SkP (ptQ Q N cs) N cs v
def RtA (Q : Nat → Bool) (N : Nat) (cs : Nat → Int) (v : Nat) : Prop := RtN Q N cs v ∧ ∀ u, u < N → ptQ Q N cs (u * N + v) = true → FoP (adQ (ptQ Q N cs) N) (fun x => x < N ∧ twB cs (cs u) (cs v) x = true)
theorem ptQ_at {Q : Nat → Bool} {N : Nat} {cs : Nat → Int} {u v : Nat} (hv : v < N) : ptQ Q N cs (u * N + v) = true ↔ (0 ≤ cs u ∧ 0 ≤ cs v ∧ Q (u * N + v) = true) := by
  have h1 : (u * N + v) / N = u := by rw [Nat.mul_comm, Nat.mul_add_div (by omega), Nat.div_eq_of_lt hv, Nat.add_zero]
  have h2 : (u * N + v) % N = v := by rw [Nat.mul_comm, Nat.mul_add_mod, Nat.mod_eq_of_lt hv]
  unfold ptQ
  rw [h1, h2]
  simp
theorem updC_same (cs : Nat → Int) (v y : Nat) : updC cs v y v = (y : Int) := by simp [updC]
theorem updC_other (cs : Nat → Int) {v u : Nat} (y : Nat) (h : u ≠ v) : updC cs v y u = cs u := by simp [updC, h]
theorem row_nat {S C : List Int} {m v : Nat} {u : Int} (hm : MayP (m : Int) (m : Int) S C) (hv : v < m) (hu : u ∈ rowL S C v) : ∃ x : Nat, u = (x : Int) ∧ x < m ∧ adG S C m v x := by
  obtain ⟨i, hi, he⟩ := mem_getD.1 hu
  obtain ⟨x, h1, h2⟩ := row_atF hm hv hi
  have e : u = (x : Int) := by rw [← he, h1]
  subst e
  exact ⟨x, rfl, h2, (ad_row hm hv).2 hu⟩
section
variable {S C : List Int} {m : Nat} {Q : Nat → Bool} {cs : Nat → Int} {v y : Nat}
theorem barN_ad (hm : MayP (m : Int) (m : Int) S C) (hv : v < m) : BarN S C cs v y ↔ ∃ u, adG S C m v u ∧ cs u = (y : Int) := by
  constructor
  · rintro ⟨u, hu, e⟩
    obtain ⟨x, rfl, hx, ha⟩ := row_nat hm hv hu
    exact ⟨x, ha, by simpa using e⟩
  · rintro ⟨u, ha, e⟩
    exact ⟨(u : Int), (ad_row hm hv).1 ha, by simpa using e⟩
theorem rt_nb (hm : MayP (m : Int) (m : Int) S C) (hg : GraP S C m m) (hQ : ∀ u v, u < m → v < m → (Q (u * m + v) = true ↔ adG S C m u v)) (hv : v < m) : RtN Q m (updC cs v y) v ↔ ¬ BarN S C cs v y := by
  rw [barN_ad hm hv]
  constructor
  · rintro h ⟨u, ha, e⟩
    have hne : u ≠ v := fun e2 => adG.ir hg v (by rw [e2] at ha; exact ha)
    refine h u ha.2.1 ((hQ u v ha.2.1 hv).2 (adG.sy hg _ _ ha)) ?_
    rw [updC_other _ _ hne, updC_same, e]
  · intro h u hu hq e
    have ha := adG.sy hg _ _ ((hQ u v hu hv).1 hq)
    have hne : u ≠ v := fun e2 => adG.ir hg v (by rw [e2] at ha; exact ha)
    rw [updC_other _ _ hne, updC_same] at e
    exact h ⟨u, ha, e⟩
theorem barP_ad (hm : MayP (m : Int) (m : Int) S C) (hv : v < m) : BarP S C cs v y ↔ (BarN S C cs v y ∨ ∃ b c d, adG S C m v b ∧ cs b ≠ -1 ∧ adG S C m b c ∧ cs c = (y : Int) ∧ d ≠ b ∧ (adG S C m v d ∨ adG S C m c d) ∧ cs d = cs b) := by
  unfold BarP
  refine or_congr Iff.rfl ?_
  constructor
  · rintro ⟨p, hp, x, hx, e, ht⟩
    have hb := cldL_mem.1 (mem_getD.2 ⟨p, hp, rfl⟩)
    obtain ⟨b, eb, hbm, hab⟩ := row_nat hm hv hb.1
    rw [eb] at hx ht hb
    simp only [Int.toNat_natCast] at hx ht hb
    obtain ⟨c, rfl, hcm, hac⟩ := row_nat hm hbm (cldL_mem.1 hx).1
    simp only [Int.toNat_natCast] at e ht
    have key : ∀ z, z < m → TwP cs (rowL S C z) b → ∃ d, d ≠ b ∧ adG S C m z d ∧ cs d = cs b := by
      rintro z hz ⟨t, ht, h1, h2⟩
      obtain ⟨d, rfl, hdm, had⟩ := row_nat hm hz ht
      exact ⟨d, by omega, had, by simpa using h2⟩
    rcases ht with ht | ht
    · obtain ⟨d, h1, h2, h3⟩ := key v hv ht
      exact ⟨b, c, d, hab, hb.2, hac, e, h1, .inl h2, h3⟩
    · obtain ⟨d, h1, h2, h3⟩ := key c hcm ht
      exact ⟨b, c, d, hab, hb.2, hac, e, h1, .inr h2, h3⟩
  · rintro ⟨b, c, d, hab, hcb, hac, e, hne, ht, hd⟩
    have hb : (b : Int) ∈ cldL cs (rowL S C v) := cldL_mem.2 ⟨(ad_row hm hv).1 hab, by simpa using hcb⟩
    obtain ⟨p, hp, he⟩ := mem_getD.1 hb
    refine ⟨p, hp, (c : Int), ?_, by simpa using e, ?_⟩
    · rw [he]
      simp only [Int.toNat_natCast]
      exact cldL_mem.2 ⟨(ad_row hm hab.2.1).1 hac, by simp only [Int.toNat_natCast]; omega⟩
    · rw [he]
      simp only [Int.toNat_natCast]
      rcases ht with ht | ht
      · exact .inl ⟨(d : Int), (ad_row hm hv).1 ht, by omega, by simpa using hd⟩
      · exact .inr ⟨(d : Int), (ad_row hm hac.2.1).1 ht, by omega, by simpa using hd⟩
theorem rt_st (hm : MayP (m : Int) (m : Int) S C) (hg : GraP S C m m) (hQ : ∀ u v, u < m → v < m → (Q (u * m + v) = true ↔ adG S C m u v)) (hv : v < m) (hc : ∀ i, i < m → -1 ≤ cs i) (hvc : cs v = -1) : RtS Q m (updC cs v y) v ↔ ¬ BarP S C cs v y := by
  unfold RtS
  rw [rt_nb hm hg hQ hv, barP_ad hm hv, ← not_or]
  refine not_congr ?_
  by_cases hn : BarN S C cs v y
  · exact ⟨fun _ => .inl hn, fun _ => .inl hn⟩
  refine or_congr Iff.rfl ?_
  have hnb : ∀ u, adG S C m v u → cs u ≠ (y : Int) := fun u ha e => hn ((barN_ad hm hv).2 ⟨u, ha, e⟩)
  constructor
  · rintro ⟨b, c, d, hb, hcm, hd, q1, q2, hcv, ec, hdb, q3, ed⟩
    obtain ⟨_, p2, p3⟩ := (ptQ_at hb).1 q1
    obtain ⟨_, p5, p6⟩ := (ptQ_at hcm).1 q2
    have a1 := (hQ v b hv hb).1 p3
    have a2 := (hQ b c hb hcm).1 p6
    have hbv : b ≠ v := fun e2 => adG.ir hg v (by rw [e2] at a1; exact a1)
    rw [updC_other _ _ hbv] at p2 ed
    rw [updC_other _ _ hcv, updC_same] at ec
    have hdv : d ≠ v := fun e2 => by
      subst e2
      rw [updC_same] at ed
      exact hnb b a1 ed.symm
    rw [updC_other _ _ hdv] at ed
    refine ⟨b, c, d, a1, by omega, a2, ec, hdb, ?_, ed⟩
    rcases q3 with q3 | q3
    · exact .inr ((hQ c d hcm hd).1 ((ptQ_at hd).1 q3).2.2)
    · exact .inl ((hQ v d hv hd).1 ((ptQ_at hd).1 q3).2.2)
  · rintro ⟨b, c, d, a1, hcb, a2, ec, hdb, ht, ed⟩
    have hbv : b ≠ v := fun e2 => adG.ir hg v (by rw [e2] at a1; exact a1)
    have hcv : c ≠ v := fun e2 => by rw [e2, hvc] at ec; omega
    have hdv : d ≠ v := fun e2 => by rw [e2, hvc] at ed; omega
    have hbm := a1.2.1
    have hcm := a2.2.1
    have hdm : d < m := ht.elim (fun h => h.2.1) (fun h => h.2.1)
    have r1 := hc b hbm
    refine ⟨b, c, d, hbm, hcm, hdm, (ptQ_at hbm).2 ⟨?_, ?_, (hQ v b hv hbm).2 a1⟩, (ptQ_at hcm).2 ⟨?_, ?_, (hQ b c hbm hcm).2 a2⟩, hcv, ?_, hdb, ?_, ?_⟩
    · rw [updC_same]; omega
    · rw [updC_other _ _ hbv]; omega
    · rw [updC_other _ _ hbv]; omega
    · rw [updC_other _ _ hcv]; omega
    · rw [updC_other _ _ hcv, updC_same, ec]
    · rcases ht with ht | ht
      · refine .inr ((ptQ_at hdm).2 ⟨?_, ?_, (hQ v d hv hdm).2 ht⟩)
        · rw [updC_same]; omega
        · rw [updC_other _ _ hdv]; omega
      · refine .inl ((ptQ_at hdm).2 ⟨?_, ?_, (hQ c d hcm hdm).2 ht⟩)
        · rw [updC_other _ _ hcv]; omega
        · rw [updC_other _ _ hdv]; omega
    · rw [updC_other _ _ hdv, updC_other _ _ hbv, ed]
def AcyC (S C : List Int) (m : Nat) (cs : Nat → Int) : Prop := ∀ c d : Int, 0 ≤ c → 0 ≤ d → FoP (adG S C m) (TwC cs m c d)
theorem add_fo (hm : MayP (m : Int) (m : Int) S C) (hg : GraP S C m m) (hv : v < m) (hvc : cs v = -1) (hA : AcyC S C m cs) (hb : ¬ BarA S C m cs v y) (c : Int) (hc : 0 ≤ c) : FoP (adG S C m) (fun u => TwC cs m c (y : Int) u ∨ u = v) := by
  refine (forest_add (n := 0) (adG.ir hg) (adG.sy hg) ⟨List.range m, fun x hx => List.mem_range.2 hx.1⟩ (hA c y hc (by omega)) (fun h => ?_)).2 (fun a b hav hbv w => ?_)
  · rcases h.2 with h | h <;> omega
  · apply Classical.byContradiction
    intro hab
    have key : ∀ x, adG S C m x v → TwC cs m c (y : Int) x → cs x = c := fun x hx ht => ht.2.elim id (fun e => absurd (.inl ((barN_ad hm hv).2 ⟨x, adG.sy hg _ _ hx, e⟩)) hb)
    have e1 := key a hav w.first
    have e2 := key b hbv w.last
    refine hb (.inr ⟨a, b, c.toNat, hab, adG.sy hg _ _ hav, adG.sy hg _ _ hbv, by omega, by omega, ?_⟩)
    rw [show ((c.toNat : Nat) : Int) = c by omega]
    exact w
theorem TwC.upd (c : Int) (hvm : v < m) (hvc : cs v = -1) (hc : 0 ≤ c) (x : Nat) : TwC (updC cs v y) m c (y : Int) x ↔ (TwC cs m c (y : Int) x ∨ x = v) := by
  unfold TwC
  by_cases e : x = v
  · subst e
    rw [updC_same]
    exact ⟨fun _ => .inr rfl, fun _ => ⟨hvm, .inr rfl⟩⟩
  · rw [updC_other _ _ e]
    exact ⟨fun h => .inl h, fun h => h.elim id (fun h => absurd h e)⟩
theorem AcyC.next (hm : MayP (m : Int) (m : Int) S C) (hg : GraP S C m m) (hv : v < m) (hvc : cs v = -1) (hA : AcyC S C m cs) (hb : ¬ BarA S C m cs v y) : AcyC S C m (updC cs v y) := by
  intro c d hc hd
  by_cases e1 : d = (y : Int)
  · subst e1
    exact (FoP.iff (TwC.upd c hv hvc hc)).2 (add_fo hm hg hv hvc hA hb c hc)
  · by_cases e2 : c = (y : Int)
    · subst e2
      exact (FoP.iff (fun x => ⟨fun h => h.swap, fun h => h.swap⟩)).2 ((FoP.iff (TwC.upd d hv hvc hd)).2 (add_fo hm hg hv hvc hA hb d hd))
    · refine (FoP.iff (fun x => ?_)).2 (hA c d hc hd)
      unfold TwC
      by_cases e : x = v
      · subst e
        rw [updC_same, hvc]
        exact ⟨fun h => h.2.elim (fun h => absurd h.symm e2) (fun h => absurd h.symm e1), fun h => h.2.elim (fun h => by omega) (fun h => by omega)⟩
      · rw [updC_other _ _ e]
theorem rt_ac (hm : MayP (m : Int) (m : Int) S C) (hg : GraP S C m m) (hQ : ∀ u v, u < m → v < m → (Q (u * m + v) = true ↔ adG S C m u v)) (hv : v < m) (hvc : cs v = -1) (hA : AcyC S C m cs) : RtA Q m (updC cs v y) v ↔ ¬ BarA S C m cs v y := by
  have conv : ∀ c : Int, 0 ≤ c → (FoP (adQ (ptQ Q m (updC cs v y)) m) (fun x => x < m ∧ twB (updC cs v y) c (updC cs v y v) x = true) ↔ FoP (adG S C m) (fun u => TwC cs m c (y : Int) u ∨ u = v)) := fun c hc => by
    have e1 : ∀ x, (x < m ∧ twB (updC cs v y) c (updC cs v y v) x = true) ↔ (TwC cs m c (y : Int) x ∨ x = v) := fun x => by
      rw [← TwC.upd c hv hvc hc, updC_same]
      unfold TwC twB
      simp
    rw [FoP.iff e1]
    have ed : ∀ a b, (TwC cs m c (y : Int) a ∨ a = v) → (TwC cs m c (y : Int) b ∨ b = v) → (adQ (ptQ Q m (updC cs v y)) m a b ↔ adG S C m a b) := fun a b ha hb => by
      have ha' := (TwC.upd (y := y) c hv hvc hc a).2 ha
      have hb' := (TwC.upd (y := y) c hv hvc hc b).2 hb
      have p1 : 0 ≤ updC cs v y a := by rcases ha'.2 with h | h <;> omega
      have p2 : 0 ≤ updC cs v y b := by rcases hb'.2 with h | h <;> omega
      unfold adQ
      constructor
      · rintro ⟨h1, h2, h3⟩
        exact (hQ a b h1 h2).1 ((ptQ_at h2).1 h3).2.2
      · intro h
        exact ⟨h.1, h.2.1, (ptQ_at h.2.1).2 ⟨p1, p2, (hQ a b h.1 h.2.1).2 h⟩⟩
    exact ⟨fun h => h.ad_congr ed, fun h => h.ad_congr (fun a b ha hb => (ed a b ha hb).symm)⟩
  unfold RtA
  rw [rt_nb hm hg hQ hv]
  constructor
  · rintro ⟨h1, h2⟩ hb
    rcases hb with hb | ⟨u1, u2, c, hne, a1, a2, e1, e2, w⟩
    · exact h1 hb
    · have n1 : u1 ≠ v := fun e2 => adG.ir hg v (by rw [e2] at a1; exact a1)
      have hu1 := a1.2.1
      have hf := h2 u1 hu1 ((ptQ_at hv).2 ⟨by rw [updC_other _ _ n1]; omega, by rw [updC_same]; omega, (hQ u1 v hu1 hv).2 (adG.sy hg _ _ a1)⟩)
      rw [updC_other _ _ n1, e1] at hf
      have hf2 := (conv (c : Int) (by omega)).1 hf
      refine hne ((forest_add (n := 0) (adG.ir hg) (adG.sy hg) ⟨List.range m, fun x hx => List.mem_range.2 hx.1⟩ (hA c y (by omega) (by omega)) (fun h => ?_)).1 hf2 u1 u2 (adG.sy hg _ _ a1) (adG.sy hg _ _ a2) w)
      rcases h.2 with h | h <;> omega
  · intro hb
    refine ⟨fun h => hb (.inl h), fun u hu hq => ?_⟩
    obtain ⟨p1, _, p3⟩ := (ptQ_at hv).1 hq
    have a1 := (hQ u v hu hv).1 p3
    have n1 : u ≠ v := fun e2 => adG.ir hg v (by rw [e2] at a1; exact a1)
    rw [updC_other _ _ n1] at p1 ⊢
    exact (conv (cs u) p1).2 (add_fo hm hg hv hvc hA hb (cs u) p1)
end
def PntG (L : (Nat → Int) → Nat → Nat → Prop) (xs : List Int) : Nat → (Nat → Int) → Prop
  | 0, cs => cs = fun _ => -1
  | k + 1, cs => ∃ cs0 y, PntG L xs k cs0 ∧ L cs0 (xs.getD k 0).toNat y ∧ cs = updC cs0 (xs.getD k 0).toNat y
theorem PntN.g {st cols xs : List Int} : ∀ {k : Nat} {cs : Nat → Int}, PntN st cols xs k cs ↔ PntG (LstN st cols) xs k cs
  | 0, _ => Iff.rfl
  | k + 1, cs => by
    unfold PntN PntG
    exact ⟨fun ⟨c, y, h1, h2⟩ => ⟨c, y, PntN.g.1 h1, h2⟩, fun ⟨c, y, h1, h2⟩ => ⟨c, y, PntN.g.2 h1, h2⟩⟩
theorem PntI.g {st cols xs : List Int} : ∀ {k : Nat} {cs : Nat → Int}, PntI st cols xs k cs ↔ PntG (LstP st cols) xs k cs
  | 0, _ => Iff.rfl
  | k + 1, cs => by
    unfold PntI PntG
    exact ⟨fun ⟨c, y, h1, h2⟩ => ⟨c, y, PntI.g.1 h1, h2⟩, fun ⟨c, y, h1, h2⟩ => ⟨c, y, PntI.g.2 h1, h2⟩⟩
theorem PntA.g {st cols xs : List Int} {R : Nat} : ∀ {k : Nat} {cs : Nat → Int}, PntA st cols R xs k cs ↔ PntG (LstA st cols R) xs k cs
  | 0, _ => Iff.rfl
  | k + 1, cs => by
    unfold PntA PntG
    exact ⟨fun ⟨c, y, h1, h2⟩ => ⟨c, y, PntA.g.1 h1, h2⟩, fun ⟨c, y, h1, h2⟩ => ⟨c, y, PntA.g.2 h1, h2⟩⟩
theorem PntG.fresh {L : (Nat → Int) → Nat → Nat → Prop} {xs : List Int} {v : Nat} : ∀ {k : Nat} {cs : Nat → Int}, PntG L xs k cs → (∀ j, j < k → (xs.getD j 0).toNat ≠ v) → cs v = -1
  | 0, cs, h, _ => by unfold PntG at h; rw [h]
  | k + 1, cs, ⟨c, y, h1, _, h3⟩, hn => by
    rw [h3, updC_other _ _ (fun e => hn k (by omega) e.symm)]
    exact PntG.fresh h1 (fun j hj => hn j (by omega))
theorem PntG.one {L : (Nat → Int) → Nat → Nat → Prop} {xs : List Int} (hL : ∀ cs v y z, L cs v y → L cs v z → y = z) : ∀ {k : Nat} {cs ds : Nat → Int}, PntG L xs k cs → PntG L xs k ds → cs = ds
  | 0, _, _, h, g => by unfold PntG at h g; rw [h, g]
  | k + 1, _, _, ⟨c, y, h1, h2, h3⟩, ⟨d, x, g1, g2, g3⟩ => by
    have e := PntG.one hL h1 g1
    subst e
    have e := hL _ _ _ _ h2 g2
    subst e
    rw [h3, g3]
theorem least_ex {B : Nat → Prop} : ∀ {k : Nat}, ¬ B k → ∃ y, y ≤ k ∧ ¬ B y ∧ ∀ j, j < y → B j := by
  intro k
  induction k using Nat.strongRecOn with
  | _ k ih =>
    intro hk
    by_cases h : ∃ j, j < k ∧ ¬ B j
    · obtain ⟨j, hj, hb⟩ := h
      obtain ⟨y, h1, h2⟩ := ih j hj hb
      exact ⟨y, by omega, h2⟩
    · exact ⟨k, Nat.le_refl _, hk, fun j hj => Classical.byContradiction (fun hb => h ⟨j, hj, hb⟩)⟩
structure PnX (RT : (Nat → Int) → Nat → Prop) (xs : List Int) (m : Nat) (P : Nat → (Nat → Int) → Prop) : Prop where
  zero : P 0 (fun _ => -1)
  next : ∀ k cs, k < m → P k cs → ∃ y, y ≤ k ∧ RT (updC cs (xs.getD k 0).toNat y) (xs.getD k 0).toNat ∧ (∀ j, j < y → ¬ RT (updC cs (xs.getD k 0).toNat j) (xs.getD k 0).toNat) ∧ P (k + 1) (updC cs (xs.getD k 0).toNat y)
  rng : ∀ k cs, k ≤ m → P k cs → ∀ i, -1 ≤ cs i ∧ cs i < (k : Int)
  fresh : ∀ k cs, k < m → P k cs → cs (xs.getD k 0).toNat = -1
theorem ord_fresh {xs : List Int} {m k : Nat} (ho : OrdTo xs m m) (hk : k < m) : ∀ j, j < k → (xs.getD j 0).toNat ≠ (xs.getD k 0).toNat := fun j hj e => by
  have h1 := ho.rng j (by omega)
  have h2 := ho.rng k hk
  exact ho.one j k hj hk (by omega)
section
variable {S C xs : List Int} {m : Nat} {Q : Nat → Bool}
theorem pnx_nb (hm : MayP (m : Int) (m : Int) S C) (hg : GraP S C m m) (hQ : ∀ u v, u < m → v < m → (Q (u * m + v) = true ↔ adG S C m u v)) (ho : OrdTo xs m m) : PnX (RtN Q m) xs m (PntN S C xs) := by
  refine ⟨rfl, fun k cs hk h => ?_, fun k cs hk h => PntN.rng hm ho.rng hk h, fun k cs hk h => (PntN.g.1 h).fresh (ord_fresh ho hk)⟩
  have hv : (xs.getD k 0).toNat < m := by have := ho.rng k hk; omega
  have hr := PntN.rng hm ho.rng (show k ≤ m by omega) h
  obtain ⟨y, h1, h2, h3⟩ := least_ex (B := fun j => BarN S C cs (xs.getD k 0).toNat j) (k := k) (fun hb => by obtain ⟨i, _, e⟩ := hb.used hm hv; have := (hr i).2; omega)
  exact ⟨y, h1, (rt_nb hm hg hQ hv).2 h2, fun j hj h => (rt_nb hm hg hQ hv).1 h (h3 j hj), cs, y, h, ⟨h2, h3⟩, rfl⟩
theorem pnx_st (hm : MayP (m : Int) (m : Int) S C) (hg : GraP S C m m) (hQ : ∀ u v, u < m → v < m → (Q (u * m + v) = true ↔ adG S C m u v)) (ho : OrdTo xs m m) : PnX (RtS Q m) xs m (PntI S C xs) := by
  refine ⟨rfl, fun k cs hk h => ?_, fun k cs hk h => PntI.rng hm ho.rng hk h, fun k cs hk h => (PntI.g.1 h).fresh (ord_fresh ho hk)⟩
  have hv : (xs.getD k 0).toNat < m := by have := ho.rng k hk; omega
  have hr := PntI.rng hm ho.rng (show k ≤ m by omega) h
  have hf := (PntI.g.1 h).fresh (ord_fresh ho hk)
  obtain ⟨y, h1, h2, h3⟩ := least_ex (B := fun j => BarP S C cs (xs.getD k 0).toNat j) (k := k) (fun hb => by obtain ⟨i, _, e⟩ := hb.used hm hv; have := (hr i).2; omega)
  exact ⟨y, h1, (rt_st hm hg hQ hv (fun i _ => (hr i).1) hf).2 h2, fun j hj h => (rt_st hm hg hQ hv (fun i _ => (hr i).1) hf).1 h (h3 j hj), cs, y, h, ⟨h2, h3⟩, rfl⟩
theorem PntA.acy (hm : MayP (m : Int) (m : Int) S C) (hg : GraP S C m m) (ho : OrdTo xs m m) : ∀ {k : Nat} {cs : Nat → Int}, k ≤ m → PntA S C m xs k cs → AcyC S C m cs
  | 0, cs, _, h => by
    unfold PntA at h
    subst h
    exact fun c d hc hd T hT _ v hv => by
      have := (hT v hv).2
      simp only at this
      omega
  | k + 1, _, hk, ⟨c, y, h1, h2, h3⟩ => by
    subst h3
    have hv : (xs.getD k 0).toNat < m := by have := ho.rng k (by omega); omega
    exact (PntA.acy hm hg ho (by omega) h1).next hm hg hv ((PntA.g.1 h1).fresh (ord_fresh ho (by omega))) h2.may
theorem pnx_ac (hm : MayP (m : Int) (m : Int) S C) (hg : GraP S C m m) (hQ : ∀ u v, u < m → v < m → (Q (u * m + v) = true ↔ adG S C m u v)) (ho : OrdTo xs m m) : PnX (RtA Q m) xs m (PntA S C m xs) := by
  refine ⟨rfl, fun k cs hk h => ?_, fun k cs hk h => PntA.rng hm hg ho.rng hk h, fun k cs hk h => (PntA.g.1 h).fresh (ord_fresh ho hk)⟩
  have hv : (xs.getD k 0).toNat < m := by have := ho.rng k hk; omega
  have hr := PntA.rng hm hg ho.rng (show k ≤ m by omega) h
  have hf := (PntA.g.1 h).fresh (ord_fresh ho hk)
  have ha := PntA.acy hm hg ho (by omega) h
  have hp := PntA.prp (n := m) hm hg h
  obtain ⟨y, h1, h2, h3⟩ := least_ex (B := fun j => BarA S C m cs (xs.getD k 0).toNat j) (k := k) (fun hb => by obtain ⟨i, _, e⟩ := hb.used hm hp hv; have := (hr i).2; omega)
  exact ⟨y, h1, (rt_ac hm hg hQ hv hf ha).2 h2, fun j hj h => (rt_ac hm hg hQ hv hf ha).1 h (h3 j hj), cs, y, h, ⟨h2, h3⟩, rfl⟩
end
end Go.Proofs.YtgjokididdffhaaGreat
