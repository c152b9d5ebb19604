/-
  FORESTS: circles and ways, plain.
-/
import Derived.Test.YtohamaiobhikiaaGreatCu1
namespace Go.Proofs.YtohamaiobhikiaaGreat
open Go.RowKit Go.Deep
set_option linter.unusedVariables false

/-- A set in which each has two neighbours. -/
def CyP (ad : Nat → Nat → Prop) (T : Nat → Prop) : Prop := ∀ v, T v → ∃ p q, p ≠ q ∧ T p ∧ T q ∧ ad p v ∧ ad q v
/-- A set that holds none of these. -/
def FoP (ad : Nat → Nat → Prop) (T0 : Nat → Prop) : Prop := ∀ T : Nat → Prop, (∀ v, T v → T0 v) → CyP ad T → ∀ v, ¬ T v
/-- A way within a set. -/
inductive WyP (ad : Nat → Nat → Prop) (T : Nat → Prop) (a : Nat) : Nat → Prop
  | here (h : T a) : WyP ad T a a
  | go (b c : Nat) (w : WyP ad T a b) (h : T c) (e : ad b c) : WyP ad T a c
section
variable {ad : Nat → Nat → Prop} {T : Nat → Prop}
theorem FoP.sub {T' : Nat → Prop} (h : FoP ad T) (k : ∀ v, T' v → T v) : FoP ad T' := fun S hS hc => h S (fun v hv => k v (hS v hv)) hc
theorem FoP.iff {T' : Nat → Prop} (k : ∀ v, T' v ↔ T v) : FoP ad T' ↔ FoP ad T := ⟨fun h => h.sub (fun v => (k v).2), fun h => h.sub (fun v => (k v).1)⟩
theorem FoP.ad_congr {ad' : Nat → Nat → Prop} (k : ∀ u v, T u → T v → (ad u v ↔ ad' u v)) (h : FoP ad T) : FoP ad' T := fun S hS hc => h S hS (fun v hv => by
  obtain ⟨p, q, h1, h2, h3, h4, h5⟩ := hc v hv
  exact ⟨p, q, h1, h2, h3, (k p v (hS p h2) (hS v hv)).2 h4, (k q v (hS q h3) (hS v hv)).2 h5⟩)
theorem WyP.first {a b : Nat} (w : WyP ad T a b) : T a := by induction w with
  | here h => exact h
  | go b c w h e ih => exact ih
theorem WyP.last {a b : Nat} (w : WyP ad T a b) : T b := by cases w with
  | here h => exact h
  | go b c w h e => exact h
theorem WyP.more {T' : Nat → Prop} (k : ∀ v, T v → T' v) {a b : Nat} (w : WyP ad T a b) : WyP ad T' a b := by induction w with
  | here h => exact .here (k a h)
  | go b c w h e ih => exact .go b c ih (k c h) e
theorem WyP.trans {a b c : Nat} (w : WyP ad T a b) (w' : WyP ad T b c) : WyP ad T a c := by induction w' with
  | here h => exact w
  | go c d w1 h e ih => exact .go c d ih h e
theorem WyP.turn (sy : ∀ u v, ad u v → ad v u) {a b : Nat} (w : WyP ad T a b) : WyP ad T b a := by induction w with
  | here h => exact .here h
  | go b c w h e ih => exact (WyP.go c b (.here h) w.last (sy _ _ e)).trans ih
/-- One that has at most one neighbour. -/
def LfP (ad : Nat → Nat → Prop) (T : Nat → Prop) (z : Nat) : Prop := ∀ p q, T p → T q → ad p z → ad q z → p = q
/-- A forest that is not empty has one with at most one neighbour. -/
theorem FoP.leaf (h : FoP ad T) {x : Nat} (hx : T x) : ∃ z, T z ∧ LfP ad T z := by
  apply Classical.byContradiction
  intro hn
  refine h T (fun v hv => hv) (fun v hv => ?_) x hx
  apply Classical.byContradiction
  intro hm
  refine hn ⟨v, hv, fun p q hp hq hpv hqv => ?_⟩
  apply Classical.byContradiction
  intro hpq
  exact hm ⟨p, q, hpq, hp, hq, hpv, hqv⟩
/-- A way that goes round one with at most one neighbour. -/
theorem way_round (ir : ∀ u, ¬ ad u u) (sy : ∀ u v, ad u v → ad v u) {S : Nat → Prop} (hS : ∀ v, S v → T v) {x : Nat} (lf : LfP ad T x) {a b : Nat} (w : WyP ad S a b) (ha : a ≠ x) : (b ≠ x → WyP ad (fun v => S v ∧ v ≠ x) a b) ∧ (b = x → ∃ y, S y ∧ ad y x ∧ WyP ad (fun v => S v ∧ v ≠ x) a y) := by
  induction w with
  | here h => exact ⟨fun hb => .here ⟨h, hb⟩, fun hb => absurd hb ha⟩
  | go b c w h e ih =>
    obtain ⟨i1, i2⟩ := ih
    refine ⟨fun hc => ?_, fun hc => ?_⟩
    · by_cases hb : b = x
      · obtain ⟨y, hy1, hy2, hy3⟩ := i2 hb
        have : y = c := lf y c (hS y hy1) (hS c h) hy2 (by rw [← hb]; exact sy _ _ e)
        rw [← this]; exact hy3
      · exact .go b c (i1 hb) ⟨h, hc⟩ e
    · have hb : b ≠ x := fun hb => ir x (by rw [hb, hc] at e; exact e)
      exact ⟨b, w.last, by rw [← hc]; exact e, i1 hb⟩
/-- In a forest no way leads from one neighbour of a vertex to another but through it. -/
theorem forest_apart (ir : ∀ u, ¬ ad u u) (sy : ∀ u v, ad u v → ad v u) {v : Nat} : ∀ (n : Nat) (S : Nat → Prop), (∃ l : List Nat, l.length ≤ n ∧ ∀ x, S x → x ∈ l) → FoP ad S → S v → ∀ a b, ad a v → ad b v → WyP ad (fun u => S u ∧ u ≠ v) a b → a = b
  | 0, S, ⟨l, hl, hm⟩, _, hv, a, b, _, _, _ => by
    have := hm v hv
    have : l = [] := List.eq_nil_of_length_eq_zero (by omega)
    subst this
    simp_all
  | n + 1, S, ⟨l, hl, hm⟩, hF, hv, a, b, hav, hbv, w => by
    apply Classical.byContradiction
    intro hab
    have ha := w.first
    have hb := w.last
    obtain ⟨x, hx, lf⟩ := hF.leaf hv
    have hxv : x ≠ v := fun e => by subst e; exact hab (lf a b ha.1 hb.1 hav hbv)
    have alone : ∀ c, S c → c ≠ v → ad c x → ad x v → False := fun c h1 h2 h3 h4 => h2 (lf c v h1 hv h3 (sy _ _ h4))
    have key : x ≠ a ∧ x ≠ b := by
      constructor
      · intro e
        subst e
        have := w.turn sy
        cases this with
        | here h => exact hab rfl
        | go y _ w' h e => exact alone y w'.last.1 w'.last.2 e hav
      · intro e
        subst e
        cases w with
        | here h => exact hab rfl
        | go y _ w' h e => exact alone y w'.last.1 w'.last.2 e hbv
    have w2 := (way_round (T := S) ir sy (S := fun u => S u ∧ u ≠ v) (fun u h => h.1) lf w (fun e => key.1 e.symm)).1 (fun e => key.2 e.symm)
    refine hab (forest_apart ir sy n (fun u => S u ∧ u ≠ x) ⟨l.erase x, ?_, fun u hu => ?_⟩ (hF.sub (fun u h => h.1)) ⟨hv, fun e => hxv e.symm⟩ a b hav hbv (w2.more (fun u h => ⟨⟨h.1.1, h.2⟩, h.1.2⟩)))
    · rw [List.length_erase_of_mem (hm x hx)]
      omega
    · exact (List.mem_erase_of_ne hu.2).2 (hm u hu.1)
/-- In a forest, one that has a neighbour is joined to another one that has at most one. -/
theorem forest_leaf (ir : ∀ u, ¬ ad u u) (sy : ∀ u v, ad u v → ad v u) : ∀ (n : Nat) (S : Nat → Prop), (∃ l : List Nat, l.length ≤ n ∧ ∀ x, S x → x ∈ l) → FoP ad S → ∀ x w, S x → S w → ad x w → ∃ y, y ≠ x ∧ WyP ad S x y ∧ LfP ad S y
  | 0, S, ⟨l, hl, hm⟩, _, x, w, hx, _, _ => by
    have := hm x hx
    have : l = [] := List.eq_nil_of_length_eq_zero (by omega)
    subst this
    simp_all
  | n + 1, S, ⟨l, hl, hm⟩, hF, x, w, hx, hw, hxw => by
    obtain ⟨z, hz, lf⟩ := hF.leaf hx
    have less : ∃ l' : List Nat, l'.length ≤ n ∧ ∀ u, (S u ∧ u ≠ z) → u ∈ l' := ⟨l.erase z, by rw [List.length_erase_of_mem (hm z hz)]; omega, fun u hu => (List.mem_erase_of_ne hu.2).2 (hm u hu.1)⟩
    have hF' : FoP ad (fun u => S u ∧ u ≠ z) := hF.sub (fun u h => h.1)
    have hwx : w ≠ x := fun e => ir x (by rw [e] at hxw; exact hxw)
    by_cases hzx : z = x
    · subst hzx
      by_cases hq : ∃ q, (S q ∧ q ≠ z) ∧ ad w q
      · obtain ⟨q, hq1, hq2⟩ := hq
        obtain ⟨y, hy1, hy2, hy3⟩ := forest_leaf ir sy n _ less hF' w q ⟨hw, hwx⟩ hq1 hq2
        have hyz := hy2.last.2
        have nz : ¬ ad z y := fun e => hy1 (lf y w hy2.last.1 hw (sy _ _ e) (sy _ _ hxw))
        refine ⟨y, hyz, (WyP.go z w (.here hz) hw hxw).trans (hy2.more (fun u h => h.1)), fun p q hp hq hpy hqy => ?_⟩
        exact hy3 p q ⟨hp, fun e => nz (by rw [← e]; exact hpy)⟩ ⟨hq, fun e => nz (by rw [← e]; exact hqy)⟩ hpy hqy
      · refine ⟨w, hwx, .go z w (.here hz) hw hxw, fun p q hp hq' hpw hqw => ?_⟩
        have h1 : p = z := Classical.byContradiction (fun e => hq ⟨p, ⟨hp, e⟩, sy _ _ hpw⟩)
        have h2 : q = z := Classical.byContradiction (fun e => hq ⟨q, ⟨hq', e⟩, sy _ _ hqw⟩)
        rw [h1, h2]
    · by_cases hwz : WyP ad S x z
      · exact ⟨z, hzx, hwz, lf⟩
      · have hwz' : w ≠ z := fun e => hwz (.go x z (.here hx) hz (by rw [← e]; exact hxw))
        obtain ⟨y, hy1, hy2, hy3⟩ := forest_leaf ir sy n _ less hF' x w ⟨hx, fun e => hzx e.symm⟩ ⟨hw, hwz'⟩ hxw
        have nz : ¬ ad z y := fun e => hwz (.go y z (hy2.more (fun u h => h.1)) hz (sy _ _ e))
        refine ⟨y, hy1, hy2.more (fun u h => h.1), fun p q hp hq hpy hqy => ?_⟩
        exact hy3 p q ⟨hp, fun e => nz (by rw [← e]; exact hpy)⟩ ⟨hq, fun e => nz (by rw [← e]; exact hqy)⟩ hpy hqy
/-- A vertex is put to a forest: it stays one just if no way leads from one neighbour to another. -/
theorem forest_add (ir : ∀ u, ¬ ad u u) (sy : ∀ u v, ad u v → ad v u) {n : Nat} {v : Nat} (fin : ∃ l : List Nat, ∀ x, T x → x ∈ l) (hF : FoP ad T) (hv : ¬ T v) : FoP ad (fun u => T u ∨ u = v) ↔ ∀ a b, ad a v → ad b v → WyP ad T a b → a = b := by
  obtain ⟨l, hm⟩ := fin
  constructor
  · intro h a b hav hbv w
    refine forest_apart (v := v) ir sy (v :: l).length (fun u => T u ∨ u = v) ⟨v :: l, Nat.le_refl _, fun x hx => ?_⟩ h (.inr rfl) a b hav hbv (w.more (fun u hu => ⟨.inl hu, fun e => hv (by rw [← e]; exact hu)⟩))
    rcases hx with hx | hx
    · exact List.mem_cons_of_mem _ (hm x hx)
    · rw [hx]; exact List.mem_cons_self
  · intro h S hS hc x hx
    have hvS : S v := Classical.byContradiction (fun hn => hF S (fun u hu => (hS u hu).elim id (fun e => absurd (by rw [← e]; exact hu) hn)) hc x hx)
    obtain ⟨a, b, hab, ha, hb, hav, hbv⟩ := hc v hvS
    have hF' : FoP ad (fun u => S u ∧ u ≠ v) := hF.sub (fun u hu => (hS u hu.1).elim id (fun e => absurd e hu.2))
    have ne : ∀ u, ad u v → u ≠ v := fun u e he => ir v (by rw [he] at e; exact e)
    have toT : ∀ u, (S u ∧ u ≠ v) → T u := fun u hu => (hS u hu.1).elim id (fun e => absurd e hu.2)
    obtain ⟨p, q, hpq, hp, hq, hpa, hqa⟩ := hc a ha
    have nb : ∃ c, (S c ∧ c ≠ v) ∧ ad a c := by
      by_cases e : p = v
      · exact ⟨q, ⟨hq, fun e2 => hpq (by rw [e, e2])⟩, sy _ _ hqa⟩
      · exact ⟨p, ⟨hp, e⟩, sy _ _ hpa⟩
    obtain ⟨c, hc1, hc2⟩ := nb
    obtain ⟨y, hy1, hy2, hy3⟩ := forest_leaf ir sy l.length (fun u => S u ∧ u ≠ v) ⟨l, Nat.le_refl _, fun u hu => hm u (toT u hu)⟩ hF' a c ⟨ha, ne a hav⟩ hc1 hc2
    have hyv : ad y v := by
      apply Classical.byContradiction
      intro hn
      obtain ⟨p, q, hpq, hp, hq, hpy, hqy⟩ := hc y hy2.last.1
      have e1 : p ≠ v := fun e => hn (sy _ _ (by rw [← e]; exact hpy))
      have e2 : q ≠ v := fun e => hn (sy _ _ (by rw [← e]; exact hqy))
      exact hpq (hy3 p q ⟨hp, e1⟩ ⟨hq, e2⟩ hpy hqy)
    exact hy1 (h a y hav hyv (hy2.more toT)).symm
end
end Go.Proofs.YtohamaiobhikiaaGreat

namespace Go.Proofs.YtohamaiobhikiaaGreat
open Go.RowKit Go.Deep
set_option linter.unusedVariables false

/-- The element of a thing with a colour. -/
def elN (v k : Nat) : Nat := v * 128 + k
/-- The elements of n things and n colours. -/
def elD (n : Nat) (x : Nat) : Prop := x / 128 < n ∧ x % 128 < n
theorem elN_div {v k : Nat} (hk : k < 128) : elN v k / 128 = v := by unfold elN; omega
theorem elN_mod {v k : Nat} (hk : k < 128) : elN v k % 128 = k := by unfold elN; omega
theorem elN_D {n v k : Nat} (hn : n ≤ 128) (hv : v < n) (hk : k < n) : elD n (elN v k) := by
  unfold elD
  rw [elN_div (by omega), elN_mod (by omega)]
  exact ⟨hv, hk⟩
theorem elN_of (x : Nat) : elN (x / 128) (x % 128) = x := by unfold elN; omega
/-- The things of two colours. -/
def TwC (cs : Nat → Int) (R : Nat) (c d : Int) (w : Nat) : Prop := w < R ∧ (cs w = c ∨ cs w = d)
theorem TwC.swap {cs : Nat → Int} {R : Nat} {c d : Int} {w : Nat} (h : TwC cs R c d w) : TwC cs R d c w := ⟨h.1, h.2.symm⟩
/-- Two elements that a way in their two colours joins. -/
def LkP (ad : Nat → Nat → Prop) (cs : Nat → Int) (R : Nat) (x y : Nat) : Prop :=
  x = y ∨ (WyP ad (TwC cs R (cs (x / 128)) ((x % 128 : Nat) : Int)) (x / 128) (y / 128) ∧ ((cs (y / 128) = cs (x / 128) ∧ y % 128 = x % 128) ∨ (cs (y / 128) = ((x % 128 : Nat) : Int) ∧ ((y % 128 : Nat) : Int) = cs (x / 128))))
section
variable {ad : Nat → Nat → Prop} {cs : Nat → Int} {R : Nat}
theorem LkP.turn (sy : ∀ u v, ad u v → ad v u) {x y : Nat} (h : LkP ad cs R x y) : LkP ad cs R y x := by
  rcases h with h | ⟨w, h⟩
  · exact .inl h.symm
  · refine .inr ⟨?_, ?_⟩
    · rcases h with ⟨h1, h2⟩ | ⟨h1, h2⟩
      · rw [h1, h2]; exact w.turn sy
      · rw [h1, h2]; exact (w.turn sy).more (fun v hv => hv.swap)
    · rcases h with ⟨h1, h2⟩ | ⟨h1, h2⟩
      · exact .inl ⟨h1.symm, h2.symm⟩
      · exact .inr ⟨h2.symm, h1.symm⟩
theorem LkP.trans {x y z : Nat} (h : LkP ad cs R x y) (k : LkP ad cs R y z) : LkP ad cs R x z := by
  rcases h with h | ⟨w, h⟩
  · rw [h]; exact k
  · rcases k with k | ⟨w2, k⟩
    · rw [← k]; exact .inr ⟨w, h⟩
    · refine .inr ⟨w.trans ?_, ?_⟩
      · rcases h with ⟨h1, h2⟩ | ⟨h1, h2⟩
        · rw [h1, h2] at w2; exact w2
        · rw [h1, h2] at w2; exact w2.more (fun v hv => hv.swap)
      · rcases h with ⟨h1, h2⟩ | ⟨h1, h2⟩
        · rcases k with ⟨k1, k2⟩ | ⟨k1, k2⟩
          · exact .inl ⟨k1.trans h1, k2.trans h2⟩
          · exact .inr ⟨by rw [k1, h2], by rw [k2, h1]⟩
        · rcases k with ⟨k1, k2⟩ | ⟨k1, k2⟩
          · exact .inr ⟨k1.trans h1, by rw [k2, h2]⟩
          · exact .inl ⟨by rw [k1, h2], by have : ((z % 128 : Nat) : Int) = ((x % 128 : Nat) : Int) := by rw [k2, h1]
                                           omega⟩
/-- An edge joins its two elements. -/
theorem LkP.edge {u v a b : Nat} (hu : u < R) (hv : v < R) (ea : cs v = (a : Int)) (eb : cs u = (b : Int)) (ha : a < 128) (hb : b < 128) (e : ad u v) : LkP ad cs R (elN u a) (elN v b) := by
  refine .inr ⟨?_, .inr ?_⟩
  · rw [elN_div ha, elN_mod ha, elN_div hb]
    exact .go u v (.here ⟨hu, .inl rfl⟩) ⟨hv, .inr ea⟩ e
  · rw [elN_div ha, elN_mod ha, elN_div hb, elN_mod hb]
    exact ⟨ea, eb.symm⟩
/-- What the sets tell when all edges of a list have been taken. -/
structure UfE (ad : Nat → Nat → Prop) (cs : Nat → Int) (R : Nat) (ro : Nat → Nat) (ed : Nat → Nat → Prop) : Prop where
  link : ∀ x, elD R x → LkP ad cs R x (ro x)
  edge : ∀ u v a b, ed u v → cs v = ((a : Nat) : Int) → cs u = ((b : Nat) : Int) → ro (elN u a) = ro (elN v b)
theorem UfE.none : UfE ad cs R (fun e => e) (fun _ _ => False) := ⟨fun x _ => .inl rfl, fun u v a b h => h.elim⟩
theorem UfE.more {ro : Nat → Nat} {ed ed' : Nat → Nat → Prop} (h : UfE ad cs R ro ed) (k : ∀ u v a b, ed' u v → cs v = ((a : Nat) : Int) → cs u = ((b : Nat) : Int) → ed u v) : UfE ad cs R ro ed' := ⟨h.link, fun u v a b e h1 h2 => h.edge u v a b (k u v a b e h1 h2) h1 h2⟩
/-- One edge more. -/
theorem UfE.step (sy : ∀ u v, ad u v → ad v u) {ro : Nat → Nat} {ed : Nat → Nat → Prop} (h : UfE ad cs R ro ed) {u v a b : Nat} (hR : R ≤ 128) (hu : u < R) (hv : v < R) (ea : cs v = (a : Int)) (eb : cs u = (b : Int)) (ha : a < R) (hb : b < R) (e : ad u v) :
    UfE ad cs R (fun x => if ro x = ro (elN u a) then ro (elN v b) else ro x) (fun x y => ed x y ∨ (x = u ∧ y = v)) := by
  refine ⟨fun x hx => ?_, fun p q a' b' hpq h1 h2 => ?_⟩
  · split
    · rename_i c
      have k1 := h.link x hx
      rw [c] at k1
      have k2 := h.link (elN u a) (elN_D hR hu ha)
      have k3 := LkP.edge (R := R) hu hv ea eb (by omega) (by omega) e
      have k4 := h.link (elN v b) (elN_D hR hv hb)
      exact ((k1.trans (k2.turn sy)).trans k3).trans k4
    · exact h.link x hx
  · rcases hpq with hpq | ⟨rfl, rfl⟩
    · rw [h.edge p q a' b' hpq h1 h2]
    · have e1 : a' = a := by omega
      have e2 : b' = b := by omega
      subst e1 e2
      simp only [if_true]
      split <;> rfl
/-- Elements of one colour are joined just if a way in two colours leads from one thing to the other. -/
theorem UfE.iff (sy : ∀ u v, ad u v → ad v u) {ro : Nat → Nat} {ed : Nat → Nat → Prop} (h : UfE ad cs R ro ed) (hed : ∀ u v, ad u v → 0 ≤ cs u → 0 ≤ cs v → ed u v ∨ ed v u) (hpr : ∀ u v, ad u v → 0 ≤ cs u → cs u ≠ cs v) (hR : R ≤ 128) {u1 u2 k c : Nat} (h1 : u1 < R) (h2 : u2 < R) (e1 : cs u1 = (c : Int)) (hc : c < R) (hk : k < R) (n1 : c ≠ k) (n2 : cs u2 ≠ (k : Int)) :
    ro (elN u1 k) = ro (elN u2 k) ↔ (cs u2 = (c : Int) ∧ WyP ad (TwC cs R (c : Int) (k : Int)) u1 u2) := by
  constructor
  · intro e
    have k1 := h.link (elN u1 k) (elN_D hR h1 hk)
    rw [e] at k1
    have k2 := k1.trans ((h.link (elN u2 k) (elN_D hR h2 hk)).turn sy)
    rcases k2 with k2 | ⟨w, k2⟩
    · have : u1 = u2 := by unfold elN at k2; omega
      subst this
      exact ⟨e1, .here ⟨h1, .inl e1⟩⟩
    · rw [elN_div (by omega), elN_mod (by omega), elN_div (by omega)] at w k2
      rw [elN_mod (by omega)] at k2
      rw [e1] at w k2
      rcases k2 with ⟨k2, _⟩ | ⟨k2, _⟩
      · exact ⟨k2, w⟩
      · exact absurd k2 n2
  · rintro ⟨e2, w⟩
    have key : ∀ z, WyP ad (TwC cs R (c : Int) (k : Int)) u1 z → (cs z = (c : Int) → ro (elN u1 k) = ro (elN z k)) ∧ (cs z = (k : Int) → ro (elN u1 k) = ro (elN z c)) := by
      intro z w
      induction w with
      | here h => exact ⟨fun _ => rfl, fun e => by rw [e1] at e; omega⟩
      | go b d w hd e ih =>
        have hb := w.last
        have hbd := hpr b d e (by rcases hb.2 with x | x <;> omega)
        have hedge : ∀ a' b' : Nat, cs d = (a' : Int) → cs b = (b' : Int) → ro (elN b a') = ro (elN d b') := fun a' b' x y => by
          rcases hed b d e (by omega) (by omega) with q | q
          · exact h.edge b d a' b' q x y
          · exact (h.edge d b b' a' q y x).symm
        refine ⟨fun x => ?_, fun x => ?_⟩
        · have hb' : cs b = (k : Int) := hb.2.elim (fun y => absurd (y.trans x.symm) hbd) id
          rw [ih.2 hb', hedge c k x hb']
        · have hb' : cs b = (c : Int) := hb.2.elim id (fun y => absurd (y.trans x.symm) hbd)
          rw [ih.1 hb', hedge k c x hb']
    exact (key u2 w).1 e2
end
end Go.Proofs.YtohamaiobhikiaaGreat

namespace Go.Proofs.YtohamaiobhikiaaGreat
open Go.RowKit Go.Deep
set_option linter.unusedVariables false

theorem Tryz.info_u32 : (Tryz.prog.info? 101).map (fun i => (i.zero, i.size, i.bytes)) = some (some (.int .u32 0), 1, 4) := by kernel_rfl

theorem rt_step {wr w : World} {k j : Nat} {xs : List Nat} (hf : Fn wr w.heap.size 0 k (fun i => if i < j then xs.getD i 0 else 0)) (hlt : j < k) (hb : Below w.heap.size w wr) :
    Fn (wr.setCell ⟨w.heap.size, j, none⟩ (.int .u32 (xs.getD j 0 : Nat))) w.heap.size 0 k (fun i => if i < j + 1 then xs.getD i 0 else 0) ∧ Below w.heap.size w (wr.setCell ⟨w.heap.size, j, none⟩ (.int .u32 (xs.getD j 0 : Nat))) := by
  refine ⟨?_, hb.setCell (Nat.le_refl _) _⟩
  have h := hf.set j (xs.getD j 0) hlt
  simp only [Nat.zero_add] at h
  intro i hi
  have := h i hi
  refine ⟨?_, this.2⟩
  rw [this.1]
  by_cases e : i = j
  · simp [e]
  · by_cases e2 : i < j
    · simp [e, e2, show i < j + 1 from by omega]
    · simp [e, e2, show ¬ i < j + 1 from by omega]

theorem rt_end {wr w : World} {k j : Nat} {xs : List Nat} (hf : Fn wr w.heap.size 0 k (fun i => if i < j then xs.getD i 0 else 0)) (hj : j = k) (hk : k ≤ xs.length) :
    Cells wr w.heap.size 0 (xs.take k) := by
  have hlen : (xs.take k).length = k := by simp [Nat.min_eq_left hk]
  refine hf.cells (by omega) (fun i hi => ?_)
  rw [hlen] at hi
  simp [hj, hi, List.getD]

theorem make_0 (w : World) : (Instr.makeSlice 100 (.int .i64 0) (.int .i64 0)).run Tryz.prog w = .ok (.slice (some ⟨w.heap.size, 0, none⟩) 0 0) (w.alloc (.cells (madeCells #[.int .u32 0] 0) 101)) :=
  run_make_row' (P := Tryz.prog) 100 101 (.int .u32 0) 4 Tryz.underlying100 Tryz.info_u32 rfl .i64 .i64 0 (by omega) (by omega) w

/-- The block at which a slice lies is new. -/
def NewAt (B : Nat) (a : Option Addr) : Prop := ∀ x, a = some x → B ≤ x.block

set_option maxHeartbeats 800000 in
theorem sameNat_some (b1 o1 b2 o2 : Nat) (n c1 c2 : Nat) (xs ys : List Nat) (w : World) (hn : n ≤ maxLen) (hx : xs.length = n) (hy : ys.length = n)
   (h1 : Cells w b1 o1 xs) (h2 : Cells w b2 o2 ys) :
    Calls Tryz.prog 20 #[.slice (some ⟨b1, o1, none⟩) n c1, .slice (some ⟨b2, o2, none⟩) n c2] w fun e w' => e = .returned (.bool (decide (xs = ys))) ∧ ∃ k, w' = w.drewN k := by
  unfold maxLen at hn
  go_enter Tryz.func20, Tryz.ntmps20
  go_wp2
  go_loopw [5] (fun i wr => ∃ k : Nat, k ≤ n ∧ i = .int .i64 k ∧ (∀ j, j < k → xs.getD j 0 = ys.getD j 0) ∧ ∃ d, wr = w.drewN d) (fun i _ => n - (intOf i).toNat)
  case atStart => exact ⟨0, Nat.zero_le _, rfl, fun j hj => absurd hj (Nat.not_lt_zero _), 0, rfl⟩
  case round =>
    obtain ⟨k, hk, rfl, ht, d, rfl⟩ := hrel
    by_cases hlt : k < n
    · have hlt' : (k:Int) < (n:Int) := by omega
      have g1 := h1 k (by omega)
      have g2 := h2 k (by omega)
      by_cases he : xs.getD k 0 = ys.getD k 0
      · have HE := hide he
        have hb : (((xs.getD k 0 : Nat) : Int) != ((ys.getD k 0 : Nat) : Int)) = false := by rw [he]; simp
        generalize ((xs.getD k 0 : Nat) : Int) = u at g1 hb
        generalize ((ys.getD k 0 : Nat) : Int) = v at g2 hb
        clear he h1 h2
        go_wp2_with fail
        go_quiet (fail)
        go_wp2
        refine ⟨⟨k + 1, by omega, by go_num, fun j hj => ?_, _, rfl⟩, by simp [intOf]; omega⟩
        by_cases e : j = k
        · rw [e]; exact unhide HE
        · exact ht j (by omega)
      · have hb : (((xs.getD k 0 : Nat) : Int) != ((ys.getD k 0 : Nat) : Int)) = true := by rw [bne_iff_ne]; omega
        have HE := hide he
        generalize ((xs.getD k 0 : Nat) : Int) = u at g1 hb
        generalize ((ys.getD k 0 : Nat) : Int) = v at g2 hb
        clear he h1 h2
        go_wp2_with fail
        go_quiet (fail)
        go_wp2
        go_ret
        refine ⟨?_, _, drewN_add _ _ _⟩
        have : ¬ xs = ys := fun e => unhide HE (by rw [e])
        simp [this]
    · have hk' : k = n := by omega
      have : xs = ys := by
        apply List.ext_getElem (by omega)
        intro i a1 a2
        have := ht i (by omega)
        simpa [List.getD, a1, a2] using this
      have HE := hide this
      clear this hk'
      go_wp2
      go_ret
      exact ⟨by simp [unhide HE], _, rfl⟩

set_option maxHeartbeats 400000 in
theorem sameNat_len (a1 a2 : Option Addr) (n1 n2 c1 c2 : Nat) (w : World) (hn : ((n1:Int) != (n2:Int)) = true) :
    Calls Tryz.prog 20 #[.slice a1 n1 c1, .slice a2 n2 c2] w fun e w' => e = .returned (.bool false) ∧ w' = w := by
  go_enter Tryz.func20, Tryz.ntmps20
  go_wp2
  go_ret
  exact ⟨rfl, rfl⟩

set_option maxHeartbeats 400000 in
theorem sameNat_nil (a1 a2 : Option Addr) (c1 c2 : Nat) (w : World) :
    Calls Tryz.prog 20 #[.slice a1 0 c1, .slice a2 0 c2] w fun e w' => e = .returned (.bool true) ∧ w' = w := by
  go_enter Tryz.func20, Tryz.ntmps20
  go_wp2
  go_loop [5] (fun i => i = .int .i64 0) (fun i => (intOf i).toNat)
  case atStart => rfl
  case round =>
    subst hrel
    go_wp2
    go_ret
    exact ⟨rfl, rfl⟩

/-- slopeplain.SameNat. -/
theorem sameNat_any (a1 a2 : Option Addr) (n1 c1 n2 c2 : Nat) (xs ys : List Nat) (w : World) (h1 : Sl w a1 n1 c1 xs) (h2 : Sl w a2 n2 c2 ys) :
    Calls Tryz.prog 20 #[.slice a1 n1 c1, .slice a2 n2 c2] w fun e w' => e = .returned (.bool (decide (xs = ys))) ∧ ∃ k, w' = w.drewN k := by
  have l1 := h1.len
  have l2 := h2.len
  by_cases e : n1 = n2
  · subst e
    by_cases z : n1 = 0
    · subst z
      have e1 : xs = [] := List.eq_nil_of_length_eq_zero l1
      have e2 : ys = [] := List.eq_nil_of_length_eq_zero l2
      subst e1 e2
      refine (sameNat_nil a1 a2 c1 c2 w).mono ?_
      rintro e w' ⟨rfl, rfl⟩
      exact ⟨rfl, 0, rfl⟩
    · rcases h1.cells with e1 | ⟨b1, o1, rfl, k1⟩
      · subst e1; simp at l1; omega
      · rcases h2.cells with e2 | ⟨b2, o2, rfl, k2⟩
        · subst e2; simp at l2; omega
        · exact sameNat_some b1 o1 b2 o2 n1 c1 c2 xs ys w (Nat.le_trans h1.le h1.cap) l1 l2 k1 k2
  · refine (sameNat_len a1 a2 n1 n2 c1 c2 w (by rw [bne_iff_ne]; omega)).mono ?_
    rintro e w' ⟨rfl, rfl⟩
    have : ¬ xs = ys := fun h => e (by rw [← l1, ← l2, h])
    exact ⟨by simp [this], 0, rfl⟩

end Go.Proofs.YtohamaiobhikiaaGreat

namespace Go.Proofs.YtohamaiobhikiaaGreat
open Go.RowKit Go.Deep
set_option linter.unusedVariables false

def vals (xs : List Nat) : List Value := xs.map (fun x => Value.int .u32 (x : Nat))

theorem cell_of_block {w : World} {b : Nat} {cur : Array Value} {e : TypeId} {fr : Nat × Nat} (h : w.heap[b]? = some (.cells cur e fr)) (i : Nat) : w.cell? ⟨b, i, none⟩ = cur[i]? := by
  simp [World.cell?, h]

theorem frozen_of_block {w : World} {b : Nat} {cur : Array Value} {e : TypeId} (h : w.heap[b]? = some (.cells cur e)) (i : Nat) : w.frozen? ⟨b, i, none⟩ = false := by
  simp [World.frozen?, h]

theorem set_block {w : World} {b : Nat} {cur : Array Value} {e : TypeId} {fr : Nat × Nat} (h : w.heap[b]? = some (.cells cur e fr)) (i : Nat) (v : Value) : (w.setCell ⟨b, i, none⟩ v).heap[b]? = some (.cells (cur.setIfInBounds i v) e fr) := by
  simp only [World.setCell, Array.getElem?_modify, h]
  simp

theorem set_block_other {w : World} {b k i : Nat} (hk : k ≠ b) (v : Value) : (w.setCell ⟨b, i, none⟩ v).heap[k]? = w.heap[k]? :=
  Below.heap_setCell w _ v k hk

theorem alloc_block (w : World) (o : Obj) : (w.alloc o).heap[w.heap.size]? = some o := by
  show (w.heap.push o)[w.heap.size]? = some o
  simp

theorem cells_of_block {w : World} {b off : Nat} {cur : Array Value} {e : TypeId} {fr : Nat × Nat} {xs : List Nat} (h : w.heap[b]? = some (.cells cur e fr)) (ht : ∀ i, i < xs.length → cur[off + i]? = some (.int .u32 (xs.getD i 0 : Nat))) : Cells w b off xs := by
  intro i hi
  rw [cell_of_block h]; exact ht i hi

theorem vals_get {xs : List Nat} {i : Nat} (h : i < xs.length) : (vals xs)[i]? = some (.int .u32 (xs.getD i 0 : Nat)) := by
  simp [vals, h]

theorem take_vals {cur : Array Value} {n : Nat} {xs : List Nat} (hl : xs.length = n) (h : cur.toList.take n = vals xs) : ∀ i, i < xs.length → cur[i]? = some (.int .u32 (xs.getD i 0 : Nat)) := by
  intro i hi
  have := vals_get hi
  rw [← h] at this
  simpa [List.getElem?_take, show i < n from by omega] using this

theorem make_n3 (n : Nat) (hn : n ≤ 70368744177600) (w : World) : (Instr.makeSlice 71 (.int .i64 (n : Int)) (.int .i64 ((n : Int) + 3))).run Tryz.prog w = .ok (.slice (some ⟨w.heap.size, 0, none⟩) n (n + 3)) (w.alloc (.cells (madeCells #[.int .u32 0] (n + 3)) 101)) := by
  obtain ⟨i, hi, hzz⟩ := Option.map_eq_some_iff.1 Tryz.info_u32
  simp only [Prod.mk.injEq] at hzz
  obtain ⟨hz, hs, hb⟩ := hzz
  have hr := run_make (P := Tryz.prog) w 71 101 i (.int .u32 0) Tryz.underlying71 hi hz .i64 .i64 n ((n : Int) + 3) (by omega) (by omega) (by rw [hb]; omega) (by omega)
  rw [hs, Nat.mul_one, show ((n : Int) + 3).toNat = n + 3 from by omega, show ((n : Int)).toNat = n from by omega] at hr
  exact hr

theorem copy_step {wr w : World} {n k : Nat} {cur : Array Value} {xs : List Nat} (hblk : wr.heap[w.heap.size]? = some (.cells cur 101)) (hsz : cur.size = n + 3) (hk : k < n)
    (hpre : ∀ i, i < k → cur[i]? = some (.int .u32 (xs.getD i 0 : Nat))) :
    ∃ cur', (wr.setCell ⟨w.heap.size, k, none⟩ (.int .u32 (xs.getD k 0 : Nat))).heap[w.heap.size]? = some (.cells cur' 101) ∧ cur'.size = n + 3 ∧ ∀ i, i < k + 1 → cur'[i]? = some (.int .u32 (xs.getD i 0 : Nat)) := by
  refine ⟨_, set_block hblk k _, by simp [hsz], ?_⟩
  intro i hi
  by_cases e : i = k
  · subst e; simp [show i < cur.size from by omega]
  · rw [Array.getElem?_setIfInBounds_ne (by omega)]; exact hpre i (by omega)

end Go.Proofs.YtohamaiobhikiaaGreat
