/- Cw5 -/
import Derived.Test.YtgjokididdffhaaGreatCk3
import Derived.Test.YtgjokididdffhaaGreatCw4
import Derived.Test.YtgjokididdffhaaGreatCh8
namespace Go.Proofs.YtgjokididdffhaaGreat
open Go.RowKit Go.Deep
set_option linter.unusedVariables false
theorem PnX.ex {RT : (Nat → Int) → Nat → Prop} {xs : List Int} {m : Nat} {P : Nat → (Nat → Int) → Prop} (h : PnX RT xs m P) (ho : OrdTo xs m m) : ∀ k, k ≤ m → ∃ cs z, P k cs ∧ NmI cs m z
  | 0, _ => ⟨_, 0, h.zero, NmI.none⟩
  | k + 1, hk => by
    obtain ⟨cs, z, h1, h2⟩ := PnX.ex h ho k (by omega)
    obtain ⟨y, _, _, _, h3⟩ := h.next k cs (by omega) h1
    exact ⟨_, _, h3, h2.upd (by have := ho.rng k (by omega); omega) (h.fresh k cs (by omega) h1)⟩
theorem NumC.one {cs : List Int} {z y : Int} (h : NumC cs z) (g : NumC cs y) : z = y := by
  have := MaxTo.one h g
  omega
section
variable {k : Int} {R width n1 n2 n m : Nat} {st cols xs S C : List Int} {Q : Nat → Bool} {G G1 G3 : Nat} {wd : Bool}
end
def Pr1 (ad : Nat → Nat → Prop) (cs : Nat → Int) (u v : Nat) : Prop := ad u v ∧ u < v ∧ cs u = cs v
def PrO (ad : Nat → Nat → Prop) (cs : Nat → Int) : Option (Nat × Nat) → Prop
  | none => ∀ u v, ¬ Pr1 ad cs u v
  | some (u, v) => Pr1 ad cs u v ∧ ∀ u' v', (u' < u ∨ (u' = u ∧ v' < v)) → ¬ Pr1 ad cs u' v'
theorem least_two (P : Nat → Nat → Prop) : (∀ u v, ¬ P u v) ∨ ∃ u v, P u v ∧ ∀ u' v', (u' < u ∨ (u' = u ∧ v' < v)) → ¬ P u' v' := by
  by_cases h : ∀ u v, ¬ P u v
  · exact .inl h
  · right
    have h1 : ∃ u, ∃ v, P u v := by
      apply Classical.byContradiction
      intro hn
      exact h (fun u v hp => hn ⟨u, v, hp⟩)
    obtain ⟨k, hk⟩ := h1
    obtain ⟨u, _, hu, hlu⟩ := least_ex (B := fun u => ¬ ∃ v, P u v) (k := k) (fun hb => hb hk)
    have hu' : ∃ v, P u v := Classical.byContradiction hu
    obtain ⟨k2, hk2⟩ := hu'
    obtain ⟨v, _, hv, hlv⟩ := least_ex (B := fun v => ¬ P u v) (k := k2) (fun hb => hb hk2)
    refine ⟨u, v, Classical.byContradiction hv, fun u' v' hc hp => ?_⟩
    rcases hc with hc | ⟨rfl, hc⟩
    · exact hlu u' hc ⟨v', hp⟩
    · exact hlv v' hc hp
theorem PrO.ex (ad : Nat → Nat → Prop) (cs : Nat → Int) : ∃ o, PrO ad cs o := by
  rcases least_two (Pr1 ad cs) with h | ⟨u, v, h1, h2⟩
  · exact ⟨none, h⟩
  · exact ⟨some (u, v), h1, h2⟩
theorem PrO.at {ad : Nat → Nat → Prop} {cs : Nat → Int} {o : Option (Nat × Nat)} (h : PrO ad cs o) {u v : Nat} (h1 : Pr1 ad cs u v) (h2 : ∀ u' v', (u' < u ∨ (u' = u ∧ v' < v)) → ¬ Pr1 ad cs u' v') : o = some (u, v) := by
  cases o with
  | none => exact absurd h1 (h u v)
  | some p =>
    obtain ⟨a, b⟩ := p
    have e1 : ¬ (a < u ∨ (a = u ∧ b < v)) := fun c => h2 a b c h.1
    have e2 : ¬ (u < a ∨ (u = a ∧ v < b)) := fun c => h.2 u v c h1
    have : a = u ∧ b = v := by omega
    rw [this.1, this.2]
theorem PrO.no {ad : Nat → Nat → Prop} {cs : Nat → Int} {o : Option (Nat × Nat)} (h : PrO ad cs o) (k : ∀ u v, ¬ Pr1 ad cs u v) : o = none := by
  cases o with
  | none => rfl
  | some p => exact absurd h.1 (k _ _)
def NPr (P : Nat → Nat → Prop) (S C : List Int) (u i : Nat) : Prop := ∀ u' v' : Nat, (u' < u ∨ (u' = u ∧ ∃ j, j < i ∧ (rowL S C u).getD j 0 = (v' : Int))) → ¬ P u' v'
theorem NPr.first (P : Nat → Nat → Prop) (S C : List Int) : NPr P S C 0 0 := fun u' v' h => by
  rcases h with h | ⟨_, j, hj, _⟩
  · omega
  · omega
theorem NPr.next {P : Nat → Nat → Prop} {S C : List Int} {u i v : Nat} (h : NPr P S C u i) (hv : (rowL S C u).getD i 0 = (v : Int)) (k : ¬ P u v) : NPr P S C u (i + 1) := fun u' v' hc => by
  rcases hc with hc | ⟨rfl, j, hj, hc⟩
  · exact h u' v' (.inl hc)
  · by_cases e : j = i
    · subst e
      have : v' = v := by omega
      subst this
      exact k
    · exact h u' v' (.inr ⟨rfl, j, by omega, hc⟩)
theorem NPr.row {P : Nat → Nat → Prop} {S C : List Int} {m u : Nat} (hm : MayP (m : Int) (m : Int) S C) (hu : u < m) (had : ∀ v, P u v → adG S C m u v) (h : NPr P S C u (rowL S C u).length) : NPr P S C (u + 1) 0 := fun u' v' hc hp => by
  rcases hc with hc | ⟨_, j, hj, _⟩
  · by_cases e : u' = u
    · subst e
      obtain ⟨j, hj, e⟩ := mem_getD.1 ((ad_row hm hu).1 (had v' hp))
      exact h u' v' (.inr ⟨rfl, j, hj, e⟩) hp
    · exact h u' v' (.inl (by omega)) hp
  · omega
theorem NPr.all {P : Nat → Nat → Prop} {S C : List Int} {m : Nat} (hlt : ∀ u v, P u v → u < m) (h : NPr P S C m 0) : ∀ u v, ¬ P u v := fun u v hp => h u v (.inl (hlt u v hp)) hp
def Lk1 (cs : Nat → Int) (a b d : Nat) : Prop := a < d ∧ d ≠ b ∧ cs d = cs b
def Pa4 (ad : Nat → Nat → Prop) (cs : Nat → Int) (a b c d : Nat) : Prop := ad a b ∧ ad b c ∧ c ≠ a ∧ cs c = cs a ∧ ad c d ∧ Lk1 cs a b d
def Lx4 (a' b' c' d' a b c d : Nat) : Prop := a' < a ∨ (a' = a ∧ (b' < b ∨ (b' = b ∧ (c' < c ∨ (c' = c ∧ d' < d)))))
def PaO (ad : Nat → Nat → Prop) (cs : Nat → Int) : Option (Nat × Nat × Nat × Nat) → Prop
  | none => ∀ a b c d, ¬ Pa4 ad cs a b c d
  | some (a, b, c, d) => Pa4 ad cs a b c d ∧ ∀ a' b' c' d', Lx4 a' b' c' d' a b c d → ¬ Pa4 ad cs a' b' c' d'
theorem PaO.ex (ad : Nat → Nat → Prop) (cs : Nat → Int) : ∃ o, PaO ad cs o := by
  rcases least_two (fun a b => ∃ c d, Pa4 ad cs a b c d) with h | ⟨a, b, h1, h2⟩
  · exact ⟨none, fun a b c d k => h a b ⟨c, d, k⟩⟩
  · rcases least_two (fun c d => Pa4 ad cs a b c d) with h | ⟨c, d, h3, h4⟩
    · obtain ⟨c, d, k⟩ := h1
      exact absurd k (h c d)
    · refine ⟨some (a, b, c, d), h3, fun a' b' c' d' hl k => ?_⟩
      rcases hl with hl | ⟨rfl, hl | ⟨rfl, hl⟩⟩
      · exact h2 a' b' (.inl hl) ⟨c', d', k⟩
      · exact h2 a' b' (.inr ⟨rfl, hl⟩) ⟨c', d', k⟩
      · exact h4 c' d' hl k
theorem PaO.at {ad : Nat → Nat → Prop} {cs : Nat → Int} {o : Option (Nat × Nat × Nat × Nat)} (h : PaO ad cs o) {a b c d : Nat} (h1 : Pa4 ad cs a b c d) (h2 : ∀ a' b' c' d', Lx4 a' b' c' d' a b c d → ¬ Pa4 ad cs a' b' c' d') : o = some (a, b, c, d) := by
  cases o with
  | none => exact absurd h1 (h a b c d)
  | some p =>
    obtain ⟨a', b', c', d'⟩ := p
    have e1 : ¬ Lx4 a' b' c' d' a b c d := fun k => h2 a' b' c' d' k h.1
    have e2 : ¬ Lx4 a b c d a' b' c' d' := fun k => h.2 a b c d k h1
    unfold Lx4 at e1 e2
    have : a' = a ∧ b' = b ∧ c' = c ∧ d' = d := by omega
    rw [this.1, this.2.1, this.2.2.1, this.2.2.2]
theorem PaO.no {ad : Nat → Nat → Prop} {cs : Nat → Int} {o : Option (Nat × Nat × Nat × Nat)} (h : PaO ad cs o) (k : ∀ a b c d, ¬ Pa4 ad cs a b c d) : o = none := by
  cases o with
  | none => rfl
  | some p => exact absurd h.1 (k _ _ _ _)
def NPc (ad : Nat → Nat → Prop) (cs : Nat → Int) (S C : List Int) (a b i : Nat) : Prop := ∀ c d j : Nat, j < i → (rowL S C b).getD j 0 = (c : Int) → ¬ Pa4 ad cs a b c d
theorem NPc.next {ad : Nat → Nat → Prop} {cs : Nat → Int} {S C : List Int} {a b i c : Nat} (h : NPc ad cs S C a b i) (hc : (rowL S C b).getD i 0 = (c : Int)) (k : ∀ d, ¬ Pa4 ad cs a b c d) : NPc ad cs S C a b (i + 1) := fun c' d j hj e => by
  by_cases ej : j = i
  · subst ej
    have : c' = c := by omega
    subst this
    exact k d
  · exact h c' d j (by omega) e
theorem rowL_up2 {st cols : List Int} {R v : Nat} (hm : MayP (R : Int) (R : Int) st cols) (hv : v < R) : ∀ i j, i < j → j < (rowL st cols v).length → (rowL st cols v).getD i 0 < (rowL st cols v).getD j 0 := by
  obtain ⟨X, Y, hR⟩ := hm.rowAt (k := v) (by omega)
  have e : rowL st cols v = (cols.drop X).take (Y - X) := by unfold rowL; rw [hR.hX, hR.hY]; simp
  have hg : ∀ i, i < (rowL st cols v).length → (rowL st cols v).getD i 0 = cols.getD (X + i) 0 ∧ X + i < Y := by
    intro i hi
    have hi2 : i < (rowL st cols v).length := hi
    rw [e, List.length_take, List.length_drop] at hi2
    refine ⟨?_, by omega⟩
    simp only [List.getD, e]
    rw [List.getElem?_take_of_lt (by omega), List.getElem?_drop]
  have hup : ∀ k i, X + i + k + 1 < Y → cols.getD (X + i) 0 < cols.getD (X + i + k + 1) 0 := by
    intro k
    induction k with
    | zero => intro i hi; exact hR.row.up (X + i + 0 + 1) (by omega) hi
    | succ k ih =>
      intro i hi
      have h1 := ih i (by omega)
      have h2 := hR.row.up (X + i + (k + 1) + 1) (by omega) hi
      have e : X + i + (k + 1) + 1 - 1 = X + i + k + 1 := by omega
      rw [e] at h2
      omega
  intro i j hij hj
  rw [(hg i (by omega)).1, (hg j hj).1]
  have := hup (j - i - 1) i (by have := (hg j hj).2; omega)
  have e : X + i + (j - i - 1) + 1 = X + j := by omega
  rw [e] at this
  omega
section
variable {ad0 ad1 : Nat → Nat → Prop}
theorem FoP.less {T : Nat → Prop} (h : FoP ad1 T) (sub : ∀ a b, T a → T b → ad0 a b → ad1 a b) : FoP ad0 T := fun S hS hc => h S hS (fun v hv => by
  obtain ⟨p, q, h1, h2, h3, h4, h5⟩ := hc v hv
  exact ⟨p, q, h1, h2, h3, sub p v (hS p h2) (hS v hv) h4, sub q v (hS q h3) (hS v hv) h5⟩)
theorem edge_apart (sy0 : ∀ a b, ad0 a b → ad0 b a) (sy1 : ∀ a b, ad1 a b → ad1 b a) (ir1 : ∀ a, ¬ ad1 a a) (sub : ∀ a b, ad0 a b → ad1 a b) : ∀ (n : Nat) (S : Nat → Prop), (∃ l : List Nat, l.length ≤ n ∧ ∀ x, S x → x ∈ l) → FoP ad1 S → ∀ u v, u ≠ v → ad1 u v → ¬ ad0 u v → WyP ad0 S u v → False
  | 0, S, ⟨l, hl, hm⟩, _, u, v, _, _, _, w => by
    have := hm u w.first
    have : l = [] := List.eq_nil_of_length_eq_zero (by omega)
    subst this
    simp_all
  | n + 1, S, ⟨l, hl, hm⟩, hF, u, v, huv, e1, e0, w => by
    obtain ⟨z, hz, lf⟩ := hF.leaf w.first
    by_cases hzu : z = u
    · subst hzu
      have w2 := w.turn sy0
      have hv := w.last
      cases w2 with
      | here h => exact huv rfl
      | go b _ w3 h e =>
        have : b = v := lf b v w3.last hv (sub _ _ e) (sy1 _ _ e1)
        subst this
        exact e0 (sy0 _ _ e)
    · by_cases hzv : z = v
      · subst hzv
        have hu := w.first
        cases w with
        | here h => exact huv rfl
        | go b _ w3 h e =>
          have : b = u := lf b u w3.last hu (sub _ _ e) e1
          subst this
          exact e0 e
      · have lf0 : LfP ad0 S z := fun p q hp hq h1 h2 => lf p q hp hq (sub _ _ h1) (sub _ _ h2)
        have w2 := (way_round (ad := ad0) (T := S) (S := S) (fun a h => ir1 a (sub _ _ h)) sy0 (fun v h => h) lf0 w (fun e => hzu e.symm)).1 (fun e => hzv e.symm)
        exact edge_apart sy0 sy1 ir1 sub n (fun x => S x ∧ x ≠ z) ⟨l.erase z, by rw [List.length_erase_of_mem (hm z hz)]; omega, fun x hx => (List.mem_erase_of_ne hx.2).2 (hm x hx.1)⟩ (hF.sub (fun x h => h.1)) u v huv e1 e0 w2
theorem edge_add (sy0 : ∀ a b, ad0 a b → ad0 b a) (ir0 : ∀ a, ¬ ad0 a a) {u v : Nat} (huv : u ≠ v) (h1 : ∀ a b, ad1 a b → ad0 a b ∨ (a = u ∧ b = v) ∨ (a = v ∧ b = u)) {T : Nat → Prop} (fin : ∃ l : List Nat, ∀ x, T x → x ∈ l) (hF : FoP ad0 T) (hw : ¬ WyP ad0 T u v) : FoP ad1 T := by
  intro S hS hc x hx
  by_cases hb : S u ∧ S v
  · obtain ⟨hu, hv⟩ := hb
    obtain ⟨p, q, hpq, hp, hq, ep, eq⟩ := hc u hu
    have key : ∀ t, t ≠ v → ad1 t u → ad0 u t := fun t ht e => by
      rcases h1 t u e with e | ⟨_, e⟩ | ⟨e, _⟩
      · exact sy0 _ _ e
      · exact absurd e huv
      · exact absurd e ht
    have nb : ∃ t, S t ∧ ad0 u t := by
      by_cases c : p = v
      · exact ⟨q, hq, key q (fun e => hpq (by rw [c, e])) eq⟩
      · exact ⟨p, hp, key p c ep⟩
    obtain ⟨t, ht, et⟩ := nb
    obtain ⟨l, hl⟩ := fin
    obtain ⟨y, hy1, hy2, hy3⟩ := forest_leaf ir0 sy0 l.length S ⟨l, Nat.le_refl _, fun x hx => hl x (hS x hx)⟩ (hF.sub hS) u t hu ht et
    by_cases hyv : y = v
    · subst hyv
      exact hw (hy2.more hS)
    · obtain ⟨p, q, hpq, hp, hq, ep, eq⟩ := hc y hy2.last
      have k2 : ∀ t, ad1 t y → ad0 t y := fun t e => by
        rcases h1 t y e with e | ⟨_, e⟩ | ⟨_, e⟩
        · exact e
        · exact absurd e hyv
        · exact absurd e hy1
      exact hpq (hy3 p q hp hq (k2 p ep) (k2 q eq))
  · refine hF S hS (fun w hw' => ?_) x hx
    obtain ⟨p, q, hpq, hp, hq, ep, eq⟩ := hc w hw'
    have k2 : ∀ t, S t → ad1 t w → ad0 t w := fun t ht e => by
      rcases h1 t w e with e | ⟨e1, e2⟩ | ⟨e1, e2⟩
      · exact e
      · exact absurd ⟨e1 ▸ ht, e2 ▸ hw'⟩ hb
      · exact absurd ⟨e2 ▸ hw', e1 ▸ ht⟩ hb
    exact ⟨p, q, hpq, hp, hq, k2 p hp ep, k2 q hq eq⟩
end
section
variable {ad : Nat → Nat → Prop} {cs : Nat → Int} {R : Nat}
theorem UfE.ends (sy : ∀ u v, ad u v → ad v u) {ro : Nat → Nat} {ed : Nat → Nat → Prop} (h : UfE ad cs R ro ed) (hed : ∀ u v, ad u v → 0 ≤ cs u → 0 ≤ cs v → ed u v ∨ ed v u) (hpr : ∀ u v, ad u v → 0 ≤ cs u → cs u ≠ cs v) (hR : R ≤ 128) {u v a b : Nat} (hu : u < R) (hv : v < R) (ea : cs v = (a : Int)) (eb : cs u = (b : Int)) (ha : a < R) (hb : b < R) (hab : a ≠ b) :
    ro (elN u a) = ro (elN v b) ↔ WyP ad (TwC cs R (b : Int) (a : Int)) u v := by
  constructor
  · intro e
    have k1 := h.link (elN u a) (elN_D hR hu ha)
    rw [e] at k1
    have k2 := k1.trans ((h.link (elN v b) (elN_D hR hv hb)).turn sy)
    rcases k2 with k2 | ⟨w, k2⟩
    · exfalso
      have e1 : u = v ∧ a = b := by unfold elN at k2; omega
      exact hab e1.2
    · rw [elN_div (by omega), elN_mod (by omega), elN_div (by omega)] at w
      rw [eb] at w
      exact w
  · intro w
    have key : ∀ z, WyP ad (TwC cs R (b : Int) (a : Int)) u z → (cs z = (b : Int) → ro (elN u a) = ro (elN z a)) ∧ (cs z = (a : Int) → ro (elN u a) = ro (elN z b)) := by
      intro z w
      induction w with
      | here h => exact ⟨fun _ => rfl, fun e => by rw [eb] at e; omega⟩
      | go x d w hd e ih =>
        have hx := w.last
        have hxd := hpr x d e (by rcases hx.2 with q | q <;> omega)
        have hedge : ∀ a' b' : Nat, cs d = (a' : Int) → cs x = (b' : Int) → ro (elN x a') = ro (elN d b') := fun a' b' q1 q2 => by
          rcases hed x d e (by omega) (by omega) with q | q
          · exact h.edge x d a' b' q q1 q2
          · exact (h.edge d x b' a' q q2 q1).symm
        refine ⟨fun q => ?_, fun q => ?_⟩
        · have hx' : cs x = (a : Int) := hx.2.elim (fun y => absurd (y.trans q.symm) hxd) id
          rw [ih.2 hx', hedge b a q hx']
        · have hx' : cs x = (b : Int) := hx.2.elim id (fun y => absurd (y.trans q.symm) hxd)
          rw [ih.1 hx', hedge a b q hx']
    exact (key v w).2 ea
theorem WyP.adm {ad' : Nat → Nat → Prop} {T : Nat → Prop} {a b : Nat} (k : ∀ u v, ad u v → ad' u v) (w : WyP ad T a b) : WyP ad' T a b := by induction w with
  | here h => exact .here h
  | go b c w h e ih => exact .go b c ih h (k b c e)
theorem LkP.more {ad' : Nat → Nat → Prop} (k : ∀ u v, ad u v → ad' u v) {x y : Nat} (h : LkP ad cs R x y) : LkP ad' cs R x y := h.imp id (fun ⟨w, h⟩ => ⟨w.adm k, h⟩)
end
def EdS (st cols : List Int) (R u i : Nat) (p q : Nat) : Prop := EdN st cols R u i p q ∨ EdN st cols R u i q p
theorem EdS.sy {st cols : List Int} {R u i : Nat} : ∀ p q, EdS st cols R u i p q → EdS st cols R u i q p := fun p q h => h.symm
theorem EdS.ad {st cols : List Int} {R u i : Nat} (hg : GraP st cols R R) {p q : Nat} (h : EdS st cols R u i p q) : adG st cols R p q := h.elim (fun h => h.1) (fun h => adG.sy hg _ _ h.1)
structure ClE (st cols : List Int) (R : Nat) (cs : Nat → Int) (u i : Nat) (cl : List (Nat × Nat)) : Prop where
  edge : ∀ p ∈ cl, adG st cols R p.1 p.2 ∧ 0 ≤ cs p.1 ∧ 0 ≤ cs p.2 ∧ ¬ FoP (EdS st cols R u i) (TwC cs R (cs p.1) (cs p.2))
  all : ∀ c d : Int, 0 ≤ c → 0 ≤ d → c ≠ d → ¬ FoP (EdS st cols R u i) (TwC cs R c d) → ∃ p ∈ cl, (cs p.1 = c ∧ cs p.2 = d) ∨ (cs p.1 = d ∧ cs p.2 = c)
section
variable {st cols : List Int} {R : Nat} {cs : Nat → Int} {u i : Nat} {cl : List (Nat × Nat)}
theorem EdN.next {p q : Nat} : EdN st cols R u (i + 1) p q ↔ (EdN st cols R u i p q ∨ (adG st cols R p q ∧ p ≤ q ∧ p = u ∧ (rowL st cols u).getD i 0 = (q : Int))) := by
  unfold EdN
  constructor
  · rintro ⟨h1, h2, h3 | ⟨h3, j, hj, h4⟩⟩
    · exact .inl ⟨h1, h2, .inl h3⟩
    · by_cases e : j = i
      · subst e; exact .inr ⟨h1, h2, h3, h4⟩
      · exact .inl ⟨h1, h2, .inr ⟨h3, j, by omega, h4⟩⟩
  · rintro (⟨h1, h2, h3 | ⟨h3, j, hj, h4⟩⟩ | ⟨h1, h2, h3, h4⟩)
    · exact ⟨h1, h2, .inl h3⟩
    · exact ⟨h1, h2, .inr ⟨h3, j, by omega, h4⟩⟩
    · exact ⟨h1, h2, .inr ⟨h3, i, by omega, h4⟩⟩
theorem ClE.congr {u' i' : Nat} (h : ClE st cols R cs u i cl) (k : ∀ p q, 0 ≤ cs p → 0 ≤ cs q → (EdS st cols R u' i' p q ↔ EdS st cols R u i p q)) : ClE st cols R cs u' i' cl := by
  have conv : ∀ c d : Int, 0 ≤ c → 0 ≤ d → (FoP (EdS st cols R u' i') (TwC cs R c d) ↔ FoP (EdS st cols R u i) (TwC cs R c d)) := fun c d hc hd => by
    have t : ∀ x, TwC cs R c d x → 0 ≤ cs x := fun x hx => by rcases hx.2 with e | e <;> omega
    exact ⟨fun f => f.ad_congr (fun a b ha hb => k a b (t a ha) (t b hb)), fun f => f.ad_congr (fun a b ha hb => (k a b (t a ha) (t b hb)).symm)⟩
  exact ⟨fun p hp => ⟨(h.edge p hp).1, (h.edge p hp).2.1, (h.edge p hp).2.2.1, fun f => (h.edge p hp).2.2.2 ((conv _ _ (h.edge p hp).2.1 (h.edge p hp).2.2.1).1 f)⟩, fun c d hc hd hcd f => h.all c d hc hd hcd (fun g => f ((conv c d hc hd).2 g))⟩
theorem ClE.step (hm : MayP (R : Int) (R : Int) st cols) (hg : GraP st cols R R) (hpr : ∀ p q, adG st cols R p q → 0 ≤ cs p → cs p ≠ cs q) (hR : R ≤ 128) {ro : Nat → Nat} (hU : UfE (EdS st cols R u i) cs R ro (EdN st cols R u i)) (h : ClE st cols R cs u i cl) {v a b : Nat} (hu : u < R) (hv : v < R) (huv : u < v) (had : adG st cols R u v) (hi : i < (rowL st cols u).length) (hv2 : (rowL st cols u).getD i 0 = (v : Int)) (ea : cs v = (a : Int)) (eb : cs u = (b : Int)) (ha : a < R) (hb : b < R) :
    (ro (elN u a) = ro (elN v b) → ClE st cols R cs u (i + 1) (cl ++ [(u, v)])) ∧ (ro (elN u a) ≠ ro (elN v b) → ClE st cols R cs u (i + 1) cl) := by
  have hab : a ≠ b := fun e => hpr u v had (by omega) (by rw [ea, eb, e])
  have hends := hU.ends (EdS.sy) (fun p q h _ _ => h) (fun p q h h0 => hpr p q (h.ad hg) h0) hR hu hv ea eb ha hb hab
  have hnew : ¬ EdS st cols R u i u v := by
    rintro (⟨_, _, h3 | ⟨_, j, hj, h4⟩⟩ | ⟨_, h2, _⟩)
    · omega
    · have hnd := rowL_up2 hm hu j i hj hi
      omega
    · omega
  have hsub : ∀ p q, EdS st cols R u i p q → EdS st cols R u (i + 1) p q := fun p q k => k.imp (fun k => EdN.next.2 (.inl k)) (fun k => EdN.next.2 (.inl k))
  have hone : ∀ p q, EdS st cols R u (i + 1) p q → EdS st cols R u i p q ∨ (p = u ∧ q = v) ∨ (p = v ∧ q = u) := fun p q k => by
    rcases k with k | k
    · rcases EdN.next.1 k with k | ⟨_, _, k1, k2⟩
      · exact .inl (.inl k)
      · exact .inr (.inl ⟨k1, by omega⟩)
    · rcases EdN.next.1 k with k | ⟨_, _, k1, k2⟩
      · exact .inl (.inr k)
      · exact .inr (.inr ⟨by omega, k1⟩)
  have hin : EdS st cols R u (i + 1) u v := .inl (EdN.next.2 (.inr ⟨had, by omega, rfl, hv2⟩))
  have irr : ∀ j p, ¬ EdS st cols R u j p p := fun j p k => adG.ir hg p (k.ad hg)
  have fin : ∀ c d : Int, ∃ l : List Nat, ∀ x, TwC cs R c d x → x ∈ l := fun c d => ⟨List.range R, fun x hx => List.mem_range.2 hx.1⟩
  have other : ∀ c d : Int, ¬ ((c = (b : Int) ∧ d = (a : Int)) ∨ (c = (a : Int) ∧ d = (b : Int))) → c ≠ d → (FoP (EdS st cols R u i) (TwC cs R c d) → FoP (EdS st cols R u (i + 1)) (TwC cs R c d)) := fun c d hn hcd f => f.less (fun p q hp hq k => by
    rcases hone p q k with k | ⟨rfl, rfl⟩ | ⟨rfl, rfl⟩
    · exact k
    · exfalso
      have h1 := hp.2
      have h2 := hq.2
      rw [eb] at h1
      rw [ea] at h2
      omega
    · exfalso
      have h1 := hp.2
      have h2 := hq.2
      rw [ea] at h1
      rw [eb] at h2
      omega)
  have down : ∀ c d : Int, FoP (EdS st cols R u (i + 1)) (TwC cs R c d) → FoP (EdS st cols R u i) (TwC cs R c d) := fun c d f => f.less (fun p q _ _ k => hsub p q k)
  have old : ∀ p ∈ cl, adG st cols R p.1 p.2 ∧ 0 ≤ cs p.1 ∧ 0 ≤ cs p.2 ∧ ¬ FoP (EdS st cols R u (i + 1)) (TwC cs R (cs p.1) (cs p.2)) := fun p hp => ⟨(h.edge p hp).1, (h.edge p hp).2.1, (h.edge p hp).2.2.1, fun f => (h.edge p hp).2.2.2 (down _ _ f)⟩
  have swap : ∀ c d : Int, FoP (EdS st cols R u (i + 1)) (TwC cs R c d) → FoP (EdS st cols R u (i + 1)) (TwC cs R d c) := fun c d f => (FoP.iff (fun x => ⟨fun k => k.swap, fun k => k.swap⟩)).1 f
  refine ⟨fun hro => ⟨fun p hp => ?_, fun c d hc hd hcd f => ?_⟩, fun hro => ⟨old, fun c d hc hd hcd f => ?_⟩⟩
  · rcases List.mem_append.1 hp with hp | hp
    · exact old p hp
    · have : p = (u, v) := by simpa using hp
      subst this
      refine ⟨had, by show 0 ≤ cs u; omega, by show 0 ≤ cs v; omega, fun f => ?_⟩
      have f' : FoP (EdS st cols R u (i + 1)) (TwC cs R (b : Int) (a : Int)) := by
        have : FoP (EdS st cols R u (i + 1)) (TwC cs R (cs u) (cs v)) := f
        rw [eb, ea] at this
        exact this
      obtain ⟨l, hl⟩ := fin (b : Int) (a : Int)
      exact edge_apart (fun p q k => EdS.sy p q k) (fun p q k => EdS.sy p q k) (irr (i + 1)) hsub l.length _ ⟨l, Nat.le_refl _, hl⟩ f' u v (by omega) hin hnew (hends.1 hro)
  · by_cases hn : (c = (b : Int) ∧ d = (a : Int)) ∨ (c = (a : Int) ∧ d = (b : Int))
    · exact ⟨(u, v), List.mem_append.2 (.inr (by simp)), by
        show (cs u = c ∧ cs v = d) ∨ (cs u = d ∧ cs v = c)
        rw [ea, eb]
        omega⟩
    · obtain ⟨p, hp, e⟩ := h.all c d hc hd hcd (fun g => f (other c d hn hcd g))
      exact ⟨p, List.mem_append.2 (.inl hp), e⟩
  · by_cases hn : (c = (b : Int) ∧ d = (a : Int)) ∨ (c = (a : Int) ∧ d = (b : Int))
    · have hnf : ¬ FoP (EdS st cols R u i) (TwC cs R (b : Int) (a : Int)) := fun g => by
        have g' := edge_add (fun p q k => EdS.sy p q k) (irr i) (show u ≠ v by omega) hone (fin (b : Int) (a : Int)) g (fun w => hro (hends.2 w))
        rcases hn with ⟨rfl, rfl⟩ | ⟨rfl, rfl⟩
        · exact f g'
        · exact f (swap _ _ g')
      obtain ⟨p, hp, e⟩ := h.all (b : Int) (a : Int) (by omega) (by omega) (by omega) hnf
      exact ⟨p, hp, by omega⟩
    · exact h.all c d hc hd hcd (fun g => f (other c d hn hcd g))
end
end Go.Proofs.YtgjokididdffhaaGreat
