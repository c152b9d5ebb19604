/- Cxg -/
import Derived.Test.YtgjokididdffhaaGreatCxf
import Derived.Test.YtgjokididdffhaaGreatCg1
import Derived.Test.YtgjokididdffhaaGreatCh2
import Derived.Test.YtgjokididdffhaaGreatCu7
import Derived.Test.YtgjokididdffhaaGreatCxd
import Derived.Test.YtgjokididdffhaaGreatCv8
import Derived.Test.YtgjokididdffhaaGreatSp4
import Derived.Test.YtgjokididdffhaaGreatCk3
namespace Go.Proofs.YtgjokididdffhaaGreat
open Go.RowKit Go.Deep Go.Shelf
set_option linter.unusedVariables false
attribute [local go_sem] Oper.semAt_some

structure AsI (w W : World) (B b : Nat) (rs : List Int) : Prop where
  bel : Below w.heap.size w W
  box : ∃ v, W.heap[b]? = some (.cells #[v] 23 (0, 0)) ∧ W.ownsRow B 3 1 v rs.length (valsI rs)
  le : B ≤ W.heap.size
theorem AsI.own {w : World} {B b B' : Nat} (hB : w.heap.size ≤ B') : OwnFrom B' (fun (s : List Int) W => AsI w W B b s) := by
  intro s W W' row h hg hr
  have hr' : ∀ r, row = some r → ∃ o : Obj, W.heap[r]? = some o ∧ o.isCells = false := fun r e => (hr r e).2
  obtain ⟨v, k1, o1⟩ := h.box
  exact ⟨h.bel.grown hg h.bel.size (fun k e => Nat.le_trans hB (hr k e).1), ⟨v, blk_keptP k1 hg hr', own_keptP o1 hg hr'⟩, Nat.le_trans h.le hg.size⟩
attribute [local go_sem] Oper.semAt_some

end Go.Proofs.YtgjokididdffhaaGreat
namespace Go.Proofs.YtgjokididdffhaaGreat
open Go.RowKit Go.Deep
set_option linter.unusedVariables false

def GzI (X o R : Nat) (cs : Nat → Int) (st cols : List Int) (wb W : World) (u i : Nat) (cl : List (Nat × Nat)) : Prop := ∃ pf' ro h M, RoF W X o pf' ∧ UfI (elD R) pf' ro h M ∧ UfE (EdS st cols R u i) cs R ro (EdN st cols R u i) ∧ ClE st cols R cs u i cl ∧ FrC X o wb W
section
variable {st cols : List Int} {R : Nat} {cs : Nat → Int}
theorem EdN.zero {p q : Nat} : ¬ EdN st cols R 0 0 p q := by
  rintro ⟨_, _, h | ⟨_, j, hj, _⟩⟩ <;> omega
theorem ClE.zero : ClE st cols R cs 0 0 [] := by
  refine ⟨fun p hp => absurd hp (by simp), fun c d _ _ _ f => absurd (fun S hS hc v hv => ?_) f⟩
  obtain ⟨p, q, _, _, _, h, _⟩ := hc v hv
  exact h.elim EdN.zero EdN.zero
theorem EdN.row {u : Nat} (hm : MayP (R : Int) (R : Int) st cols) (hu : u < R) : EdN st cols R (u + 1) 0 = EdN st cols R u (rowL st cols u).length := by
  funext p q
  apply propext
  unfold EdN
  constructor
  · rintro ⟨h1, h2, h3 | ⟨_, j, hj, _⟩⟩
    · refine ⟨h1, h2, ?_⟩
      by_cases e : p = u
      · subst e
        obtain ⟨j, hj, e⟩ := mem_getD.1 ((rowL_mem hm hu).2 h1.2.2)
        exact .inr ⟨rfl, j, hj, e⟩
      · exact .inl (by omega)
    · omega
  · rintro ⟨h1, h2, h3 | ⟨h3, _⟩⟩
    · exact ⟨h1, h2, .inl (by omega)⟩
    · exact ⟨h1, h2, .inl (by omega)⟩
theorem GzI.row {X o u : Nat} {wb W : World} {cl : List (Nat × Nat)} (hm : MayP (R : Int) (R : Int) st cols) (hu : u < R) (h : GzI X o R cs st cols wb W u (rowL st cols u).length cl) : GzI X o R cs st cols wb W (u + 1) 0 cl := by
  have e1 := EdN.row hm hu
  have e2 : EdS st cols R (u + 1) 0 = EdS st cols R u (rowL st cols u).length := by
    funext p q
    unfold EdS
    rw [e1]
  obtain ⟨pf, r, a, M, k1, k2, k3, k5, k4⟩ := h
  refine ⟨pf, r, a, M, k1, k2, by rw [e1, e2]; exact k3, ⟨fun p hp => by rw [e2]; exact k5.edge p hp, fun c d h1 h2 h3 f => by rw [e2] at f; exact k5.all c d h1 h2 h3 f⟩, k4⟩
theorem EdS.up {u i p q : Nat} (k : EdS st cols R u i p q) : EdS st cols R u (i + 1) p q := k.imp (fun k => EdN.next.2 (.inl k)) (fun k => EdN.next.2 (.inl k))
theorem GzI.skip {X o u i : Nat} {wb W : World} {cl : List (Nat × Nat)} (h : GzI X o R cs st cols wb W u i cl) {v : Nat} (hv : (rowL st cols u).getD i 0 = (v : Int)) (hs : v < u ∨ cs u = -1 ∨ cs v = -1) : GzI X o R cs st cols wb W u (i + 1) cl := by
  obtain ⟨pf, r, a, M, k1, k2, k3, k5, k4⟩ := h
  have old : ∀ p q, 0 ≤ cs p → 0 ≤ cs q → EdN st cols R u (i + 1) p q → EdN st cols R u i p q := fun p q hp hq k => by
    rcases EdN.next.1 k with k | ⟨_, h2, rfl, h4⟩
    · exact k
    · exfalso
      have e : q = v := by omega
      subst e
      rcases hs with hs | hs | hs <;> omega
  refine ⟨pf, r, a, M, k1, k2, ⟨fun x hx => (k3.link x hx).more (fun _ _ k => k.up), fun p q a' b' he ea eb => k3.edge p q a' b' (old p q (by omega) (by omega) he) ea eb⟩, k5.congr (fun p q hp hq => ⟨fun k => k.imp (old p q hp hq) (old q p hq hp), EdS.up⟩), k4⟩
theorem GzI.take {X o u i : Nat} {wb W' : World} {pf ro h : Nat → Nat} {M : Nat} {cl : List (Nat × Nat)} (hR : R ≤ 128) (hg : GraP st cols R R) (hU : UfI (elD R) pf ro h M) (hE : UfE (EdS st cols R u i) cs R ro (EdN st cols R u i)) {v a b : Nat} (hu : u < R) (hv : v < R) (huv : u ≤ v) (hv2 : (rowL st cols u).getD i 0 = (v : Int)) (hI : InC st cols v u) (ea : cs v = (a : Int)) (eb : cs u = (b : Int)) (ha : a < R) (hb : b < R) (hcl : ClE st cols R cs u (i + 1) cl) (hF' : RoF W' X o (upF pf (ro (elN u a)) (ro (elN v b)))) (hC : FrC X o wb W') : GzI X o R cs st cols wb W' u (i + 1) cl := by
  have D1 := elN_D hR hu ha
  have D2 := elN_D hR hv hb
  obtain ⟨h', M', hJ⟩ := hU.join (hU.rl _ D1) (hU.rl _ D2) (hU.fx _ D1) (hU.fx _ D2)
  have hE2 : UfE (EdS st cols R u (i + 1)) cs R ro (EdN st cols R u i) := ⟨fun x hx => (hE.link x hx).more (fun _ _ k => k.up), hE.edge⟩
  refine ⟨_, _, h', M', hF', hJ, (hE2.step EdS.sy hR hu hv ea eb ha hb (.inl (EdN.next.2 (.inr ⟨⟨hu, hv, hI⟩, huv, rfl, hv2⟩)))).more (fun x y a' b' he _ _ => ?_), hcl, hC⟩
  rcases EdN.next.1 he with k | ⟨_, _, k1, k2⟩
  · exact .inl k
  · exact .inr ⟨k1, by omega⟩
structure ClF (st cols : List Int) (R : Nat) (cs : Nat → Int) (cl : List (Nat × Nat)) : Prop where
  edge : ∀ p ∈ cl, adG st cols R p.1 p.2 ∧ 0 ≤ cs p.1 ∧ 0 ≤ cs p.2 ∧ ¬ FoP (adG st cols R) (TwC cs R (cs p.1) (cs p.2))
  all : ∀ c d : Int, 0 ≤ c → 0 ≤ d → c ≠ d → ¬ FoP (adG st cols R) (TwC cs R c d) → ∃ p ∈ cl, (cs p.1 = c ∧ cs p.2 = d) ∨ (cs p.1 = d ∧ cs p.2 = c)
end
theorem ClE.last {st cols : List Int} {R : Nat} {cs : Nat → Int} {cl : List (Nat × Nat)} (hg : GraP st cols R R) (h : ClE st cols R cs R 0 cl) : ClF st cols R cs cl := by
  have e : EdS st cols R R 0 = adG st cols R := by
    funext p q
    apply propext
    refine ⟨fun k => k.ad hg, fun k => ?_⟩
    rcases Nat.le_total p q with c | c
    · exact .inl ⟨k, c, .inl k.1⟩
    · exact .inr ⟨adG.sy hg _ _ k, c, .inl k.2.1⟩
  exact ⟨fun p hp => ⟨(h.edge p hp).1, (h.edge p hp).2.1, (h.edge p hp).2.2.1, fun f => (h.edge p hp).2.2.2 (by rw [e]; exact f)⟩, fun c d h1 h2 h3 f => h.all c d h1 h2 h3 (by rw [e]; exact f)⟩
def NQ4 (ad : Nat → Nat → Prop) (cs : Nat → Int) (a b c d : Nat) : Prop := ∀ a' b' c' d', Lx4 a' b' c' d' a b c d → ¬ Pa4 ad cs a' b' c' d'
section
variable {ad : Nat → Nat → Prop} {cs : Nat → Int} {a b c d : Nat}
theorem NQ4.first : NQ4 ad cs 0 0 0 0 := fun a' b' c' d' h => by unfold Lx4 at h; omega
theorem NQ4.skip (h : NQ4 ad cs a b c 0) : NQ4 ad cs a b c (a + 1) := fun a' b' c' d' hl k => by
  by_cases e : a' = a ∧ b' = b ∧ c' = c
  · obtain ⟨rfl, rfl, rfl⟩ := e
    have := k.2.2.2.2.2.1
    unfold Lx4 at hl
    omega
  · exact h a' b' c' d' (by unfold Lx4 at hl ⊢; omega) k
end

def CqP (ad : Nat → Nat → Prop) (cs : Nat → Int) (Fo : Int → Int → Prop) (u v : Nat) (c d : Int) : Prop := ∃ u' v', (u' < u ∨ (u' = u ∧ v' < v)) ∧ ad u' v' ∧ cs u' = c ∧ cs v' = d ∧ c ≤ d ∧ ¬ Fo c d
def BsI (P : Int → Int → Prop) : Option (Int × Int) → Prop
  | none => ∀ c d, ¬ P c d
  | some (c, d) => P c d ∧ ∀ c' d', P c' d' → (c < c' ∨ (c = c' ∧ d ≤ d'))
theorem BsI.congr {P P' : Int → Int → Prop} {o : Option (Int × Int)} (h : BsI P o) (e : ∀ c d, P' c d ↔ P c d) : BsI P' o := by
  have : P' = P := by funext c d; exact propext (e c d)
  rw [this]; exact h
theorem BsI.one {P : Int → Int → Prop} {o q : Option (Int × Int)} (h : BsI P o) (g : BsI P q) : o = q := by
  cases o with
  | none =>
    cases q with
    | none => rfl
    | some q => exact absurd g.1 (h _ _)
  | some o =>
    cases q with
    | none => exact absurd h.1 (g _ _)
    | some q =>
      obtain ⟨a, b⟩ := o
      obtain ⟨c, d⟩ := q
      have h1 := h.2 c d g.1
      have h2 := g.2 a b h.1
      have : a = c ∧ b = d := by omega
      rw [this.1, this.2]
section
variable {ad : Nat → Nat → Prop} {cs : Nat → Int} {Fo : Int → Int → Prop} {u v : Nat}
theorem CqP.next (c d : Int) : CqP ad cs Fo u (v + 1) c d ↔ (CqP ad cs Fo u v c d ∨ (ad u v ∧ cs u = c ∧ cs v = d ∧ c ≤ d ∧ ¬ Fo c d)) := by
  constructor
  · rintro ⟨u', v', h, k⟩
    by_cases e : u' = u ∧ v' = v
    · obtain ⟨rfl, rfl⟩ := e; exact .inr k
    · exact .inl ⟨u', v', by omega, k⟩
  · rintro (⟨u', v', h, k⟩ | k)
    · exact ⟨u', v', by omega, k⟩
    · exact ⟨u, v, by omega, k⟩
theorem CqP.row {N : Nat} (had : ∀ u v, ad u v → u < N ∧ v < N) (c d : Int) : CqP ad cs Fo (u + 1) 0 c d ↔ CqP ad cs Fo u N c d := by
  constructor
  · rintro ⟨u', v', h, k⟩
    have := (had u' v' k.1).2
    exact ⟨u', v', by omega, k⟩
  · rintro ⟨u', v', h, k⟩
    exact ⟨u', v', by omega, k⟩
theorem BsI.skip {o : Option (Int × Int)} (h : BsI (CqP ad cs Fo u v) o) (k : ad u v → cs u ≤ cs v → Fo (cs u) (cs v)) : BsI (CqP ad cs Fo u (v + 1)) o := h.congr (fun c d => by
  rw [CqP.next]
  refine ⟨fun q => q.elim id (fun q => ?_), .inl⟩
  obtain ⟨h1, rfl, rfl, h4, h5⟩ := q
  exact absurd (k h1 h4) h5)
theorem BsI.take {o : Option (Int × Int)} (h : BsI (CqP ad cs Fo u v) o) (h1 : ad u v) (h2 : cs u ≤ cs v) (h3 : ¬ Fo (cs u) (cs v)) (k : ∀ a b, o = some (a, b) → (cs u < a ∨ (cs u = a ∧ cs v < b))) : BsI (CqP ad cs Fo u (v + 1)) (some (cs u, cs v)) := by
  refine ⟨(CqP.next _ _).2 (.inr ⟨h1, rfl, rfl, h2, h3⟩), fun c d q => ?_⟩
  rcases (CqP.next c d).1 q with q | ⟨_, rfl, rfl, _, _⟩
  · cases o with
    | none => exact absurd q (h c d)
    | some p =>
      obtain ⟨a, b⟩ := p
      have := h.2 c d q
      have := k a b rfl
      omega
  · omega
end
theorem FoP.set {ad : Nat → Nat → Prop} {T T' : Nat → Prop} (h : FoP ad T) (k : ∀ v, T' v → T v) : FoP ad T' := fun S hS hc => h S (fun v hv => k v (hS v hv)) hc
section
variable {st cols : List Int} {R : Nat} {xs : List Int}
def SrP (xs : List Int) (p : Nat × Nat) (c d : Int) : Prop := c ≤ d ∧ ((xs.getD p.1 0 = c ∧ xs.getD p.2 0 = d) ∨ (xs.getD p.1 0 = d ∧ xs.getD p.2 0 = c))
def CiP (st cols : List Int) (R : Nat) (xs : List Int) (c d : Int) : Prop := ∃ u v, adG st cols R u v ∧ xs.getD u 0 = c ∧ xs.getD v 0 = d ∧ c ≤ d ∧ ¬ FoP (adG st cols R) (TwC (fun i => xs.getD i 0) R c d)
def LeE (xs : List Int) (cl : List (Nat × Nat)) (i : Nat) (q : Option (Int × Int)) : Prop := BsI (fun c d => ∃ p ∈ cl.take i, SrP xs p c d) q
theorem LeE.zero {cl : List (Nat × Nat)} : LeE xs cl 0 none := fun c d h => by obtain ⟨p, hp, _⟩ := h; simp at hp
def ltP (c d c' d' : Int) : Prop := c < c' ∨ (c = c' ∧ d < d')
theorem LeE.step {cl : List (Nat × Nat)} {i : Nat} {q : Option (Int × Int)} {p : Nat × Nat} (h : LeE xs cl i q) (hi : i < cl.length) (hp : cl[i]? = some p) {c d : Int} (hc : min (xs.getD p.1 0) (xs.getD p.2 0) = c) (hd : max (xs.getD p.1 0) (xs.getD p.2 0) = d) :
    (q = none → LeE xs cl (i + 1) (some (c, d))) ∧ (∀ c0 d0, q = some (c0, d0) → (ltP c d c0 d0 → LeE xs cl (i + 1) (some (c, d))) ∧ (¬ ltP c d c0 d0 → LeE xs cl (i + 1) q)) := by
  have ht : cl.take (i + 1) = cl.take i ++ [p] := by
    rw [List.take_add_one, hp]; rfl
  have hS : ∀ c' d', SrP xs p c' d' ↔ (c' = c ∧ d' = d) := fun c' d' => by
    unfold SrP
    omega
  have hE : ∀ c' d', (∃ r ∈ cl.take (i + 1), SrP xs r c' d') ↔ ((∃ r ∈ cl.take i, SrP xs r c' d') ∨ (c' = c ∧ d' = d)) := fun c' d' => by
    rw [ht, ← hS]
    constructor
    · rintro ⟨r, hr, k⟩
      rcases List.mem_append.1 hr with e | e
      · exact .inl ⟨r, e, k⟩
      · rw [List.mem_singleton.1 e] at k; exact .inr k
    · rintro (⟨r, hr, k⟩ | k)
      · exact ⟨r, List.mem_append.2 (.inl hr), k⟩
      · exact ⟨p, List.mem_append.2 (.inr (List.mem_singleton.2 rfl)), k⟩
  unfold LeE at h ⊢
  simp only [hE]
  refine ⟨fun e => ?_, fun c0 d0 e => ⟨fun hlt => ?_, fun hlt => ?_⟩⟩
  · subst e
    exact ⟨.inr ⟨rfl, rfl⟩, fun c' d' k => by
      rcases k with k | ⟨rfl, rfl⟩
      · exact absurd k (h c' d')
      · exact .inr ⟨rfl, Int.le_refl _⟩⟩
  · subst e
    exact ⟨.inr ⟨rfl, rfl⟩, fun c' d' k => by
      rcases k with k | ⟨rfl, rfl⟩
      · have := h.2 c' d' k
        unfold ltP at hlt
        omega
      · exact .inr ⟨rfl, Int.le_refl _⟩⟩
  · subst e
    exact ⟨.inl h.1, fun c' d' k => by
      rcases k with k | ⟨rfl, rfl⟩
      · exact h.2 c' d' k
      · unfold ltP at hlt
        omega⟩
end
def cuE (e : Nat → Nat) (v : Nat) : Nat → Int := fun i => if i < v then (e i : Int) else -1
def usE (e : Nat → Nat) : Nat → Nat
  | 0 => 0
  | v + 1 => max (usE e v) (e v + 1)
def AgE (f e : Nat → Nat) (v : Nat) : Prop := ∀ i, i < v → f i = e i
def upE (e : Nat → Nat) (v y : Nat) : Nat → Nat := fun i => if i = v then y else e i
theorem upE_same (e : Nat → Nat) (v y : Nat) : upE e v y v = y := by simp [upE]
theorem upE_other (e : Nat → Nat) {v i : Nat} (y : Nat) (h : i ≠ v) : upE e v y i = e i := by simp [upE, h]
theorem upE_ag (e : Nat → Nat) (v y : Nat) : AgE (upE e v y) e v := fun i hi => upE_other e y (by omega)
theorem AgE.cu {f e : Nat → Nat} {v : Nat} (h : AgE f e v) : cuE f v = cuE e v := by
  funext i
  unfold cuE
  by_cases hi : i < v
  · rw [if_pos hi, if_pos hi, h i hi]
  · rw [if_neg hi, if_neg hi]
theorem AgE.us {f e : Nat → Nat} : ∀ {v : Nat}, AgE f e v → usE f v = usE e v
  | 0, _ => rfl
  | v + 1, h => by
    unfold usE
    rw [AgE.us (v := v) (fun i hi => h i (by omega)), h v (by omega)]
theorem AgE.refl (e : Nat → Nat) (v : Nat) : AgE e e v := fun _ _ => rfl
theorem AgE.mono {f e : Nat → Nat} {v u : Nat} (h : AgE f e v) (k : u ≤ v) : AgE f e u := fun i hi => h i (by omega)
theorem cuE_upd (e : Nat → Nat) (v : Nat) : cuE e (v + 1) = updC (cuE e v) v (e v) := by
  funext i
  unfold cuE updC
  by_cases h : i = v
  · subst h; simp
  · rw [if_neg h]
    show (if i < v + 1 then (e i : Int) else -1) = if i < v then (e i : Int) else -1
    by_cases hi : i < v
    · rw [if_pos hi, if_pos (by omega)]
    · rw [if_neg hi, if_neg (by omega)]
theorem usE_succ (e : Nat → Nat) (v : Nat) : usE e (v + 1) = max (usE e v) (e v + 1) := rfl
theorem cuE_up (e : Nat → Nat) (v y : Nat) : cuE (upE e v y) (v + 1) = updC (cuE e v) v y := by
  rw [cuE_upd, (upE_ag e v y).cu, upE_same]
theorem usE_mono (e : Nat → Nat) : ∀ {v u : Nat}, v ≤ u → usE e v ≤ usE e u
  | v, 0, h => by rw [show v = 0 by omega]; exact Nat.le_refl _
  | v, u + 1, h => by
    by_cases k : v = u + 1
    · rw [k]; exact Nat.le_refl _
    · have := usE_mono e (show v ≤ u by omega)
      rw [usE_succ]
      omega
theorem usE_at (e : Nat → Nat) {v j : Nat} (h : j < v) : e j < usE e v := by
  have := usE_mono e (show j + 1 ≤ v by omega)
  rw [usE_succ] at this
  omega
theorem usE_le (e : Nat → Nat) {k : Nat} : ∀ {v : Nat}, (∀ j, j < v → e j < k) → usE e v ≤ k
  | 0, _ => Nat.zero_le _
  | v + 1, h => by
    have h1 := usE_le e (v := v) (fun j hj => h j (by omega))
    have h2 := h v (by omega)
    rw [usE_succ]
    omega
theorem usE_small (e : Nat → Nat) : ∀ {v : Nat}, (∀ j, j < v → e j ≤ usE e j) → usE e v ≤ v
  | 0, _ => Nat.le_refl _
  | v + 1, h => by
    have h1 := usE_small e (v := v) (fun j hj => h j (by omega))
    have h2 := h v (by omega)
    rw [usE_succ]
    omega
theorem cuE_rng {e : Nat → Nat} {v m : Nat} (h : usE e v ≤ m) (i : Nat) : -1 ≤ cuE e v i ∧ cuE e v i < (m : Int) := by
  unfold cuE
  by_cases hi : i < v
  · have := usE_at e hi
    rw [if_pos hi]
    omega
  · rw [if_neg hi]
    omega
theorem cuE_fresh (e : Nat → Nat) (v : Nat) : cuE e v v = -1 := by simp [cuE]
theorem cuE_nm (e : Nat → Nat) {m : Nat} : ∀ {v : Nat}, v ≤ m → NmI (cuE e v) m (usE e v)
  | 0, _ => by
    have : cuE e 0 = fun _ => -1 := by funext i; simp [cuE]
    rw [this]
    exact NmI.none
  | v + 1, h => by
    rw [cuE_upd]
    exact (cuE_nm e (v := v) (by omega)).upd (by omega) (cuE_fresh e v)
section
variable {bar : (Nat → Int) → Nat → Nat → Prop} {m : Nat}
def VdE (bar : (Nat → Int) → Nat → Nat → Prop) (m : Nat) (e : Nat → Nat) (v : Nat) : Prop := ∀ j, v ≤ j → j < m → e j ≤ usE e j ∧ ¬ bar (cuE e j) j (e j)
structure LpE (bar : (Nat → Int) → Nat → Nat → Prop) (m : Nat) (e : Nat → Nat) (v : Nat) (A : Nat → Prop) (best r : Nat) : Prop where
  le : r ≤ best
  at_ : r = best ∨ ∃ f, AgE f e v ∧ VdE bar m f v ∧ usE f m = r
  all : ∀ f, AgE f e v → VdE bar m f v → A (f v) → r ≤ usE f m
def FwP (bar : (Nat → Int) → Nat → Nat → Prop) (m : Nat) (e : Nat → Nat) (v best r : Nat) : Prop := LpE bar m e v (fun _ => True) best r
theorem FwP.done {e : Nat → Nat} {v best : Nat} (hv : v ≤ m) (h : best ≤ usE e v ∨ v = m) : FwP bar m e v best (min (usE e v) best) := by
  by_cases hb : best ≤ usE e v
  · rw [Nat.min_eq_right hb]
    exact ⟨Nat.le_refl _, .inl rfl, fun f hf _ _ => by have := usE_mono f hv; rw [hf.us] at this; omega⟩
  · obtain rfl : v = m := h.resolve_left hb
    rw [Nat.min_eq_left (by omega)]
    exact ⟨by omega, .inr ⟨e, AgE.refl _ _, fun j h1 h2 => by omega, rfl⟩, fun f hf _ _ => by rw [hf.us]; exact Nat.le_refl _⟩
theorem LpE.start (e : Nat → Nat) (v best : Nat) : LpE bar m e v (fun _ => False) best best := ⟨Nat.le_refl _, .inl rfl, fun _ _ _ h => h.elim⟩
theorem LpE.step {e : Nat → Nat} {v best r r' y : Nat} {A A' : Nat → Prop} (h : LpE bar m e v A best r) (hv : v < m) (hy : y ≤ usE e v) (hb : ¬ bar (cuE e v) v y) (g : FwP bar m (upE e v y) (v + 1) r r') (hA : ∀ z, A' z → A z ∨ z = y) : LpE bar m e v A' best r' := by
  have up : ∀ f, AgE f (upE e v y) (v + 1) → AgE f e v ∧ f v = y := fun f hf => ⟨fun i hi => by rw [hf i (by omega), upE_other _ _ (by omega)], by rw [hf v (by omega), upE_same]⟩
  refine ⟨Nat.le_trans g.le h.le, ?_, fun f hf hV ha => ?_⟩
  · rcases g.at_ with e1 | ⟨f, h1, h2, h3⟩
    · rw [e1]; exact h.at_
    · obtain ⟨u1, u2⟩ := up f h1
      refine .inr ⟨f, u1, fun j hj hjm => ?_, h3⟩
      by_cases e2 : j = v
      · subst e2
        rw [u1.us, u1.cu, u2]
        exact ⟨hy, hb⟩
      · exact h2 j (by omega) hjm
  · rcases hA _ ha with ha | ha
    · exact Nat.le_trans g.le (h.all f hf hV ha)
    · refine g.all f (fun i hi => ?_) (fun j hj hjm => hV j (by omega) hjm) trivial
      by_cases e2 : i = v
      · subst e2; rw [ha, upE_same]
      · rw [upE_other _ _ e2]; exact hf i (by omega)
theorem LpE.all_ {e : Nat → Nat} {v best r : Nat} {A : Nat → Prop} (h : LpE bar m e v A best r) (hv : v < m) (hA : ∀ y, y ≤ usE e v → ¬ bar (cuE e v) v y → A y) : FwP bar m e v best r :=
  ⟨h.le, h.at_, fun f hf hV _ => h.all f hf hV (by
    have := hV v (Nat.le_refl _) hv
    rw [hf.us, hf.cu] at this
    exact hA _ this.1 this.2)⟩
def SmP (Gd : (Nat → Nat) → Prop) (m : Nat) (e : Nat → Nat) (v k : Nat) : Prop := ∃ f, AgE f e v ∧ (∀ j, v ≤ j → j < m → f j < k ∧ f j ≤ usE f j) ∧ Gd f
theorem least_same {Gd : (Nat → Nat) → Prop} (hG : ∀ f, (∀ j, j < m → f j ≤ usE f j) → (Gd f ↔ ∀ j, j < m → ¬ bar (cuE f j) j (f j))) {e : Nat → Nat} {r d : Nat} (h : FwP bar m e 0 m r) (hd : (d < m ∧ SmP Gd m e 0 d ∧ ∀ j, j < d → ¬ SmP Gd m e 0 j) ∨ (d = m ∧ ∀ k, k < m → ¬ SmP Gd m e 0 k)) : d = r := by
  have key : ∀ k, SmP Gd m e 0 k ↔ ∃ f, VdE bar m f 0 ∧ usE f m ≤ k := fun k => by
    constructor
    · rintro ⟨f, _, h2, h3⟩
      have hs : ∀ j, j < m → f j ≤ usE f j := fun j hj => (h2 j (Nat.zero_le _) hj).2
      exact ⟨f, fun j _ hj => ⟨hs j hj, (hG f hs).1 h3 j hj⟩, usE_le f (fun j hj => (h2 j (Nat.zero_le _) hj).1)⟩
    · rintro ⟨f, h2, h3⟩
      have hs : ∀ j, j < m → f j ≤ usE f j := fun j hj => (h2 j (Nat.zero_le _) hj).1
      exact ⟨f, fun i hi => by omega, fun j _ hj => ⟨by have := usE_at f hj; omega, hs j hj⟩, (hG f hs).2 (fun j hj => (h2 j (Nat.zero_le _) hj).2)⟩
  have lo : ∀ k, SmP Gd m e 0 k → r ≤ k := fun k hk => by
    obtain ⟨f, h2, h3⟩ := (key k).1 hk
    exact Nat.le_trans (h.all f (fun i hi => by omega) h2 trivial) h3
  have hi : r < m → SmP Gd m e 0 r := fun hr => by
    rcases h.at_ with e1 | ⟨f, _, h2, h3⟩
    · omega
    · exact (key r).2 ⟨f, h2, by omega⟩
  have hle := h.le
  rcases hd with ⟨d1, d2, d3⟩ | ⟨d1, d2⟩
  · have h1 := lo d d2
    by_cases e1 : r = d
    · exact e1.symm
    · exact absurd (hi (by omega)) (d3 r (by omega))
  · by_cases e1 : r = m
    · omega
    · exact absurd (hi (by omega)) (d2 r (by omega))
end
section
variable {S C : List Int} {m : Nat}
def GdN (S C : List Int) (m : Nat) (f : Nat → Nat) : Prop := ∀ u v, adG S C m u v → f u ≠ f v
theorem gd_nb (hm : MayP (m : Int) (m : Int) S C) (hg : GraP S C m m) (f : Nat → Nat) : GdN S C m f ↔ ∀ v, v < m → ¬ BarN S C (cuE f v) v (f v) := by
  constructor
  · intro h v hv hb
    obtain ⟨u, ha, e⟩ := (barN_ad hm hv).1 hb
    unfold cuE at e
    by_cases hu : u < v
    · rw [if_pos hu] at e
      exact h v u ha (by omega)
    · rw [if_neg hu] at e; omega
  · intro h u v ha e
    have key : ∀ u v, adG S C m u v → u < v → f u = f v → False := fun u v ha hl e => by
      refine h v ha.2.1 ((barN_ad hm ha.2.1).2 ⟨u, adG.sy hg _ _ ha, ?_⟩)
      unfold cuE
      rw [if_pos hl, e]
    rcases Nat.lt_trichotomy u v with hl | hl | hl
    · exact key u v ha hl e
    · subst hl; exact adG.ir hg _ ha
    · exact key v u (adG.sy hg _ _ ha) hl e.symm
def GdS (S C : List Int) (m : Nat) (f : Nat → Nat) : Prop := GdN S C m f ∧ ∀ a b c d, ¬ Pa4 (adG S C m) (fun i => (f i : Int)) a b c d
theorem gd_st (hm : MayP (m : Int) (m : Int) S C) (hg : GraP S C m m) (f : Nat → Nat) : GdS S C m f ↔ ∀ v, v < m → ¬ BarP S C (cuE f v) v (f v) := by
  have cu : ∀ {v i : Nat}, i < v → cuE f v i = (f i : Int) := fun {v i} h => by simp [cuE, h]
  have lt : ∀ {v i : Nat} {x : Nat}, cuE f v i = (x : Int) → i < v ∧ f i = x := fun {v i x} h => by
    unfold cuE at h
    by_cases k : i < v
    · rw [if_pos k] at h; exact ⟨k, by omega⟩
    · rw [if_neg k] at h; omega
  have sy := adG.sy hg
  have ir := adG.ir hg
  constructor
  · rintro ⟨hN, hP⟩ v hv hb
    rcases (barP_ad hm hv).1 hb with hb | ⟨b, c, d, h1, h2, h3, h4, h5, h6, h7⟩
    · exact (gd_nb hm hg f).1 hN v hv hb
    · have hbl : b < v := by
        apply Classical.byContradiction
        intro k
        exact h2 (by simp [cuE, k])
      rw [cu hbl] at h7
      obtain ⟨hdl, e7⟩ := lt h7
      obtain ⟨hcl, e4⟩ := lt h4
      rcases h6 with h6 | h6
      · have hdc : d ≠ c := fun e => hN b c h3 (by rw [← e, e7])
        by_cases hl : d < c
        · exact hP d v b c ⟨sy _ _ h6, h1, h5.symm, by simp [e7], h3, hl, by omega, by simp [e4]⟩
        · exact hP c b v d ⟨sy _ _ h3, sy _ _ h1, by omega, by simp [e4], h6, by omega, h5, by simp [e7]⟩
      · exact hP d c b v ⟨sy _ _ h6, sy _ _ h3, h5.symm, by simp [e7], sy _ _ h1, hdl, by omega, by simp [e4]⟩
  · intro h
    have hN : GdN S C m f := (gd_nb hm hg f).2 (fun v hv hb => h v hv ((barP_ad hm hv).2 (.inl hb)))
    refine ⟨hN, fun a b c d hp => ?_⟩
    obtain ⟨ab, bc, hca, eca, cd, had, hdb, edb⟩ := hp
    have eca : f c = f a := by simp only at eca; omega
    have edb : f d = f b := by simp only at edb; omega
    have nab : a ≠ b := fun e => ir a (by rw [e] at ab ⊢; exact ab)
    have nbc : b ≠ c := fun e => ir b (by rw [← e] at bc; exact bc)
    have ncd : c ≠ d := fun e => ir c (by rw [← e] at cd; exact cd)
    have key : ∀ v b c d, adG S C m v b → adG S C m b c → f c = f v → d ≠ b → (adG S C m v d ∨ adG S C m c d) → f d = f b → b < v → c < v → d < v → False := fun v b c d h1 h2 h3 h4 h5 h6 l1 l2 l3 =>
      h v h1.1 ((barP_ad hm h1.1).2 (.inr ⟨b, c, d, h1, by rw [cu l1]; omega, h2, by rw [cu l2, h3], h4, h5, by rw [cu l3, cu l1, h6]⟩))
    by_cases m1 : b < a ∧ c < a ∧ d < a
    · exact key a b c d ab bc eca hdb (.inr cd) edb m1.1 m1.2.1 m1.2.2
    · by_cases m2 : a < b ∧ c < b ∧ d < b
      · exact key b c d a bc cd edb (Ne.symm hca) (.inl (sy _ _ ab)) eca.symm m2.2.1 m2.2.2 m2.1
      · by_cases m3 : a < c ∧ b < c ∧ d < c
        · exact key c b a d (sy _ _ bc) (sy _ _ ab) eca.symm hdb (.inl cd) edb m3.2.1 m3.1 m3.2.2
        · exact key d c b a (sy _ _ cd) (sy _ _ bc) edb.symm (Ne.symm hca) (.inr (sy _ _ ab)) eca.symm (by omega) (by omega) (by omega)
def GdA (S C : List Int) (m : Nat) (f : Nat → Nat) : Prop := GdN S C m f ∧ ∀ u v, adG S C m u v → f u ≤ f v → FoP (adG S C m) (TwC (fun i => (f i : Int)) m (f u : Int) (f v : Int))
theorem gd_ac (hm : MayP (m : Int) (m : Int) S C) (hg : GraP S C m m) (f : Nat → Nat) : GdA S C m f ↔ ∀ v, v < m → ¬ BarA S C m (cuE f v) v (f v) := by
  have cu : ∀ {v i : Nat}, i < v → cuE f v i = (f i : Int) := fun {v i} h => by simp [cuE, h]
  constructor
  · rintro ⟨hN, hF⟩
    have hA : AcyC S C m (fun i => (f i : Int)) := fun c d hc hd T hT hC v hTv => by
      obtain ⟨p, q, _, h1, _, ap, _⟩ := hC v hTv
      have t1 := (hT v hTv).2
      have t2 := (hT p h1).2
      have hne := hN p v ap
      simp only at t1 t2
      by_cases hl : f p ≤ f v
      · refine hF p v ap hl T (fun x hx => ?_) hC v hTv
        have := hT x hx
        refine ⟨this.1, ?_⟩
        have k := this.2
        simp only at k ⊢
        omega
      · refine hF v p (adG.sy hg _ _ ap) (by omega) T (fun x hx => ?_) hC v hTv
        have := hT x hx
        refine ⟨this.1, ?_⟩
        have k := this.2
        simp only at k ⊢
        omega
    intro v hv hb
    have hAv : AcyC S C m (cuE f v) := fun c d hc hd => (hA c d hc hd).set (fun x hx => ⟨hx.1, by
      have k := hx.2
      unfold cuE at k
      by_cases hl : x < v
      · rw [if_pos hl] at k; exact k
      · rw [if_neg hl] at k; omega⟩)
    rcases hb with hb | ⟨u1, u2, c, hne, a1, a2, e1, e2, w⟩
    · exact (gd_nb hm hg f).1 hN v hv hb
    · have hf2 : FoP (adG S C m) (fun u => TwC (cuE f v) m (c : Int) (f v : Int) u ∨ u = v) := (hA (c : Int) (f v : Int) (by omega) (by omega)).set (fun x hx => by
        rcases hx with hx | rfl
        · refine ⟨hx.1, ?_⟩
          have k := hx.2
          unfold cuE at k
          by_cases hl : x < v
          · rw [if_pos hl] at k; exact k
          · rw [if_neg hl] at k; omega
        · exact ⟨hv, .inr rfl⟩)
      refine hne ((forest_add (n := 0) (adG.ir hg) (adG.sy hg) ⟨List.range m, fun x hx => List.mem_range.2 hx.1⟩ (hAv c (f v) (by omega) (by omega)) (fun h => ?_)).1 hf2 u1 u2 (adG.sy hg _ _ a1) (adG.sy hg _ _ a2) w)
      have := h.2
      rw [cuE_fresh] at this
      omega
  · intro h
    have hN : GdN S C m f := (gd_nb hm hg f).2 (fun v hv hb => h v hv (.inl hb))
    have key : ∀ v, v ≤ m → AcyC S C m (cuE f v) := fun v => by
      induction v with
      | zero =>
        intro _ c d hc hd T hT _ x hx
        · have := (hT x hx).2
          unfold cuE at this
          rw [if_neg (Nat.not_lt_zero x)] at this
          omega
      | succ v ih =>
        intro hv
        rw [cuE_upd]
        exact (ih (by omega)).next hm hg (by omega) (cuE_fresh f v) (h v (by omega))
    refine ⟨hN, fun u v ha hl => (key m (Nat.le_refl _) (f u : Int) (f v : Int) (by omega) (by omega)).set (fun x hx => ⟨hx.1, by
      have k := hx.2
      rw [cu hx.1]
      exact k⟩)⟩
end
end Go.Proofs.YtgjokididdffhaaGreat
