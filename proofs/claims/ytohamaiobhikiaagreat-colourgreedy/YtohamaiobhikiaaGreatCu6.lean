/-
  BOUNDS: task.countAhead: contract.
-/
import Derived.Test.YtohamaiobhikiaaGreatCi1
import Derived.Test.YtohamaiobhikiaaGreatCi2
import Derived.Test.YtohamaiobhikiaaGreatCu5
namespace Go.Proofs.YtohamaiobhikiaaGreat
open Go.RowKit Go.Deep
set_option linter.unusedVariables false

/-- A row's list. -/
theorem crow_list (R : Nat) (width : Int) (a1 a2 : Option Addr) (n1 c1 n2 c2 : Nat) (st cols : List Int) (r : Nat) (w : World) (h1 : SlI w a1 n1 c1 st) (h2 : SlI w a2 n2 c2 cols) (hb1 : n1 ≤ 17592186044000) (hb2 : n2 ≤ 17592186044000) (hm : MayP (R : Int) width st cols) (hr : r < R) :
    Calls Tryz.prog 74 #[patV (R : Int) width a1 n1 c1 a2 n2 c2, .int .i64 (r : Int)] w fun e w' => ∃ a c, e = .returned (.slice a (rowL st cols r).length c) ∧ SlI w' a (rowL st cols r).length c (rowL st cols r) ∧ (rowL st cols r).length ≤ 17592186044000 ∧ (∀ y, a = some y → rowL st cols r ≠ [] → ∃ t, a2 = some t ∧ t.block = y.block) ∧ Below w.heap.size w w' := by
  obtain ⟨X, Y, hR⟩ := hm.rowAt (k := r) (by omega)
  refine (crow_any R width a1 a2 n1 c1 n2 c2 st cols r X Y w h1 h2 (by omega) (by omega) hm hr hR).mono ?_
  rintro _ w' ⟨rfl, b⟩
  have hsub := (h2.below b).sub hR.le (by rw [← h2.len]; exact hR.lt)
  have hl : rowL st cols r = (cols.drop X).take (Y - X) := by
    unfold rowL
    rw [hR.hX, hR.hY]
    simp
  have hlen : (rowL st cols r).length = Y - X := by
    rw [hl, List.length_take, List.length_drop]
    have := hR.lt
    omega
  unfold subV
  refine ⟨_, _, by rw [hlen], by rw [hlen, hl]; exact hsub, by rw [hlen]; have := hR.lt; have := h2.len; omega, fun y hy _ => ?_, b⟩
  by_cases e : c2 = X
  · rw [if_pos e] at hy
    exact ⟨y, hy, rfl⟩
  · rw [if_neg e] at hy
    cases h : a2 with
    | none => rw [h] at hy; simp at hy
    | some t =>
      rw [h] at hy
      simp at hy
      refine ⟨t, rfl, ?_⟩
      rw [← hy]
      unfold Addr.add
      split <;> rfl
/-- Near things, by the first i of a thing's neighbours. -/
def NeT (S C : List Int) (xs : List Int) (m : Nat) (wd : Bool) (v : Nat) (L : List Int) (i k : Nat) : Prop := (∃ p, p < i ∧ L.getD p 0 = (k : Int)) ∨ (wd = true ∧ ∃ p, p < i ∧ posI xs m (L.getD p 0).toNat < posI xs m v ∧ (k : Int) ∈ rowL S C (L.getD p 0).toNat)
/-- Near things. -/
def NeaC (S C : List Int) (xs : List Int) (m : Nat) (wd : Bool) (v k : Nat) : Prop := NeT S C xs m wd v (rowL S C v) (rowL S C v).length k
theorem row_rng {m : Nat} {S C : List Int} (hm : MayP (m : Int) (m : Int) S C) {v : Nat} (hv : v < m) {p : Nat} (hp : p < (rowL S C v).length) : 0 ≤ (rowL S C v).getD p 0 ∧ (rowL S C v).getD p 0 < (m : Int) := by
  have h0 := rowL_rng hm hv p hp
  obtain ⟨c, hc⟩ : ∃ c : Nat, (rowL S C v).getD p 0 = (c : Int) := ⟨((rowL S C v).getD p 0).toNat, by omega⟩
  rw [hc]
  obtain ⟨X', Y', hR'⟩ := hm.rowAt (k := v) (by omega)
  obtain ⟨j, j1, j2, j3⟩ := (rowL_mem hm hv).1 (mem_getD.2 ⟨p, hp, hc⟩)
  rw [hR'.hX] at j1
  rw [hR'.hY] at j2
  have := hR'.row.rng j (by omega) (by omega)
  omega
/-- What countAhead answers. -/
def CtP (S C : List Int) (xs : List Int) (m : Nat) (wd : Bool) (v h X o cnt : Nat) (w w' : World) (e : Ending) : Prop := ∃ ls' : Nat → Int, e = .returned (.int .i64 (cnP (fun j => NeaC S C xs m wd v (xs.getD j 0).toNat) (posI xs m v).toNat : Int)) ∧ RoV w' h m (fun i => .int .i64 (ls' i)) ∧ (∀ k, k < m → ls' k ≤ ((cnt + 1 : Nat) : Int)) ∧ (w'.cell? ⟨X, o, none⟩ = some (.int .i64 ((cnt + 1 : Nat) : Int)) ∧ w'.frozen? ⟨X, o, none⟩ = false) ∧ w'.cell? ⟨X, o + 1, none⟩ = some (.slice (some ⟨h, 0, none⟩) m m) ∧ Chg (fun j => j = h ∨ j = X) w w'
theorem Chg.then2 {S T : Nat → Prop} {a b c : World} (h : Chg S a b) (k : Chg T b c) (hs : ∀ k, k < a.heap.size → T k → S k) : Chg S a c :=
  ⟨k.os.trans h.os, k.tape.trans h.tape, k.output.trans h.output, Nat.le_trans h.size k.size, fun j hj hn => (k.block j (Nat.lt_of_lt_of_le hj h.size) (fun t => hn (hs j hj t))).trans (h.block j hj hn)⟩
theorem NeT_next {S C : List Int} {xs : List Int} {m : Nat} {wd : Bool} {v : Nat} {L : List Int} {i u : Nat} (hu : L.getD i 0 = (u : Int)) (k : Nat) : NeT S C xs m wd v L (i + 1) k ↔ ((NeT S C xs m wd v L i k ∨ k = u) ∨ (wd = true ∧ posI xs m u < posI xs m v ∧ (k : Int) ∈ rowL S C u)) := by
  have eu : ((u : Int)).toNat = u := by omega
  constructor
  · rintro (⟨p, hp, e⟩ | ⟨h1, p, hp, h2, h3⟩)
    · by_cases c : p = i
      · subst c; left; right; rw [hu] at e; omega
      · exact .inl (.inl (.inl ⟨p, by omega, e⟩))
    · by_cases c : p = i
      · subst c; right; rw [hu, eu] at h2 h3; exact ⟨h1, h2, h3⟩
      · exact .inl (.inl (.inr ⟨h1, p, by omega, h2, h3⟩))
  · rintro (((⟨p, hp, e⟩ | ⟨h1, p, hp, h2, h3⟩) | e) | ⟨h1, h2, h3⟩)
    · exact .inl ⟨p, by omega, e⟩
    · exact .inr ⟨h1, p, by omega, h2, h3⟩
    · exact .inl ⟨i, by omega, by rw [hu, e]⟩
    · exact .inr ⟨h1, i, by omega, by rw [hu, eu]; exact h2, by rw [hu, eu]; exact h3⟩
theorem cnP_none {P : Nat → Prop} {k : Nat} (h : ∀ j, j < k → ¬ P j) (n : Nat) (hn : n ≤ k) : cnP P n = 0 := by
  induction n with
  | zero => rfl
  | succ n ih => rw [cnP_next, ih (by omega), tb_no (h n (by omega))]; rfl
end Go.Proofs.YtohamaiobhikiaaGreat

namespace Go.Proofs.YtohamaiobhikiaaGreat
open Go.RowKit Go.Deep
set_option linter.unusedVariables false

/-- Neighbours. -/
def adG (st cols : List Int) (R : Nat) (u v : Nat) : Prop := u < R ∧ v < R ∧ InC st cols v u
theorem adG.sy {st cols : List Int} {R : Nat} (hg : GraP st cols R R) : ∀ u v, adG st cols R u v → adG st cols R v u := fun u v h => ⟨h.2.1, h.1, hg.2.1 _ _ h.2.1 h.1 h.2.2⟩
theorem adG.ir {st cols : List Int} {R : Nat} (hg : GraP st cols R R) : ∀ u, ¬ adG st cols R u u := fun u h => hg.2.2 ⟨u, h.1, h.2.2⟩
/-- Worlds in which only the array's ways have been made shorter. -/
structure RgX (w0 : World) (X o R : Nat) (ro h : Nat → Nat) (M : Nat) where
  w : World
  arr : ∃ pf', RoF w X o pf' ∧ UfI (elD R) pf' ro h M
  frc : FrC X o w0 w
theorem wp_region_rg {P : Program} {X o R : Nat} {ro h : Nat → Nat} {M : Nat} {id : Nat} {Q : Exit → Act → World → Prop} {a : Act} {w : World} {l : List Oper} (hm : P.follows .mixedOrders = true) (hB : Region.lexB .any l.toArray = true) (hA : ∃ pf', RoF w X o pf' ∧ UfI (elD R) pf' ro h M)
    (hh : wpQuiet P l.toArray (fun w' => ∃ x : RgX w X o R ro h M, w' = x.w) (fun a' => ∀ w', (∃ x : RgX w X o R ro h M, w' = x.w) → Q .normal a' w') l a) : (Code.region id l.toArray true).wp P Q a w :=
  wp_region_quiet (C := fun w' => ∃ x : RgX w X o R ro h M, w' = x.w) hm hB ⟨⟨w.drew, by obtain ⟨p, h1, h2⟩ := hA; exact ⟨p, h1.below (Below.refl _ _).drew, h2⟩, (FrC.refl _ _ _).drew⟩, rfl⟩ (by simpa using hh)
theorem RgX.ne {w : World} {X o R : Nat} {ro h : Nat → Nat} {M : Nat} (hA : ∃ pf', RoF w X o pf' ∧ UfI (elD R) pf' ro h M) : Nonempty (RgX w X o R ro h M) := ⟨⟨w, hA, FrC.refl _ _ _⟩⟩
theorem RgX.root {w : World} {X o R : Nat} {ro h : Nat → Nat} {M : Nat} (x : RgX w X o R ro h M) (a : Nat) (hR : R ≤ 128) (ha : elD R a) : Calls Tryz.prog 107 #[.pointer (some ⟨X, o, none⟩), .int .i64 (a : Int)] x.w fun e w'' => e = .returned (.int .i64 (ro a : Int)) ∧ ∃ y : RgX w X o R ro h M, w'' = y.w := by
  obtain ⟨pf, h1, h2⟩ := x.arr
  refine (croot_any X o R a pf ro h M x.w hR h1 h2 ha).mono ?_
  rintro e w'' ⟨he, pf', k1, k2, k3⟩
  exact ⟨he, ⟨w'', ⟨pf', k1, k2⟩, x.frc.trans k3⟩, rfl⟩
theorem RgX.elem {w : World} {X o R : Nat} {ro h : Nat → Nat} {M : Nat} (x : RgX w X o R ro h M) (v k : Nat) (hv : v < 128) (hk : k < 128) : Calls Tryz.prog 108 #[.int .i64 (v : Int), .int .i64 (k : Int)] x.w fun e w'' => e = .returned (.int .i64 (elN v k : Int)) ∧ ∃ y : RgX w X o R ro h M, w'' = y.w :=
  (celement_any v k x.w hv hk).mono fun e w' hh => ⟨hh.1, x, hh.2⟩
/-- A list of pairs of one's own. -/
def ClC (W : World) (B : Nat) (v : Value) (k : Nat) : Prop := ∃ n xs, n ≤ k ∧ W.ownsRow B 153 2 v n xs
theorem info_two : (Tryz.prog.info? 153).map (fun i => (i.zero, i.size, i.bytes)) = some (some (.agg #[.int .i64 0, .int .i64 0]), 2, 16) := by kernel_rfl
theorem row_atF {st cols : List Int} {R : Nat} (hm : MayP (R : Int) (R : Int) st cols) {v i : Nat} (hv : v < R) (hi : i < (rowL st cols v).length) : ∃ u : Nat, (rowL st cols v).getD i 0 = (u : Int) ∧ u < R := by
  obtain ⟨X, Y, hR⟩ := hm.rowAt (k := v) (by omega)
  have e : rowL st cols v = (cols.drop X).take (Y - X) := by unfold rowL; rw [hR.hX, hR.hY]; simp
  have hg : (rowL st cols v).getD i 0 = cols.getD (X + i) 0 := by
    rw [e]
    rw [e] at hi
    have : i < Y - X := by rw [List.length_take] at hi; omega
    simp [List.getD, List.getElem?_take_of_lt this, List.getElem?_drop]
  have hr := hR.row.rng (X + i) (by omega) (by rw [e, List.length_take] at hi; have := hR.le; omega)
  exact ⟨(cols.getD (X + i) 0).toNat, by rw [hg]; omega, by omega⟩
theorem row_lenF {st cols : List Int} {R : Nat} (hm : MayP (R : Int) (R : Int) st cols) {v : Nat} (hv : v < R) : (rowL st cols v).length ≤ R := by
  obtain ⟨X, Y, hR⟩ := hm.rowAt (k := v) (by omega)
  have e : rowL st cols v = (cols.drop X).take (Y - X) := by unfold rowL; rw [hR.hX, hR.hY]; simp
  have key : ∀ i, X + i < Y → (i : Int) ≤ cols.getD (X + i) 0 := by
    intro i
    induction i with
    | zero => intro h; have := hR.row.rng (X + 0) (by omega) h; omega
    | succ i ih =>
      intro h
      have h1 := ih (by omega)
      have h2 := hR.row.up (X + (i + 1)) (by omega) h
      rw [show X + (i + 1) - 1 = X + i by omega] at h2
      omega
  rw [e, List.length_take]
  rcases Nat.eq_zero_or_pos (Y - X) with c | c
  · omega
  · have h1 := key (Y - X - 1) (by omega)
    have h2 := hR.row.rng (X + (Y - X - 1)) (by omega) (by omega)
    omega
theorem rowL_some {st cols : List Int} {v : Nat} (h : rowL st cols v ≠ []) : cols ≠ [] := fun e => h (by unfold rowL; rw [e]; simp)
theorem getD_mem {l : List Int} {i : Nat} {x : Int} (hi : i < l.length) (h : l.getD i 0 = x) : x ∈ l := by
  rw [← h]
  simp [List.getD, hi]
/-- The edges that have been taken. -/
def EdN (st cols : List Int) (R u i : Nat) (p q : Nat) : Prop := adG st cols R p q ∧ p ≤ q ∧ (p < u ∨ (p = u ∧ ∃ j, j < i ∧ (rowL st cols u).getD j 0 = (q : Int)))
/-- What a round of grow leaves. -/
def GwI (X o R : Nat) (cs : Nat → Int) (st cols : List Int) (wb W : World) (u i : Nat) : Prop := ∃ pf' ro h M, RoF W X o pf' ∧ UfI (elD R) pf' ro h M ∧ UfE (adG st cols R) cs R ro (EdN st cols R u i) ∧ FrC X o wb W
theorem GwI.skip {X o R : Nat} {cs : Nat → Int} {st cols : List Int} {wb W : World} {u i : Nat} (h : GwI X o R cs st cols wb W u i) {v : Nat} (hv : (rowL st cols u).getD i 0 = (v : Int)) (hs : v < u ∨ cs u = -1 ∨ cs v = -1) : GwI X o R cs st cols wb W u (i + 1) := by
  obtain ⟨p, r, a, M, h1, h2, h3, h4⟩ := h
  refine ⟨p, r, a, M, h1, h2, h3.more (fun x y a' b' he ea eb => ⟨he.1, he.2.1, ?_⟩), h4⟩
  rcases he.2.2 with c | ⟨c, j, hj, ej⟩
  · exact .inl c
  · right
    refine ⟨c, ?_⟩
    by_cases e : j = i
    · subst e
      rw [hv] at ej
      have hyv : y = v := by omega
      subst hyv c
      have := he.2.1
      rcases hs with hs | hs | hs <;> omega
    · exact ⟨j, by omega, ej⟩
theorem GwI.take {X o R : Nat} {cs : Nat → Int} {st cols : List Int} {wb W' : World} {u i : Nat} {pf ro h : Nat → Nat} {M : Nat} (hR : R ≤ 128) (hg : GraP st cols R R) (hU : UfI (elD R) pf ro h M) (hE : UfE (adG st cols R) cs R ro (EdN st cols R u i)) {v a b : Nat} (hu : u < R) (hv : v < R) (hv2 : (rowL st cols u).getD i 0 = (v : Int)) (hI : InC st cols v u) (ea : cs v = (a : Int)) (eb : cs u = (b : Int)) (ha : a < R) (hb : b < R) (hF' : RoF W' X o (upF pf (ro (elN u a)) (ro (elN v b)))) (hC : FrC X o wb W') : GwI X o R cs st cols wb W' u (i + 1) := by
  have D1 := elN_D hR hu ha
  have D2 := elN_D hR hv hb
  obtain ⟨h', M', hJ⟩ := hU.join (hU.rl _ D1) (hU.rl _ D2) (hU.fx _ D1) (hU.fx _ D2)
  refine ⟨_, _, h', M', hF', hJ, (hE.step (adG.sy hg) hR hu hv ea eb ha hb ⟨hu, hv, hI⟩).more (fun x y a' b' he _ _ => ?_), hC⟩
  rcases he.2.2 with c | ⟨c, j, hj, ej⟩
  · exact .inl ⟨he.1, he.2.1, .inl c⟩
  · by_cases e : j = i
    · subst e
      rw [hv2] at ej
      exact .inr ⟨c, by omega⟩
    · exact .inl ⟨he.1, he.2.1, .inr ⟨c, j, by omega, ej⟩⟩
/-- What grow leaves. -/
def GwP (X o R : Nat) (cs : Nat → Int) (st cols : List Int) (w w' : World) (e : Ending) : Prop := (∃ z, e = .returned z) ∧ ∃ pf' ro h M, RoF w' X o pf' ∧ UfI (elD R) pf' ro h M ∧ UfE (adG st cols R) cs R ro (fun u v => adG st cols R u v ∧ u ≤ v) ∧ FrC X o w w'
end Go.Proofs.YtohamaiobhikiaaGreat
