/-
  GRAPHS: colour.Columns, Rows: contracts.
-/
import Derived.Test.YtdcdgojcboinaaaCg9
import Derived.Test.YtdcdgojcboinaaaGiv
namespace Go.Proofs.Ytdcdgojcboinaaa
open Go.RowKit Go.Deep
set_option linter.unusedVariables false

/-- What is in the things that a relation tells. -/
theorem grR_mem {P : Nat → Nat → Prop} {u : Nat} (v : Int) : ∀ k, (v ∈ grR P u k ↔ ∃ j : Nat, j < k ∧ v = (j : Int) ∧ P u j)
  | 0 => by simp [grR]
  | k + 1 => by
    simp only [grR, List.mem_append]
    rw [grR_mem v k]
    constructor
    · rintro (⟨j, h1, h2, h3⟩ | h)
      · exact ⟨j, by omega, h2, h3⟩
      · by_cases c : tb (P u k) = true
        · rw [if_pos c] at h
          exact ⟨k, by omega, by simpa using h, tb_iff.1 c⟩
        · rw [if_neg c] at h
          cases h
    · rintro ⟨j, h1, h2, h3⟩
      by_cases e : j = k
      · subst e
        right
        rw [if_pos (tb_yes h3), h2]
        simp
      · exact .inl ⟨j, by omega, h2, h3⟩
theorem mem_getD {xs : List Int} {v : Int} : v ∈ xs ↔ ∃ p, p < xs.length ∧ xs.getD p 0 = v := by
  rw [List.mem_iff_getElem?]
  constructor
  · rintro ⟨i, h⟩
    obtain ⟨hi, he⟩ := List.getElem?_eq_some_iff.1 h
    exact ⟨i, hi, by simp [List.getD, h]⟩
  · rintro ⟨p, hp, he⟩
    refine ⟨p, ?_⟩
    rw [List.getElem?_eq_getElem hp]
    simp [List.getD, hp] at he
    rw [he]
/-- Pairs of a list's things. -/
theorem MeP.mem {xs : List Int} {u v : Nat} (hx : ∀ j, j < xs.length → 0 ≤ xs.getD j 0 ∧ xs.getD j 0 < 128) (hv : v < 128) : MeP xs xs.length 0 (u * 128 + v) ↔ ((u : Int) ∈ xs ∧ (v : Int) ∈ xs) := by
  rw [mem_getD, mem_getD]
  constructor
  · rintro ⟨p, q, h, e⟩
    rcases h with ⟨h1, h2⟩ | ⟨h1, h2⟩
    · have g1 := hx p h1
      have g2 := hx q h2
      exact ⟨⟨p, h1, by omega⟩, ⟨q, h2, by omega⟩⟩
    · omega
  · rintro ⟨⟨p, h1, e1⟩, ⟨q, h2, e2⟩⟩
    exact ⟨p, q, .inl ⟨h1, h2⟩, by rw [e1, e2]; simp⟩
/-- Columns that meet in a row; rows that meet in a column. -/
def CoP (st cols : List Int) (R : Nat) (u v : Nat) : Prop := u ≠ v ∧ ∃ k, k < R ∧ InC st cols u k ∧ InC st cols v k
def RwP (st cols : List Int) (width : Nat) (u v : Nat) : Prop := u ≠ v ∧ ∃ c, c < width ∧ InC st cols c u ∧ InC st cols c v
theorem rowL_mem {R : Nat} {width : Int} {st cols : List Int} (hm : MayP (R : Int) width st cols) {k c : Nat} (hk : k < R) : ((c : Int) ∈ rowL st cols k) ↔ InC st cols c k := by
  obtain ⟨X, Y, hR⟩ := hm.rowAt (k := k) (by omega)
  unfold rowL InC
  rw [hR.hX, hR.hY, mem_getD]
  have hl : ((cols.drop ((X : Int)).toNat).take (((Y : Int)).toNat - ((X : Int)).toNat)).length = Y - X := by
    have := hR.lt
    simp
    omega
  rw [hl]
  have e : ∀ i, i < Y - X → ((cols.drop ((X : Int)).toNat).take (((Y : Int)).toNat - ((X : Int)).toNat)).getD i 0 = cols.getD (X + i) 0 := fun i hi => by simp [List.getD, List.getElem?_drop, hi]
  constructor
  · rintro ⟨p, hp, h⟩
    rw [e p hp] at h
    exact ⟨X + p, by omega, by omega, h⟩
  · rintro ⟨j, h1, h2, h3⟩
    exact ⟨j - X, by omega, by rw [e _ (by omega), show X + (j - X) = j by omega]; exact h3⟩
theorem rowL_rng {R : Nat} {width : Nat} {st cols : List Int} (hm : MayP (R : Int) (width : Int) st cols) {k : Nat} (hk : k < R) : ∀ j, j < (rowL st cols k).length → 0 ≤ (rowL st cols k).getD j 0 ∧ (rowL st cols k).getD j 0 < 128 := by
  intro j hj
  obtain ⟨X, Y, hR⟩ := hm.rowAt (k := k) (by omega)
  have hf := hm.head.fit
  have eL : rowL st cols k = (cols.drop X).take (Y - X) := by unfold rowL; rw [hR.hX, hR.hY]; simp
  have hl : (rowL st cols k).length = Y - X := by rw [eL]; have := hR.lt; simp; omega
  have hrow := (RowP.sub hR.le).2 hR.row
  rw [← eL] at hrow
  have := hrow.rng j (Nat.zero_le _) (by omega)
  omega
theorem MtP.cols {R width : Nat} {st cols : List Int} (hm : MayP (R : Int) (width : Int) st cols) {u v : Nat} (hv : v < width) : (MtP (rowL st cols) R (u * 128 + v) ∧ u ≠ v) ↔ CoP st cols R u v := by
  have hf := hm.head.fit
  unfold MtP CoP
  constructor
  · rintro ⟨⟨i, hi, h⟩, hne⟩
    rw [MeP.mem (rowL_rng hm hi) (by omega), rowL_mem hm hi, rowL_mem hm hi] at h
    exact ⟨hne, i, hi, h⟩
  · rintro ⟨hne, i, hi, h⟩
    exact ⟨⟨i, hi, by rw [MeP.mem (rowL_rng hm hi) (by omega), rowL_mem hm hi, rowL_mem hm hi]; exact h⟩, hne⟩
theorem grR_rng {P : Nat → Nat → Prop} {u R : Nat} (hR : R ≤ 128) : ∀ j, j < (grR P u R).length → 0 ≤ (grR P u R).getD j 0 ∧ (grR P u R).getD j 0 < 128 := by
  intro j hj
  obtain ⟨i, h1, h2, _⟩ := (grR_mem ((grR P u R).getD j 0) R).1 (mem_getD.2 ⟨j, hj, rfl⟩)
  omega
theorem MtP.rows {R width : Nat} {st cols : List Int} (hm : MayP (R : Int) (width : Int) st cols) {u v : Nat} (hu : u < R) (hv : v < R) : (MtP (fun c => grR (InC st cols) c R) width (u * 128 + v) ∧ u ≠ v) ↔ RwP st cols width u v := by
  have hf := hm.head.fit
  have mem : ∀ c w : Nat, w < R → ((w : Int) ∈ grR (InC st cols) c R ↔ InC st cols c w) := fun c w hw => by
    rw [grR_mem]
    constructor
    · rintro ⟨j, h1, h2, h3⟩
      rw [show w = j by omega]
      exact h3
    · intro h
      exact ⟨w, hw, rfl, h⟩
  unfold MtP RwP
  constructor
  · rintro ⟨⟨i, hi, h⟩, hne⟩
    rw [MeP.mem (grR_rng (by omega)) (by omega), mem i u hu, mem i v hv] at h
    exact ⟨hne, i, hi, h⟩
  · rintro ⟨hne, i, hi, h⟩
    exact ⟨⟨i, hi, by rw [MeP.mem (grR_rng (by omega)) (by omega), mem i u hu, mem i v hv]; exact h⟩, hne⟩
/-- A pattern and an error's number. -/
def GqP (w w' : World) (e : Ending) (n : Nat) (S C : List Int) (er : Int) : Prop := ∃ a1 c1 a2 c2, e = .returned (.tuple #[.agg #[.int .i64 (n : Int), .int .i64 (n : Int), .slice a1 S.length c1, .slice a2 C.length c2], .int .i64 er]) ∧ SlI w' a1 S.length c1 S ∧ SlI w' a2 C.length c2 C ∧ Below w.heap.size w w' ∧ (∀ z, a1 = some z → w.heap.size ≤ z.block) ∧ (∀ z, a2 = some z → w.heap.size ≤ z.block)
theorem RoV.lsI {W : World} {L R : Nat} {width : Int} {a2 : Option Addr} {n2 c2 : Nat} {st cols : List Int} (h : RoV W L R (rowV st a2 c2)) (h2 : SlI W a2 n2 c2 cols) (hb2 : n2 ≤ 17592186044416) (hm : MayP (R : Int) width st cols) : LsI W L R (rowL st cols) := by
  intro i hi
  obtain ⟨X, Y, hRow⟩ := hm.rowAt (k := i) (by omega)
  have hln := h2.len
  have hsub := h2.sub hRow.le (by rw [← hln]; exact hRow.lt)
  have hcell := (h i hi).1
  have eL : rowL st cols i = (cols.drop X).take (Y - X) := by unfold rowL; rw [hRow.hX, hRow.hY]; simp
  have hV : rowV st a2 c2 i = subV a2 c2 X Y := by unfold rowV; rw [hRow.hX, hRow.hY]; simp
  rw [hV] at hcell
  rw [← eL] at hsub
  have := hRow.lt
  exact ⟨_, _, _, hcell, hsub, by omega⟩
theorem LnI.lsI {W : World} {t L R : Nat} {f : Nat → Value} {xs : Nat → List Int} (h : LnI W t L R f xs) (hl : ∀ r, r < R → (xs r).length ≤ 17592186044416) : LsI W L R xs := by
  intro i hi
  obtain ⟨a, c, hv, hs⟩ := own_slI (h.own i hi)
  have hc := h.row.cell hi
  rw [hv] at hc
  exact ⟨a, _, c, hc, hs, hl i hi⟩
end Go.Proofs.Ytdcdgojcboinaaa

namespace Go.Proofs.Ytdcdgojcboinaaa
open Go.RowKit Go.Deep
set_option linter.unusedVariables false

/-- What a brush holds: its box, the colours, the marks; its graph lies elsewhere. -/
structure BrI (W : World) (X R : Nat) (vs : List Value) (b1 : Option Addr) (m1 d1 : Nat) (b2 : Option Addr) (m2 d2 : Nat) (g h : Nat) (cnt : Nat) (cs ls : Nat → Int) (st cols : List Int) : Prop where
  box : BoxP W X vs
  v9 : vs[9]? = some (.int .i64 (R : Int))
  v10 : vs[10]? = some (.int .i64 (R : Int))
  v11 : vs[11]? = some (.slice b1 m1 d1)
  v12 : vs[12]? = some (.slice b2 m2 d2)
  v13 : vs[13]? = some (.slice (some ⟨g, 0, none⟩) R R)
  v14 : vs[14]? = some (.int .i64 (cnt : Int))
  v15 : vs[15]? = some (.slice (some ⟨h, 0, none⟩) R R)
  col : RoV W g R (fun i => .int .i64 (cs i))
  last : RoV W h R (fun i => .int .i64 (ls i))
  s1 : SlI W b1 m1 d1 st
  s2 : SlI W b2 m2 d2 cols
  o1 : ∀ z, b1 = some z → st ≠ [] → z.block ≠ X ∧ z.block ≠ g ∧ z.block ≠ h
  o2 : ∀ z, b2 = some z → cols ≠ [] → z.block ≠ X ∧ z.block ≠ g ∧ z.block ≠ h
  ne : g ≠ h ∧ g ≠ X ∧ h ≠ X
theorem BrI.below {W W' : World} {X R : Nat} {vs : List Value} {b1 : Option Addr} {m1 d1 : Nat} {b2 : Option Addr} {m2 d2 : Nat} {g h cnt : Nat} {cs ls : Nat → Int} {st cols : List Int} (k : BrI W X R vs b1 m1 d1 b2 m2 d2 g h cnt cs ls st cols) (b : Below W.heap.size W W') : BrI W' X R vs b1 m1 d1 b2 m2 d2 g h cnt cs ls st cols :=
  ⟨k.box.below b, k.v9, k.v10, k.v11, k.v12, k.v13, k.v14, k.v15, k.col.below b, k.last.below b, k.s1.below b, k.s2.below b, k.o1, k.o2, k.ne⟩
/-- The neighbours of a thing that have a colour. -/
def cldL (cs : Nat → Int) : List Int → List Int
  | [] => []
  | u :: l => (if cs u.toNat = -1 then [] else [u]) ++ cldL cs l
theorem cldL_snoc (cs : Nat → Int) (u : Int) : ∀ l, cldL cs (l ++ [u]) = cldL cs l ++ (if cs u.toNat = -1 then [] else [u])
  | [] => by simp [cldL]
  | x :: l => by simp only [List.cons_append, cldL]; rw [cldL_snoc cs u l, List.append_assoc]
theorem cldL_len (cs : Nat → Int) : ∀ l, (cldL cs l).length ≤ l.length
  | [] => Nat.le_refl _
  | x :: l => by
    have := cldL_len cs l
    simp only [cldL, List.length_append, List.length_cons]
    split <;> simp <;> omega
/-- A new list. -/
def CldP (w w' : World) (e : Ending) (l : List Int) : Prop := ∃ a c, e = .returned (.slice a l.length c) ∧ SlI w' a l.length c l ∧ (∀ z, a = some z → w.heap.size ≤ z.block) ∧ Below w.heap.size w w'
end Go.Proofs.Ytdcdgojcboinaaa

namespace Go.Proofs.Ytdcdgojcboinaaa
open Go.RowKit Go.Deep
set_option linter.unusedVariables false

/-- The worlds that are w but for new memory. -/
structure Ext (w0 : World) where
  w : World
  bel : Below w0.heap.size w0 w
theorem Ext.ne (w : World) : Nonempty (Ext w) := ⟨⟨w, Below.refl _ _⟩⟩
section
variable {P : Program}
theorem wp_region_ext {id : Nat} {Q : Exit → Act → World → Prop} {a : Act} {w : World} {l : List Oper} (hm : P.follows .mixedOrders = true) (hB : Region.lexB .any l.toArray = true)
    (h : wpQuiet P l.toArray (fun w' => ∃ x : Ext w, w' = x.w) (fun a' => ∀ w', (∃ x : Ext w, w' = x.w) → Q .normal a' w') l a) : (Code.region id l.toArray true).wp P Q a w :=
  wp_region_quiet (C := fun w' => ∃ x : Ext w, w' = x.w) hm hB ⟨⟨w.drew, (Below.refl _ _).drew⟩, rfl⟩ (by simpa using h)
end
/-- A callee's contract in such a world. -/
theorem Ext.call {P : Program} {f : FuncId} {args : Array Value} {w : World} {x : Ext w} {v : Value} {R : Ending → World → Prop} (h : Calls P f args x.w R) (hR : ∀ e w', R e w' → e = .returned v ∧ Below x.w.heap.size x.w w') :
    Calls P f args x.w fun e w'' => e = .returned v ∧ ∃ y : Ext w, w'' = y.w :=
  h.mono fun e w' hr => ⟨(hR e w' hr).1, ⟨⟨w', x.bel.trans ((hR e w' hr).2.mono x.bel.size)⟩, rfl⟩⟩
theorem Ext.cell {w : World} (x : Ext w) {p : Addr} {v : Value} (h : w.cell? p = some v) : x.w.cell? p = some v := (x.bel.cell (p := p) (World.block_lt_of_cell? _ _ h)).trans h
end Go.Proofs.Ytdcdgojcboinaaa
