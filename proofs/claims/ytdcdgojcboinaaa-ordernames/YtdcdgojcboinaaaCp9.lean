/-
  ORDERS: the buckets as lists, plain; taking and shifting in them.
-/
import Derived.Test.YtdcdgojcboinaaaCp7
namespace Go.Proofs.Ytdcdgojcboinaaa
open Go.Shelf Go.RowKit Go.Deep
set_option linter.unusedVariables false

/-- The numbers below n that are so. -/
def filL (n : Nat) (P : Nat → Bool) : List Int := ((List.range n).filter P).map (fun q : Nat => (q : Int))
/-- Those from a on. -/
def filH (a n : Nat) (P : Nat → Bool) : List Int := ((List.range' a (n - a)).filter P).map (fun q : Nat => (q : Int))
theorem filL_split {n r : Nat} (P : Nat → Bool) (h : r < n) : filL n P = filL r P ++ ((if P r then [(r : Int)] else []) ++ filH (r + 1) n P) := by
  have e : List.range n = List.range r ++ ([r] ++ List.range' (r + 1) (n - (r + 1))) := by
    rw [List.range_eq_range', List.range_eq_range', show ([r] : List Nat) = List.range' r 1 from rfl, List.range'_append_1]
    have := List.range'_append_1 (s := 0) (m := r) (n := 1 + (n - (r + 1)))
    rw [Nat.zero_add] at this
    rw [this]
    congr 1
    omega
  unfold filL filH
  rw [e, List.filter_append, List.filter_append, List.map_append, List.map_append]
  congr 2
  by_cases hp : P r
  · simp [hp]
  · simp [hp]
theorem filL_len (n : Nat) (P : Nat → Bool) : (filL n P).length ≤ n := by
  unfold filL
  rw [List.length_map]
  have := List.length_filter_le P (List.range n)
  simpa using this
theorem filL_congr {n : Nat} {P Q : Nat → Bool} (h : ∀ q, q < n → P q = Q q) : filL n P = filL n Q := by
  unfold filL
  rw [List.filter_congr (fun x hx => h x (by simpa using hx))]
theorem filH_congr {a n : Nat} {P Q : Nat → Bool} (h : ∀ q, a ≤ q → q < n → P q = Q q) : filH a n P = filH a n Q := by
  unfold filH
  rw [List.filter_congr (fun x hx => by
    have := List.mem_range'_1.1 hx
    exact h x (by omega) (by omega))]
theorem filL_up (n : Nat) (P : Nat → Bool) : UpS (filL n P) (filL n P).length := by
  intro i h1 h2
  have hp : List.Pairwise (fun a b : Int => a < b) (filL n P) := by
    unfold filL
    rw [List.pairwise_map]
    exact (List.Pairwise.filter P List.pairwise_lt_range).imp (fun {a b} h => by omega)
  have := List.pairwise_iff_getElem.1 hp (i - 1) i (by omega) h2 (by omega)
  simpa [List.getD, List.getElem?_eq_getElem h2, List.getElem?_eq_getElem (show i - 1 < (filL n P).length by omega)] using this
theorem filL_lt {r : Nat} {P : Nat → Bool} {x : Int} (h : x ∈ filL r P) : x < (r : Int) := by
  obtain ⟨q, hq, rfl⟩ := List.mem_map.1 h
  have := (List.mem_filter.1 hq).1
  have := List.mem_range.1 this
  omega
theorem filH_ge {a n : Nat} {P : Nat → Bool} {x : Int} (h : x ∈ filH a n P) : (a : Int) ≤ x := by
  obtain ⟨q, hq, rfl⟩ := List.mem_map.1 h
  have := (List.mem_filter.1 hq).1
  have := List.mem_range'_1.1 this
  omega
theorem fil_bs {n r : Nat} (P : Nat → Bool) (h : r < n) : BsP (filL n P) (filL n P).length (r : Int) (filL r P).length := by
  have e := filL_split P h
  have hl : (filL r P).length ≤ (filL n P).length := by rw [e, List.length_append]; omega
  refine ⟨hl, fun k hk => ?_, fun k h1 h2 => ?_⟩
  · have hk2 : (filL n P).getD k 0 = (filL r P)[k] := by
      rw [e]
      simp [List.getD, List.getElem?_append_left hk, List.getElem?_eq_getElem hk]
    rw [hk2]
    exact filL_lt (List.getElem_mem hk)
  · have hk2 : (filL n P).getD k 0 ∈ (if P r then [(r : Int)] else []) ++ filH (r + 1) n P := by
      rw [e] at h2 ⊢
      rw [List.length_append] at h2
      simp only [List.getD]
      rw [List.getElem?_append_right h1, List.getElem?_eq_getElem (by omega)]
      exact List.getElem_mem _
    rcases List.mem_append.1 hk2 with hm | hm
    · by_cases hp : P r
      · rw [hp] at hm
        have : (filL n P).getD k 0 = (r : Int) := by simpa using hm
        omega
      · simp [hp] at hm
    · have := filH_ge hm
      omega
/-- Taken out. -/
theorem fil_out {n r : Nat} {P Q : Nat → Bool} (h : r < n) (hp : P r = true) (hq : Q r = false) (he : ∀ q, q < n → q ≠ r → Q q = P q) : (filL r P).length < (filL n P).length ∧ HasX (filL n P) (filL n P).length (r : Int) ∧ (filL n P).eraseIdx (filL r P).length = filL n Q := by
  have e1 := filL_split P h
  have e2 := filL_split Q h
  rw [hp] at e1
  rw [hq] at e2
  rw [filL_congr (n := r) (P := Q) (Q := P) (fun q hq => he q (by omega) (by omega)), filH_congr (a := r + 1) (n := n) (P := Q) (Q := P) (fun q h1 h2 => he q h2 (by omega))] at e2
  simp only [if_true, List.singleton_append] at e1
  simp only [Bool.false_eq_true, if_false, List.nil_append] at e2
  refine ⟨by rw [e1]; simp, ⟨(filL r P).length, by rw [e1]; simp, by rw [e1]; simp [List.getD]⟩, ?_⟩
  rw [e2, e1, List.eraseIdx_append_of_length_le (Nat.le_refl _)]
  simp
/-- Put in. -/
theorem fil_in {n r : Nat} {P Q : Nat → Bool} (h : r < n) (hp : P r = false) (hq : Q r = true) (he : ∀ q, q < n → q ≠ r → Q q = P q) : putL (filL n P) (filL r P).length (r : Int) = filL n Q := by
  have e1 := filL_split P h
  have e2 := filL_split Q h
  rw [hp] at e1
  rw [hq] at e2
  rw [filL_congr (n := r) (P := Q) (Q := P) (fun q hq => he q (by omega) (by omega)), filH_congr (a := r + 1) (n := n) (P := Q) (Q := P) (fun q h1 h2 => he q h2 (by omega))] at e2
  simp only [if_true, List.singleton_append] at e2
  simp only [Bool.false_eq_true, if_false, List.nil_append] at e1
  rw [e2, e1]
  unfold putL
  simp
/-- The first one. -/
theorem fil_first {n r : Nat} {P Q : Nat → Bool} (h : r < n) (hp : P r = true) (hlo : ∀ q, q < r → P q = false) (hq : Q r = false) (he : ∀ q, q < n → q ≠ r → Q q = P q) : filL n P = (r : Int) :: filL n Q := by
  have e1 := filL_split P h
  have e2 := filL_split Q h
  have e0 : filL r P = [] := by
    unfold filL
    rw [List.map_eq_nil_iff, List.filter_eq_nil_iff]
    intro q hq2
    rw [hlo q (by simpa using hq2)]
    simp
  rw [hp, e0] at e1
  rw [hq] at e2
  rw [filL_congr (n := r) (P := Q) (Q := P) (fun q hq => he q (by omega) (by omega)), e0, filH_congr (a := r + 1) (n := n) (P := Q) (Q := P) (fun q h1 h2 => he q h2 (by omega))] at e2
  simp only [if_true, List.nil_append, List.singleton_append] at e1
  simp only [Bool.false_eq_true, if_false, List.nil_append] at e2
  rw [e1, e2]
theorem fil_none {n : Nat} {P : Nat → Bool} (h : ∀ q, q < n → P q = false) : filL n P = [] := by
  unfold filL
  rw [List.map_eq_nil_iff, List.filter_eq_nil_iff]
  intro q hq
  rw [h q (by simpa using hq)]
  simp
theorem bkF_fil (br ct : Nat → Nat) (c : Nat) : ∀ k, bkF br ct k c = filL k (fun r => decide (ct (br r) = c))
  | 0 => rfl
  | k + 1 => by
    have ih := bkF_fil br ct c k
    simp only [bkF]
    unfold filL at *
    rw [List.range_succ, List.filter_append, List.map_append, ← ih]
    by_cases e : c = ct (br k)
    · simp [e]
    · have e' : ¬ ct (br k) = c := fun x => e x.symm
      simp [e, e']
theorem rkF_at (br : Nat → Nat) : ∀ (k r : Nat), r < k → (∀ a b, a < k → b < k → br a = br b → a = b) → rkF br k (br r) = (r : Int)
  | 0, r, h, _ => absurd h (Nat.not_lt_zero r)
  | k + 1, r, h, inj => by
    simp only [rkF]
    by_cases e : r = k
    · subst e; simp
    · have : ¬ br r = br k := fun x => e (inj r k h (by omega) x)
      rw [if_neg this]
      exact rkF_at br k r (by omega) (fun a b ha hb => inj a b (by omega) (by omega))
end Go.Proofs.Ytdcdgojcboinaaa

namespace Go.Proofs.Ytdcdgojcboinaaa
open Go.Shelf Go.RowKit Go.Deep
set_option linter.unusedVariables false
variable {A : Nat → Prop}

/-- The vertex of a rank is left, and has a count. -/
def bP (br : Nat → Nat) (gone : Nat → Bool) (ct : Nat → Nat) (c r : Nat) : Bool := !gone (br r) && decide (ct (br r) = c)
/-- The least count of one that is left. -/
def lowC (n : Nat) (br : Nat → Nat) (gone : Nat → Bool) (ct : Nat → Nat) : Nat := ((List.range n).find? (fun c => (List.range n).any (fun r => bP br gone ct c r))).getD 0
/-- The lowest rank with a count. -/
def lowR (n : Nat) (br : Nat → Nat) (gone : Nat → Bool) (ct : Nat → Nat) (c : Nat) : Nat := ((List.range n).find? (fun r => bP br gone ct c r)).getD 0
theorem find_range {n i : Nat} {p : Nat → Bool} (hi : i < n) (hp : p i = true) : ∃ k, (List.range n).find? p = some k ∧ k < n ∧ p k = true ∧ ∀ j, j < k → p j = false := by
  cases h : (List.range n).find? p with
  | none =>
    have := List.find?_eq_none.1 h i (by simpa using hi)
    exact absurd hp this
  | some k =>
    have h1 := List.find?_range_eq_some.1 h
    exact ⟨k, rfl, by simpa using h1.2.1, h1.1, fun j hj => by simpa using h1.2.2 j hj⟩
/-- What is lowest. -/
structure LowP (n : Nat) (br : Nat → Nat) (gone : Nat → Bool) (ct : Nat → Nat) (c r : Nat) : Prop where
  cn : c < n
  rn : r < n
  is : bP br gone ct c r = true
  clo : ∀ d q, d < c → q < n → bP br gone ct d q = false
  rlo : ∀ q, q < r → bP br gone ct c q = false
theorem low_is {n : Nat} {br : Nat → Nat} {gone : Nat → Bool} {ct : Nat → Nat} (h : ∃ r, r < n ∧ gone (br r) = false ∧ ct (br r) < n) : LowP n br gone ct (lowC n br gone ct) (lowR n br gone ct (lowC n br gone ct)) := by
  obtain ⟨r, hr, hg, hc⟩ := h
  have hb : bP br gone ct (ct (br r)) r = true := by simp [bP, hg]
  obtain ⟨c, e1, h1, h2, h3⟩ := find_range (p := fun c => (List.range n).any (fun r => bP br gone ct c r)) hc (List.any_eq_true.2 ⟨r, by simpa using hr, hb⟩)
  have ec : lowC n br gone ct = c := by unfold lowC; rw [e1]; rfl
  rw [ec]
  obtain ⟨q, hq, hb2⟩ := List.any_eq_true.1 h2
  obtain ⟨k, e4, h4, h5, h6⟩ := find_range (p := fun r => bP br gone ct c r) (by simpa using hq) hb2
  have er : lowR n br gone ct c = k := by unfold lowR; rw [e4]; rfl
  rw [er]
  refine ⟨h1, h4, h5, fun d q hd hq => ?_, h6⟩
  have := List.any_eq_false.1 (h3 d hd) q (by simpa using hq)
  simpa using this
/-- The buckets by what is left and by counts. -/
def BuQ (A : Nat → Prop) (W : World) (t X g0 gr gc gk gg n : Nat) (br : Nat → Nat) (rk : Nat → Int) (ct : Nat → Nat) (gone : Nat → Bool) : Prop := ∃ f, BuS A W t X g0 gr gc gk gg n f br rk ct (fun c => filL n (bP br gone ct c)) gone
theorem BuQ.below {W W' : World} {t X g0 gr gc gk gg n : Nat} {br : Nat → Nat} {rk : Nat → Int} {ct : Nat → Nat} {gone : Nat → Bool} (h : BuQ A W t X g0 gr gc gk gg n br rk ct gone) (k : Below W.heap.size W W') : BuQ A W' t X g0 gr gc gk gg n br rk ct gone := by
  obtain ⟨f, h⟩ := h
  exact ⟨f, h.below k⟩
theorem BuQ.re {B : Nat → Prop} {W : World} {t X g0 gr gc gk gg n : Nat} {br : Nat → Nat} {rk : Nat → Int} {ct : Nat → Nat} {gone : Nat → Bool} (h : BuQ A W t X g0 gr gc gk gg n br rk ct gone) (hB : ∀ j, j < W.heap.size → A j ∨ ¬ B j) (hB2 : ∀ j, B j → j < W.heap.size) : BuQ B W t X g0 gr gc gk gg n br rk ct gone := by
  obtain ⟨f, h⟩ := h
  exact ⟨f, ⟨h.box, h.r0, h.rr, h.rc, h.bk.re hB, h.gn, h.ne, h.lt, h.ht, hB2⟩⟩
theorem BuS.congr {W : World} {t X g0 gr gc gk gg n : Nat} {f : Nat → Value} {br : Nat → Nat} {rk : Nat → Int} {ct : Nat → Nat} {xs ys : Nat → List Int} {gone : Nat → Bool} (h : BuS A W t X g0 gr gc gk gg n f br rk ct xs gone) (e : ∀ c, c < n → xs c = ys c) : BuS A W t X g0 gr gc gk gg n f br rk ct ys gone := ⟨h.box, h.r0, h.rr, h.rc, h.bk.congr e, h.gn, h.ne, h.lt, h.ht, h.hA⟩
theorem olowest_q (t X g0 gr gc gk gg n c r : Nat) (br : Nat → Nat) (rk : Nat → Int) (ct : Nat → Nat) (gone : Nat → Bool) (w : World) (h : BuQ A w t X g0 gr gc gk gg n br rk ct gone) (hn : n ≤ 128) (hl : LowP n br gone ct c r) :
    Calls Try.prog 41 #[.pointer (some ⟨X, 0, none⟩)] w fun e w' => e = .returned (.int .i64 (c : Int)) ∧ Below w.heap.size w w' := by
  obtain ⟨f, h⟩ := h
  refine olowest_any t X g0 gr gc gk gg n c f br rk ct _ gone w h (by omega) (fun q hq => Nat.le_trans (filL_len _ _) (by omega)) hl.cn ?_ (fun d hd => fil_none (fun q hq => hl.clo d q hd hq))
  rw [fil_first (Q := fun q => if q = r then false else bP br gone ct c q) hl.rn hl.is hl.rlo (by simp) (fun q _ e => by simp [e])]
  exact List.cons_ne_nil _ _
theorem otake_q (t X g0 gr gc gk gg n c r : Nat) (br : Nat → Nat) (rk : Nat → Int) (ct : Nat → Nat) (gone : Nat → Bool) (w : World) (h : BuQ A w t X g0 gr gc gk gg n br rk ct gone) (hn : n ≤ 128) (hl : LowP n br gone ct c r) (hb : ∀ i, i < n → br i < n) (inj : ∀ a b, a < n → b < n → br a = br b → a = b) :
    Calls Try.prog 42 #[.pointer (some ⟨X, 0, none⟩), .int .i64 (c : Int)] w fun e w' => e = .returned (.int .i64 (br r : Int)) ∧ BuQ A w' t X g0 gr gc gk gg n br rk ct (fun u => if u = br r then true else gone u) ∧ Chg (fun j => j = gc ∨ j = gk ∨ j = gg ∨ (t ≤ j ∧ ¬ A j)) w w' := by
  obtain ⟨f, h⟩ := h
  have e1 := fil_first (Q := bP br (fun u => if u = br r then true else gone u) ct c) hl.rn hl.is hl.rlo (by simp [bP]) (fun q hq e => by
    have : ¬ br q = br r := fun x => e (inj q r hq hl.rn x)
    simp [bP, this])
  refine (otake_any t X g0 gr gc gk gg n c r _ f br rk ct _ gone w h hn hl.cn e1 hl.rn hb).mono ?_
  rintro e w' ⟨rfl, ⟨f', h'⟩, hC⟩
  refine ⟨rfl, ⟨f', h'.congr (fun d hd => ?_)⟩, hC⟩
  by_cases ed : d = c
  · simp [ed]
  · simp only [ed, if_false]
    refine filL_congr (fun q hq => ?_)
    by_cases eq : br q = br r
    · have hct : ct (br r) = c := by have := hl.is; simp [bP] at this; exact this.2
      simp [bP, eq, hct]
      exact fun _ x => ed x.symm
    · simp [bP, eq]
/-- A count that falls by one, if the vertex is left. -/
def decF (gone : Nat → Bool) (u : Nat) (ct : Nat → Nat) : Nat → Nat := fun x => if x = u ∧ gone u = false then ct u - 1 else ct x
theorem oshift_q (t X g0 gr gc gk gg n u r : Nat) (br : Nat → Nat) (rk : Nat → Int) (ct : Nat → Nat) (gone : Nat → Bool) (w : World) (h : BuQ A w t X g0 gr gc gk gg n br rk ct gone) (hn : n ≤ 128) (hr : r < n) (hu : br r = u) (hun : u < n) (hrk : rk u = (r : Int)) (inj : ∀ a b, a < n → b < n → br a = br b → a = b) (hc : ct u < n) (hok : gone u = false → 1 ≤ ct u) :
    Calls Try.prog 43 #[.pointer (some ⟨X, 0, none⟩), .int .i64 (u : Int), .int .i64 (-1)] w fun e w' => e = .returned (.tuple #[]) ∧ BuQ A w' t X g0 gr gc gk gg n br rk (decF gone u ct) gone ∧ Chg (fun j => j = gc ∨ j = gk ∨ j = gg ∨ (t ≤ j ∧ ¬ A j)) w w' := by
  obtain ⟨f, h⟩ := h
  cases hg : gone u
  · have h1 := hok hg
    obtain ⟨c, hcc⟩ : ∃ c, ct u = c := ⟨_, rfl⟩
    rw [hcc] at hc h1
    obtain ⟨d, rfl⟩ : ∃ d, c = d + 1 := ⟨c - 1, by omega⟩
    have hP : bP br gone ct (d + 1) r = true := by simp [bP, hu, hg, hcc]
    have hP2 : bP br gone ct d r = false := by simp [bP, hu, hg, hcc]
    have hne : ∀ q, q < n → q ≠ r → ¬ br q = u := fun q hq e x => e (inj q r hq hr (x.trans hu.symm))
    have hd : ∀ q, q < n → q ≠ r → ∀ k, bP br gone (decF gone u ct) k q = bP br gone ct k q := fun q hq e k => by simp [bP, decF, hne q hq e]
    have hdr : ∀ k, bP br gone (decF gone u ct) k r = decide (d = k) := fun k => by simp [bP, decF, hu, hg, hcc]
    have o1 := fil_out (n := n) (P := bP br gone ct (d + 1)) (Q := bP br gone (decF gone u ct) (d + 1)) hr hP (by rw [hdr]; simp) (fun q hq e => hd q hq e _)
    have o2 := fil_in (n := n) (P := bP br gone ct d) (Q := bP br gone (decF gone u ct) d) hr hP2 (by rw [hdr]; simp) (fun q hq e => hd q hq e _)
    refine (oshift_any t X g0 gr gc gk gg n u (d + 1) d r (filL r (bP br gone ct (d + 1))).length (filL r (bP br gone ct d)).length (-1) f br rk ct _ gone w h hn hun hg hcc (by omega) (by omega) (by omega) (by omega) hrk (fun q hq => Nat.le_trans (filL_len _ _) (by omega)) o1.1 (filL_up _ _) (fil_bs _ hr) o1.2.1 (filL_up _ _) (fil_bs _ hr)).mono ?_
    rintro e w' ⟨rfl, ⟨f', h'⟩, hC⟩
    refine ⟨rfl, ⟨f', ?_⟩, hC⟩
    have h2 := h'.congr (ys := fun c => filL n (bP br gone (decF gone u ct) c)) (fun k hk => by
      by_cases e1 : k = d
      · simp only [e1, if_true]; exact o2
      · simp only [e1, if_false]
        by_cases e2 : k = d + 1
        · simp only [e2, if_true]; exact o1.2.2
        · simp only [e2, if_false]
          refine filL_congr (fun q hq => ?_)
          by_cases e3 : q = r
          · rw [e3, hdr]
            have : ¬ d = k := fun x => e1 x.symm
            have h5 : ¬ d + 1 = k := fun x => e2 x.symm
            simp [bP, hu, hg, hcc, this, h5]
          · rw [hd q hq e3])
    exact ⟨h2.box, h2.r0, h2.rr, h2.rc.congr (fun q hq => by simp only [decF, hg, and_true, hcc]; by_cases e : q = u <;> simp [e]), h2.bk, h2.gn, h2.ne, h2.lt, h2.ht, h2.hA⟩
  · refine (oshift_gone t X g0 gr gc gk gg n u (-1) f br rk ct _ gone w h hn hun hg).mono ?_
    rintro e w' ⟨rfl, ⟨f', h'⟩, hC⟩
    have ed : decF gone u ct = ct := by funext x; simp [decF, hg]
    rw [ed]
    exact ⟨rfl, ⟨f', h'⟩, hC⟩
end Go.Proofs.Ytdcdgojcboinaaa
