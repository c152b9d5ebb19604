/- Ci3 -/
import Derived.Test.YtgjokididdffhaaGreatCh2
import Derived.Test.YtgjokididdffhaaGreatCga
import Derived.Lib.MinMax
import Derived.Test.YtgjokididdffhaaGreatCxd
import Derived.Test.YtgjokididdffhaaGreatCh4
import Derived.Test.YtgjokididdffhaaGreatCgh
import Derived.Test.YtgjokididdffhaaGreatCj2
import Derived.Test.YtgjokididdffhaaGreatCv1
import Derived.Test.YtgjokididdffhaaGreatCv9
import Derived.Test.YtgjokididdffhaaGreatCu5
namespace Go.Proofs.YtgjokididdffhaaGreat
open Go.RowKit Go.Deep
set_option linter.unusedVariables false
structure LgT (f : Nat → Nat) (k y : Nat) : Prop where
  le : ∀ i, i < k → f i ≤ y
  at_ : y = 0 ∨ ∃ i, i < k ∧ f i = y
theorem LgT.next {f : Nat → Nat} {k y : Nat} (h : LgT f k y) : LgT f (k + 1) (max y (f k)) := by
  refine ⟨fun i hi => ?_, ?_⟩
  · by_cases e : i = k
    · subst e; omega
    · have := h.le i (by omega); omega
  · by_cases c : y ≤ f k
    · rcases Nat.eq_zero_or_pos (f k) with z | z
      · left; omega
      · right; exact ⟨k, by omega, by omega⟩
    · rcases h.at_ with e | ⟨i, hi, e⟩
      · left; omega
      · right; exact ⟨i, by omega, by omega⟩
theorem LgT.one {f : Nat → Nat} {k y z : Nat} (h : LgT f k y) (g : LgT f k z) : y = z := by
  have h1 : y ≤ z := by
    rcases h.at_ with e | ⟨i, hi, e⟩
    · omega
    · have := g.le i hi; omega
  have h2 : z ≤ y := by
    rcases g.at_ with e | ⟨i, hi, e⟩
    · omega
    · have := h.le i hi; omega
  omega





structure NmI (cs : Nat → Int) (R z : Nat) : Prop where
  le : ∀ i, i < R → cs i < (z : Int)
  at_ : z = 0 ∨ ∃ i, i < R ∧ cs i = (z : Int) - 1
theorem NmI.none {R : Nat} : NmI (fun _ => -1) R 0 := ⟨fun i _ => by simp, .inl rfl⟩
theorem NmI.num {cs : Nat → Int} {R z : Nat} (h : NmI cs R z) : NumC (csL cs R) (z : Int) := by
  unfold NumC
  rw [csL_len]
  refine ⟨?_, fun i hi => ?_⟩
  · rcases h.at_ with e | ⟨i, hi, e⟩
    · exact ⟨0, by omega, by simp [e]⟩
    · exact ⟨i + 1, by omega, by rw [List.getD_cons_succ, csL_get hi, e]⟩
  · cases i with
    | zero => simp; omega
    | succ i =>
      rw [List.getD_cons_succ, csL_get (by omega)]
      have := h.le i (by omega)
      omega
theorem NmI.upd {cs : Nat → Int} {R z u y : Nat} (h : NmI cs R z) (hu : u < R) (hf : cs u = -1) : NmI (updC cs u y) R (max z (y + 1)) := by
  refine ⟨fun i hi => ?_, ?_⟩
  · by_cases e : i = u
    · subst e; rw [updC_same]; omega
    · rw [updC_other _ _ e]; have := h.le i hi; omega
  · by_cases c : z ≤ y + 1
    · exact .inr ⟨u, hu, by rw [updC_same]; omega⟩
    · rcases h.at_ with e | ⟨i, hi, e⟩
      · omega
      · refine .inr ⟨i, hi, ?_⟩
        have hne : i ≠ u := fun e2 => by rw [e2, hf] at e; omega
        rw [updC_other _ _ hne, e]
        omega
def isZ16 (v : Value) : Bool := match v with
  | .int .i16 x => x == 0
  | _ => false
theorem isZ16_of {v : Value} (h : isZ16 v = true) : v = .int .i16 0 := by
  unfold isZ16 at h
  split at h
  · rename_i x
    have : x = 0 := by simpa using h
    rw [this]
  · cases h
theorem RoF.made (w : World) (A : Array Value) (t : TypeId) (h : ∀ e, e < 16384 → A[16 + e]? = some (.int .i16 0)) : RoF (w.alloc (.cells A t)) w.heap.size 16 (fun _ => 0) := by
  intro e he
  have hq := h e he
  exact ⟨by simp [hq], by simp⟩


theorem grS_get {P : Nat → Nat → Prop} {n : Nat} : ∀ k i, i ≤ k → (grS P n k).getD i 0 = ((grC P n i).length : Int)
  | 0, i, hi => by rw [show i = 0 by omega]; rfl
  | k + 1, i, hi => by
    simp only [grS]
    by_cases e : i = k + 1
    · subst e
      rw [List.getD, List.getElem?_append_right (by rw [grS_len]; omega), grS_len]
      simp
    · rw [List.getD, List.getElem?_append_left (by rw [grS_len]; omega)]
      exact grS_get k i (by omega)
theorem grC_split {P : Nat → Nat → Prop} {n v : Nat} : ∀ k, v < k → ∃ r, grC P n k = grC P n v ++ (grR P v n ++ r)
  | 0, h => absurd h (Nat.not_lt_zero _)
  | k + 1, h => by
    by_cases e : v = k
    · subst e; exact ⟨[], by simp [grC]⟩
    · obtain ⟨r, hr⟩ := grC_split (P := P) (n := n) (v := v) k (by omega)
      exact ⟨r ++ grR P k n, by simp only [grC]; rw [hr]; simp⟩
theorem rowL_gr {P : Nat → Nat → Prop} {n v k : Nat} (h : v < k) : rowL (grS P n k) (grC P n k) v = grR P v n := by
  unfold rowL
  rw [grS_get k v (by omega), grS_get k (v + 1) (by omega)]
  obtain ⟨r, hr⟩ := grC_split (P := P) (n := n) k h
  rw [hr]
  simp only [grC, List.length_append]
  rw [show ((((grC P n v).length : Nat) : Int)).toNat = (grC P n v).length by omega, show (((((grC P n v).length + (grR P v n).length : Nat)) : Int)).toNat = (grC P n v).length + (grR P v n).length by omega]
  rw [List.drop_left, show (grC P n v).length + (grR P v n).length - (grC P n v).length = (grR P v n).length by omega, List.take_left]
theorem grR_ok {P : Nat → Nat → Prop} {u : Nat} : ∀ k, (∀ i, i < (grR P u k).length → 0 ≤ (grR P u k).getD i 0 ∧ (grR P u k).getD i 0 < (k : Int)) ∧ (∀ i, 0 < i → i < (grR P u k).length → (grR P u k).getD (i - 1) 0 < (grR P u k).getD i 0)
  | 0 => ⟨fun i hi => absurd hi (Nat.not_lt_zero _), fun i _ hi => absurd hi (Nat.not_lt_zero _)⟩
  | k + 1 => by
    obtain ⟨h1, h2⟩ := grR_ok (P := P) (u := u) k
    by_cases c : P u k
    · have e : grR P u (k + 1) = grR P u k ++ [(k : Int)] := by simp [grR, tb_yes c]
      rw [e]
      have gl : ∀ i, i < (grR P u k).length → (grR P u k ++ [(k : Int)]).getD i 0 = (grR P u k).getD i 0 := fun i hi => by rw [List.getD, List.getElem?_append_left hi]; rfl
      have gr : (grR P u k ++ [(k : Int)]).getD (grR P u k).length 0 = (k : Int) := by simp [List.getD]
      refine ⟨fun i hi => ?_, fun i h0 hi => ?_⟩
      · by_cases q : i = (grR P u k).length
        · rw [q, gr]; omega
        · have hi' : i < (grR P u k).length := by simp at hi; omega
          rw [gl i hi']
          have := h1 i hi'
          omega
      · by_cases q : i = (grR P u k).length
        · rw [q, gr, gl _ (by omega)]
          exact (h1 _ (by omega)).2
        · have hi' : i < (grR P u k).length := by simp at hi; omega
          rw [gl i hi', gl _ (by omega)]
          exact h2 i h0 hi'
    · have e : grR P u (k + 1) = grR P u k := by simp [grR, tb_no c]
      rw [e]
      exact ⟨fun i hi => by have := h1 i hi; omega, h2⟩
theorem grC_get {P : Nat → Nat → Prop} {n v k i : Nat} (h : v < k) (hi : i < (grR P v n).length) : (grC P n k).getD ((grC P n v).length + i) 0 = (grR P v n).getD i 0 := by
  obtain ⟨r, hr⟩ := grC_split (P := P) (n := n) k h
  rw [hr, List.getD, List.getElem?_append_right (by omega), show (grC P n v).length + i - (grC P n v).length = i by omega, List.getElem?_append_left hi]
  rfl
theorem may_gr {P : Nat → Nat → Prop} {n : Nat} (hn : n ≤ 128) : MayP (n : Int) (n : Int) (grS P n n) (grC P n n) := by
  refine ⟨⟨by omega, by rw [grS_len]; omega, by rw [grS_get n 0 (by omega)]; rfl, by rw [show ((n : Int)).toNat = n by omega]; exact grS_get n n (Nat.le_refl _)⟩, fun i _ hi => ?_, fun r hr => ?_⟩
  · rw [grS_len] at hi
    rw [grS_get n i (by omega), grS_get n (i + 1) (by omega)]
    simp only [grC, List.length_append]
    omega
  · rw [grS_len] at hr
    rw [grS_get n r (by omega), grS_get n (r + 1) (by omega)]
    simp only [grC, List.length_append]
    obtain ⟨h1, h2⟩ := grR_ok (P := P) (u := r) n
    refine ⟨fun i a b => ?_, fun i a b => ?_⟩
    · obtain ⟨j, rfl⟩ : ∃ j, i = (grC P n r).length + j := ⟨i - (grC P n r).length, by omega⟩
      rw [grC_get (by omega) (by omega)]
      exact h1 j (by omega)
    · obtain ⟨j, rfl⟩ : ∃ j, i = (grC P n r).length + j := ⟨i - (grC P n r).length, by omega⟩
      rw [show (grC P n r).length + j - 1 = (grC P n r).length + (j - 1) by omega, grC_get (by omega) (by omega), grC_get (by omega) (by omega)]
      exact h2 j (by omega) (by omega)
theorem mem_gr {P : Nat → Nat → Prop} {n u v : Nat} (hv : v < n) (hu : u < n) : ((u : Int) ∈ rowL (grS P n n) (grC P n n) v) ↔ P v u := by
  rw [rowL_gr hv, grR_mem]
  constructor
  · rintro ⟨j, _, e, h⟩
    rw [show u = j by omega]; exact h
  · intro h
    exact ⟨u, hu, rfl, h⟩
theorem LgT.congr {f g : Nat → Nat} {k y : Nat} (h : LgT f k y) (e : ∀ i, i < k → f i = g i) : LgT g k y :=
  ⟨fun i hi => by rw [← e i hi]; exact h.le i hi, h.at_.imp_right (fun ⟨i, hi, q⟩ => ⟨i, hi, by rw [← e i hi]; exact q⟩)⟩

theorem tgQ_of {w w' : World} {e : Ending} {R m : Nat} {f : Nat → Bool} (h : TgP w w' e R m f) : TgQ w w' e R m f := by
  obtain ⟨b, _, e, r, k⟩ := h
  exact ⟨b, e, r, k⟩
structure KdY (k : Int) (R width n1 n2 : Nat) (st cols : List Int) (m : Nat) (S C : List Int) (Q : Nat → Bool) (G G1 G2 G3 : Nat) (wd : Bool) : Prop where
  may : MayP (m : Int) (m : Int) S C
  gra : GraP S C m m
  m8 : m ≤ 128
  sl : S.length ≤ 17592186044000
  cl : C.length ≤ 17592186044000
  hQ : ∀ u v, u < m → v < m → (Q (u * m + v) = true ↔ adG S C m u v)
  task : ∀ (a1 a2 : Option Addr) (c1 c2 : Nat) W, SlI W a1 n1 c1 st → SlI W a2 n2 c2 cols → Calls Tryz.prog 34 #[.int .i64 k, patV (R : Int) (width : Int) a1 n1 c1 a2 n2 c2] W fun e w' => TkP W w' e G G1 G2 G3 wd R width a1 n1 c1 a2 n2 c2 m S C
  thg : ∀ (a1 a2 : Option Addr) (c1 c2 : Nat) W, SlI W a1 n1 c1 st → SlI W a2 n2 c2 cols → Calls Tryz.prog 21 #[.int .i64 k, patV (R : Int) (width : Int) a1 n1 c1 a2 n2 c2] W fun e w' => TgQ W w' e m (m * m) Q
structure KdN (k rows width : Int) (n1 n2 : Nat) (st cols : List Int) (er : Int) : Prop where
  ne : (er != 0) = true
  task : ∀ (a1 a2 : Option Addr) (c1 c2 : Nat) W, SlI W a1 n1 c1 st → SlI W a2 n2 c2 cols → Calls Tryz.prog 34 #[.int .i64 k, patV rows width a1 n1 c1 a2 n2 c2] W fun e w' => TkN W w' e er
  thg : ∀ (a1 a2 : Option Addr) (c1 c2 : Nat) W, SlI W a1 n1 c1 st → SlI W a2 n2 c2 cols → Calls Tryz.prog 21 #[.int .i64 k, patV rows width a1 n1 c1 a2 n2 c2] W fun e w' => e = .returned (.tuple #[.agg #[.int .i64 0, .slice none 0 0], .int .i64 er]) ∧ Below W.heap.size W w'
theorem gra_gr {P : Nat → Nat → Prop} {n : Nat} (hn : n ≤ 128) (sy : ∀ u v, P u v → P v u) (ir : ∀ u, ¬ P u u) : GraP (grS P n n) (grC P n n) n n ∧ ∀ u v, u < n → v < n → (adG (grS P n n) (grC P n n) n u v ↔ P u v) := by
  have key : ∀ u v, u < n → v < n → (InC (grS P n n) (grC P n n) v u ↔ P u v) := fun u v hu hv => (rowL_mem (may_gr hn) hu).symm.trans (mem_gr hu hv)
  refine ⟨⟨rfl, fun u v hu hv h => (key u v hu hv).2 (sy _ _ ((key v u hv hu).1 h)), fun ⟨u, hu, h⟩ => ir u ((key u u hu hu).1 h)⟩, fun u v hu hv => ⟨fun h => (key u v hu hv).1 h.2.2, fun h => ⟨hu, hv, (key u v hu hv).2 h⟩⟩⟩
theorem kd_proper (R width : Nat) (n1 n2 : Nat) (st cols : List Int) (hl1 : st.length = n1) (hl2 : cols.length = n2) (hb1 : n1 ≤ 17592186044000) (hb2 : n2 ≤ 17592186044000) (hm : MayP (R : Int) (width : Int) st cols) : (∃ Q, KdY 1 R width n1 n2 st cols R st cols Q 49 92 93 94 false) ∨ (∃ er, KdN 1 (R : Int) (width : Int) n1 n2 st cols er) := by
  by_cases hg : GraP st cols R width
  · have hRw := hg.1
    subst hRw
    have hR8 : R ≤ 128 := by have := hm.head.fit; omega
    have hP : ∀ (a1 a2 : Option Addr) (c1 c2 : Nat) W, SlI W a1 n1 c1 st → SlI W a2 n2 c2 cols → Calls Tryz.prog 34 #[.int .i64 1, patV (R : Int) (R : Int) a1 n1 c1 a2 n2 c2] W fun e w' => TkP W w' e 49 92 93 94 false R R a1 n1 c1 a2 n2 c2 R st cols := fun a1 a2 c1 c2 W h1 h2 =>
      ctask_ok_self 1 92 93 94 false R R R st cols a1 a2 n1 c1 n2 c2 st cols W h1 h2 hb1 hb2 hm (fun W' => crules_proper W') (fun W' g1 g2 => (citself_yes R R a1 a2 n1 c1 n2 c2 st cols W' g1 g2 hb1 hb2 hm hg).mono (fun e w' ⟨he, hb⟩ => by
        subst hl1 hl2
        exact ⟨a1, c1, a2, c2, he, g1.below hb, g2.below hb, hb, fun t ht hne => .inl (h1.block_lt hne t ht), fun t ht hne => .inl (h2.block_lt hne t ht)⟩))
    have hT : ∀ (a1 a2 : Option Addr) (c1 c2 : Nat) W, SlI W a1 n1 c1 st → SlI W a2 n2 c2 cols → Calls Tryz.prog 21 #[.int .i64 1, patV (R : Int) (R : Int) a1 n1 c1 a2 n2 c2] W fun e w' => TgQ W w' e R (R * R) (fun x => tb (Vis R R st cols cols.length x)) := fun a1 a2 c1 c2 W h1 h2 =>
      (wthings_yes R a1 a2 n1 c1 n2 c2 st cols W h1 h2 (by omega) (by omega) hm hg).mono (fun e w' h => tgQ_of h)
    exact .inl ⟨fun x => tb (Vis R R st cols cols.length x), hm, hg, hR8, by omega, by omega, fun u v hu hv => Iff.trans (vis_in hm hu hv) ⟨fun h => ⟨hu, hv, h⟩, fun h => h.2.2⟩, hP, hT⟩
  · refine .inr ⟨220, by decide, (fun a1 a2 c1 c2 W h1 h2 => ctask_err_self 1 92 93 94 false R width 220 (by decide) a1 a2 n1 c1 n2 c2 st cols W h1 h2 hb1 hb2 hm (fun W' => crules_proper W') (fun W' g1 g2 => ?_)), (fun a1 a2 c1 c2 W h1 h2 => wthings_bad R width a1 a2 n1 c1 n2 c2 st cols W h1 h2 (by omega) (by omega) hm hg)⟩
    by_cases hs : R = width ∧ SyP st cols R
    · obtain ⟨rfl, hsy⟩ := hs
      exact citself_diag R a1 a2 n1 c1 n2 c2 st cols W' g1 g2 hb1 hb2 hm hsy (Classical.byContradiction (fun hd => hg ⟨rfl, hsy, hd⟩))
    · exact citself_asym R width a1 a2 n1 c1 n2 c2 st cols W' g1 g2 hb1 hb2 hm hs
theorem kd_star (R width : Nat) (n1 n2 : Nat) (st cols : List Int) (hl1 : st.length = n1) (hl2 : cols.length = n2) (hb1 : n1 ≤ 17592186044000) (hb2 : n2 ≤ 17592186044000) (hm : MayP (R : Int) (width : Int) st cols) : (∃ Q, KdY 4 R width n1 n2 st cols R st cols Q 49 101 102 94 true) ∨ (∃ er, KdN 4 (R : Int) (width : Int) n1 n2 st cols er) := by
  by_cases hg : GraP st cols R width
  · have hRw := hg.1
    subst hRw
    have hR8 : R ≤ 128 := by have := hm.head.fit; omega
    have hP : ∀ (a1 a2 : Option Addr) (c1 c2 : Nat) W, SlI W a1 n1 c1 st → SlI W a2 n2 c2 cols → Calls Tryz.prog 34 #[.int .i64 4, patV (R : Int) (R : Int) a1 n1 c1 a2 n2 c2] W fun e w' => TkP W w' e 49 101 102 94 true R R a1 n1 c1 a2 n2 c2 R st cols := fun a1 a2 c1 c2 W h1 h2 =>
      ctask_ok_self 4 101 102 94 true R R R st cols a1 a2 n1 c1 n2 c2 st cols W h1 h2 hb1 hb2 hm (fun W' => crules_star W') (fun W' g1 g2 => (citself_yes R R a1 a2 n1 c1 n2 c2 st cols W' g1 g2 hb1 hb2 hm hg).mono (fun e w' ⟨he, hb⟩ => by
        subst hl1 hl2
        exact ⟨a1, c1, a2, c2, he, g1.below hb, g2.below hb, hb, fun t ht hne => .inl (h1.block_lt hne t ht), fun t ht hne => .inl (h2.block_lt hne t ht)⟩))
    have hT : ∀ (a1 a2 : Option Addr) (c1 c2 : Nat) W, SlI W a1 n1 c1 st → SlI W a2 n2 c2 cols → Calls Tryz.prog 21 #[.int .i64 4, patV (R : Int) (R : Int) a1 n1 c1 a2 n2 c2] W fun e w' => TgQ W w' e R (R * R) (fun x => tb (Vis R R st cols cols.length x)) := fun a1 a2 c1 c2 W h1 h2 =>
      (wthings_yes4 R a1 a2 n1 c1 n2 c2 st cols W h1 h2 (by omega) (by omega) hm hg).mono (fun e w' h => tgQ_of h)
    exact .inl ⟨fun x => tb (Vis R R st cols cols.length x), hm, hg, hR8, by omega, by omega, fun u v hu hv => Iff.trans (vis_in hm hu hv) ⟨fun h => ⟨hu, hv, h⟩, fun h => h.2.2⟩, hP, hT⟩
  · refine .inr ⟨220, by decide, (fun a1 a2 c1 c2 W h1 h2 => ctask_err_self 4 101 102 94 true R width 220 (by decide) a1 a2 n1 c1 n2 c2 st cols W h1 h2 hb1 hb2 hm (fun W' => crules_star W') (fun W' g1 g2 => ?_)), (fun a1 a2 c1 c2 W h1 h2 => wthings_bad4 R width a1 a2 n1 c1 n2 c2 st cols W h1 h2 (by omega) (by omega) hm hg)⟩
    by_cases hs : R = width ∧ SyP st cols R
    · obtain ⟨rfl, hsy⟩ := hs
      exact citself_diag R a1 a2 n1 c1 n2 c2 st cols W' g1 g2 hb1 hb2 hm hsy (Classical.byContradiction (fun hd => hg ⟨rfl, hsy, hd⟩))
    · exact citself_asym R width a1 a2 n1 c1 n2 c2 st cols W' g1 g2 hb1 hb2 hm hs
theorem kd_acyc (R width : Nat) (n1 n2 : Nat) (st cols : List Int) (hl1 : st.length = n1) (hl2 : cols.length = n2) (hb1 : n1 ≤ 17592186044000) (hb2 : n2 ≤ 17592186044000) (hm : MayP (R : Int) (width : Int) st cols) : (∃ Q, KdY 5 R width n1 n2 st cols R st cols Q 49 103 104 94 true) ∨ (∃ er, KdN 5 (R : Int) (width : Int) n1 n2 st cols er) := by
  by_cases hg : GraP st cols R width
  · have hRw := hg.1
    subst hRw
    have hR8 : R ≤ 128 := by have := hm.head.fit; omega
    have hP : ∀ (a1 a2 : Option Addr) (c1 c2 : Nat) W, SlI W a1 n1 c1 st → SlI W a2 n2 c2 cols → Calls Tryz.prog 34 #[.int .i64 5, patV (R : Int) (R : Int) a1 n1 c1 a2 n2 c2] W fun e w' => TkP W w' e 49 103 104 94 true R R a1 n1 c1 a2 n2 c2 R st cols := fun a1 a2 c1 c2 W h1 h2 =>
      ctask_ok_self 5 103 104 94 true R R R st cols a1 a2 n1 c1 n2 c2 st cols W h1 h2 hb1 hb2 hm (fun W' => crules_acyc W') (fun W' g1 g2 => (citself_yes R R a1 a2 n1 c1 n2 c2 st cols W' g1 g2 hb1 hb2 hm hg).mono (fun e w' ⟨he, hb⟩ => by
        subst hl1 hl2
        exact ⟨a1, c1, a2, c2, he, g1.below hb, g2.below hb, hb, fun t ht hne => .inl (h1.block_lt hne t ht), fun t ht hne => .inl (h2.block_lt hne t ht)⟩))
    have hT : ∀ (a1 a2 : Option Addr) (c1 c2 : Nat) W, SlI W a1 n1 c1 st → SlI W a2 n2 c2 cols → Calls Tryz.prog 21 #[.int .i64 5, patV (R : Int) (R : Int) a1 n1 c1 a2 n2 c2] W fun e w' => TgQ W w' e R (R * R) (fun x => tb (Vis R R st cols cols.length x)) := fun a1 a2 c1 c2 W h1 h2 =>
      (wthings_yes5 R a1 a2 n1 c1 n2 c2 st cols W h1 h2 (by omega) (by omega) hm hg).mono (fun e w' h => tgQ_of h)
    exact .inl ⟨fun x => tb (Vis R R st cols cols.length x), hm, hg, hR8, by omega, by omega, fun u v hu hv => Iff.trans (vis_in hm hu hv) ⟨fun h => ⟨hu, hv, h⟩, fun h => h.2.2⟩, hP, hT⟩
  · refine .inr ⟨220, by decide, (fun a1 a2 c1 c2 W h1 h2 => ctask_err_self 5 103 104 94 true R width 220 (by decide) a1 a2 n1 c1 n2 c2 st cols W h1 h2 hb1 hb2 hm (fun W' => crules_acyc W') (fun W' g1 g2 => ?_)), (fun a1 a2 c1 c2 W h1 h2 => wthings_bad5 R width a1 a2 n1 c1 n2 c2 st cols W h1 h2 (by omega) (by omega) hm hg)⟩
    by_cases hs : R = width ∧ SyP st cols R
    · obtain ⟨rfl, hsy⟩ := hs
      exact citself_diag R a1 a2 n1 c1 n2 c2 st cols W' g1 g2 hb1 hb2 hm hsy (Classical.byContradiction (fun hd => hg ⟨rfl, hsy, hd⟩))
    · exact citself_asym R width a1 a2 n1 c1 n2 c2 st cols W' g1 g2 hb1 hb2 hm hs
theorem kd_cols (R width : Nat) (n1 n2 : Nat) (st cols : List Int) (hl1 : st.length = n1) (hl2 : cols.length = n2) (hb1 : n1 ≤ 17592186044000) (hb2 : n2 ≤ 17592186044000) (hm : MayP (R : Int) (width : Int) st cols) : ∃ Q, KdY 2 R width n1 n2 st cols width (grS (CoP st cols R) width width) (grC (CoP st cols R) width width) Q 95 96 93 97 false := by
  have hR8 : R ≤ 128 ∧ width ≤ 128 := by have := hm.head.fit; omega
  have hlc := grC_len (CoP st cols R) width width
  have hlc2 : width * width ≤ 128 * 128 := Nat.mul_le_mul (by omega) (by omega)
  have hP : ∀ (a1 a2 : Option Addr) (c1 c2 : Nat) W, SlI W a1 n1 c1 st → SlI W a2 n2 c2 cols → Calls Tryz.prog 34 #[.int .i64 2, patV (R : Int) (width : Int) a1 n1 c1 a2 n2 c2] W fun e w' => TkP W w' e 95 96 93 97 false R width a1 n1 c1 a2 n2 c2 width (grS (CoP st cols R) width width) (grC (CoP st cols R) width width) := fun a1 a2 c1 c2 W h1 h2 =>
    ctask_ok_cols 2 96 93 97 false R width width _ _ a1 a2 n1 c1 n2 c2 st cols W h1 h2 hb1 hb2 hm (fun W' => crules_cols W') (fun W' g1 g2 => (ccolumns_yes R width a1 a2 n1 c1 n2 c2 st cols W' g1 g2 (by omega) (by omega) hm).mono (fun e w' ⟨x, d, y, z, he, s1, s2, hb, e1, e2⟩ => ⟨x, d, y, z, he, s1, s2, hb, fun t ht _ => .inr (e1 t ht), fun t ht _ => .inr (e2 t ht)⟩))
  have hT : ∀ (a1 a2 : Option Addr) (c1 c2 : Nat) W, SlI W a1 n1 c1 st → SlI W a2 n2 c2 cols → Calls Tryz.prog 21 #[.int .i64 2, patV (R : Int) (width : Int) a1 n1 c1 a2 n2 c2] W fun e w' => TgQ W w' e width (width * width) (fun x => tb (LnQ (fun j u v => InC st cols u j ∧ InC st cols v j) width R width 0 0 x)) := fun a1 a2 c1 c2 W h1 h2 =>
    wthings_cols R width a1 a2 n1 c1 n2 c2 st cols W h1 h2 (by omega) (by omega) hm
  obtain ⟨g1, g2⟩ := gra_gr (P := CoP st cols R) (n := width) (by omega) (fun u v h => ⟨fun e => h.1 e.symm, by obtain ⟨_, j, hj, h1, h2⟩ := h; exact ⟨j, hj, h2, h1⟩⟩) (fun u h => h.1 rfl)
  exact ⟨_, may_gr (by omega), g1, by omega, by rw [grS_len]; omega, by omega, fun u v hu hv => Iff.trans (tb_iff.trans (LnQ.last hu hv)) (g2 u v hu hv).symm, hP, hT⟩
theorem kd_rows (R width : Nat) (n1 n2 : Nat) (st cols : List Int) (hl1 : st.length = n1) (hl2 : cols.length = n2) (hb1 : n1 ≤ 17592186044000) (hb2 : n2 ≤ 17592186044000) (hm : MayP (R : Int) (width : Int) st cols) : ∃ Q, KdY 3 R width n1 n2 st cols R (grS (RwP st cols width) R R) (grC (RwP st cols width) R R) Q 98 99 93 100 false := by
  have hR8 : R ≤ 128 ∧ width ≤ 128 := by have := hm.head.fit; omega
  have hlc := grC_len (RwP st cols width) R R
  have hlc2 : R * R ≤ 128 * 128 := Nat.mul_le_mul (by omega) (by omega)
  have hP : ∀ (a1 a2 : Option Addr) (c1 c2 : Nat) W, SlI W a1 n1 c1 st → SlI W a2 n2 c2 cols → Calls Tryz.prog 34 #[.int .i64 3, patV (R : Int) (width : Int) a1 n1 c1 a2 n2 c2] W fun e w' => TkP W w' e 98 99 93 100 false R width a1 n1 c1 a2 n2 c2 R (grS (RwP st cols width) R R) (grC (RwP st cols width) R R) := fun a1 a2 c1 c2 W h1 h2 =>
    ctask_ok_rows 3 99 93 100 false R width R _ _ a1 a2 n1 c1 n2 c2 st cols W h1 h2 hb1 hb2 hm (fun W' => crules_rows W') (fun W' g1 g2 => (crowsf_yes R width a1 a2 n1 c1 n2 c2 st cols W' g1 g2 (by omega) (by omega) hm).mono (fun e w' ⟨x, d, y, z, he, s1, s2, hb, e1, e2⟩ => ⟨x, d, y, z, he, s1, s2, hb, fun t ht _ => .inr (e1 t ht), fun t ht _ => .inr (e2 t ht)⟩))
  have hT : ∀ (a1 a2 : Option Addr) (c1 c2 : Nat) W, SlI W a1 n1 c1 st → SlI W a2 n2 c2 cols → Calls Tryz.prog 21 #[.int .i64 3, patV (R : Int) (width : Int) a1 n1 c1 a2 n2 c2] W fun e w' => TgQ W w' e R (R * R) (fun x => tb (LnQ (fun j u v => InC st cols j u ∧ InC st cols j v) R width R 0 0 x)) := fun a1 a2 c1 c2 W h1 h2 =>
    wthings_rows R width a1 a2 n1 c1 n2 c2 st cols W h1 h2 (by omega) (by omega) hm
  obtain ⟨g1, g2⟩ := gra_gr (P := RwP st cols width) (n := R) (by omega) (fun u v h => ⟨fun e => h.1 e.symm, by obtain ⟨_, j, hj, h1, h2⟩ := h; exact ⟨j, hj, h2, h1⟩⟩) (fun u h => h.1 rfl)
  exact ⟨_, may_gr (by omega), g1, by omega, by rw [grS_len]; omega, by omega, fun u v hu hv => Iff.trans (tb_iff.trans (LnQ.last hu hv)) (g2 u v hu hv).symm, hP, hT⟩
theorem kd_all (k rows width : Int) (n1 n2 : Nat) (st cols : List Int) (hl1 : st.length = n1) (hl2 : cols.length = n2) (hb1 : n1 ≤ 17592186044000) (hb2 : n2 ≤ 17592186044000) :
    (∃ er, KdN k rows width n1 n2 st cols er) ∨ (∃ R W : Nat, rows = (R : Int) ∧ width = (W : Int) ∧ MayP (R : Int) (W : Int) st cols ∧ (
      (k = 1 ∧ ∃ Q, KdY k R W n1 n2 st cols R st cols Q 49 92 93 94 false) ∨
      (k = 4 ∧ ∃ Q, KdY k R W n1 n2 st cols R st cols Q 49 101 102 94 true) ∨
      (k = 5 ∧ ∃ Q, KdY k R W n1 n2 st cols R st cols Q 49 103 104 94 true) ∨
      (k = 2 ∧ ∃ Q, KdY k R W n1 n2 st cols W (grS (CoP st cols R) W W) (grC (CoP st cols R) W W) Q 95 96 93 97 false) ∨
      (k = 3 ∧ ∃ Q, KdY k R W n1 n2 st cols R (grS (RwP st cols W) R R) (grC (RwP st cols W) R R) Q 98 99 93 100 false))) := by
  by_cases hm : MayP rows width st cols
  · obtain ⟨R, rfl⟩ : ∃ R : Nat, rows = (R : Int) := ⟨rows.toNat, by have := hm.head.fit; omega⟩
    obtain ⟨W, rfl⟩ : ∃ W : Nat, width = (W : Int) := ⟨width.toNat, by have := hm.head.fit; omega⟩
    by_cases k1 : k = 1
    · subst k1
      exact (kd_proper R W n1 n2 st cols hl1 hl2 hb1 hb2 hm).elim (fun h => .inr ⟨R, W, rfl, rfl, hm, .inl ⟨rfl, h⟩⟩) .inl
    by_cases k2 : k = 2
    · subst k2
      exact .inr ⟨R, W, rfl, rfl, hm, .inr (.inr (.inr (.inl ⟨rfl, kd_cols R W n1 n2 st cols hl1 hl2 hb1 hb2 hm⟩)))⟩
    by_cases k3 : k = 3
    · subst k3
      exact .inr ⟨R, W, rfl, rfl, hm, .inr (.inr (.inr (.inr ⟨rfl, kd_rows R W n1 n2 st cols hl1 hl2 hb1 hb2 hm⟩)))⟩
    by_cases k4 : k = 4
    · subst k4
      exact (kd_star R W n1 n2 st cols hl1 hl2 hb1 hb2 hm).elim (fun h => .inr ⟨R, W, rfl, rfl, hm, .inr (.inl ⟨rfl, h⟩)⟩) .inl
    by_cases k5 : k = 5
    · subst k5
      exact (kd_acyc R W n1 n2 st cols hl1 hl2 hb1 hb2 hm).elim (fun h => .inr ⟨R, W, rfl, rfl, hm, .inr (.inr (.inl ⟨rfl, h⟩))⟩) .inl
    have f1 : (k == 1) = false := by simp [k1]
    have f2 : (k == 2) = false := by simp [k2]
    have f3 : (k == 3) = false := by simp [k3]
    have f4 : (k == 4) = false := by simp [k4]
    have f5 : (k == 5) = false := by simp [k5]
    exact .inl ⟨242, by decide, (fun a1 a2 c1 c2 W' h1 h2 => ctask_off k R W a1 a2 n1 c1 n2 c2 st cols W' h1 h2 hb1 hb2 hm (fun W'' => crules_off k f1 f2 f3 f4 f5 W'')), (fun a1 a2 c1 c2 W' h1 h2 => wthings_off k f1 f2 f3 f4 f5 R W a1 a2 n1 c1 n2 c2 st cols W' h1 h2 (by omega) (by omega) hm)⟩
  · exact .inl ⟨180, by decide, (fun a1 a2 c1 c2 W' h1 h2 => ctask_pat k rows width a1 a2 n1 c1 n2 c2 st cols W' h1 h2 hb1 hb2 hm), (fun a1 a2 c1 c2 W' h1 h2 => wthings_no k rows width a1 a2 n1 c1 n2 c2 st cols W' h1 h2 (by omega) (by omega) hm)⟩
end Go.Proofs.YtgjokididdffhaaGreat
