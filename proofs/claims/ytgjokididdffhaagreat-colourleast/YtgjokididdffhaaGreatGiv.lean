/- Num -/
import Derived.Test.YtgjokididdffhaaGreatRows
import Derived.WalkKit
import Derived.WalkSpells
import Derived.WalkLawsBesides
import Derived.Deep.QuietTactic
import Derived.BigQuiet
import Derived.Deep.OwnRows
namespace Go.Proofs.YtgjokididdffhaaGreat
set_option linter.unusedVariables false
def val : List Nat → Nat
  | [] => 0
  | x :: xs => x + 4294967296 * val xs

def Ok (xs : List Nat) : Prop := ∀ x ∈ xs, x < 4294967296

def Norm (xs : List Nat) : Prop := xs = [] ∨ xs.getD (xs.length - 1) 0 ≠ 0

structure Rep (n : Nat) (xs : List Nat) : Prop where
  ok : Ok xs
  norm : Norm xs
  val : val xs = n

theorem Ok.tail {x : Nat} {xs : List Nat} (h : Ok (x :: xs)) : Ok xs := fun y hy => h y (List.mem_cons_of_mem _ hy)
theorem Ok.head {x : Nat} {xs : List Nat} (h : Ok (x :: xs)) : x < 4294967296 := h x (List.mem_cons_self)
theorem Ok.nil : Ok [] := fun x h => by cases h
theorem Ok.cons {x : Nat} {xs : List Nat} (h : x < 4294967296) (k : Ok xs) : Ok (x :: xs) := by
  intro y hy
  rcases List.mem_cons.1 hy with rfl | hy
  · exact h
  · exact k y hy
theorem Ok.getD {xs : List Nat} (h : Ok xs) (i : Nat) : xs.getD i 0 < 4294967296 := by
  by_cases hi : i < xs.length
  · have : xs.getD i 0 = xs[i] := by simp [List.getD, hi]
    rw [this]; exact h _ (List.getElem_mem hi)
  · have : xs.getD i 0 = 0 := by simp [List.getD, List.getElem?_eq_none (Nat.le_of_not_lt hi)]
    rw [this]; decide
theorem Ok.take {xs : List Nat} (h : Ok xs) (m : Nat) : Ok (xs.take m) := fun x hx => h x (List.mem_of_mem_take hx)
theorem Ok.drop {xs : List Nat} (h : Ok xs) (m : Nat) : Ok (xs.drop m) := fun x hx => h x (List.mem_of_mem_drop hx)

theorem norm_tail {x : Nat} {xs : List Nat} (h : Norm (x :: xs)) : Norm xs := by
  cases xs with
  | nil => exact .inl rfl
  | cons y ys =>
    right
    rcases h with h | h
    · cases h
    · simpa using h

theorem norm_one {x : Nat} (h : Norm [x]) : x ≠ 0 := by
  rcases h with h | h
  · cases h
  · simpa using h

theorem val_ne : ∀ {xs : List Nat}, Norm xs → xs ≠ [] → val xs ≠ 0
  | [], _, h => absurd rfl h
  | [x], h, _ => by have := norm_one h; simp [val]; omega
  | x :: y :: ys, h, _ => by
    have := val_ne (norm_tail h) (by simp)
    simp only [val] at *
    omega

theorem rep_unique : ∀ {xs ys : List Nat}, Ok xs → Ok ys → Norm xs → Norm ys → val xs = val ys → xs = ys
  | [], [], _, _, _, _, _ => rfl
  | [], y :: ys, _, _, _, h, e => by have := val_ne h (by simp); simp only [val] at *; omega
  | x :: xs, [], _, _, h, _, e => by have := val_ne h (by simp); simp only [val] at *; omega
  | x :: xs, y :: ys, ox, oy, nx, ny, e => by
    have hx := ox.head
    have hy := oy.head
    simp only [val] at e
    have e1 : x = y := by omega
    have e2 : val xs = val ys := by omega
    rw [e1, rep_unique ox.tail oy.tail (norm_tail nx) (norm_tail ny) e2]

theorem Rep.unique {n : Nat} {xs ys : List Nat} (h : Rep n xs) (k : Rep n ys) : xs = ys :=
  rep_unique h.ok k.ok h.norm k.norm (h.val.trans k.val.symm)

structure TrimAt (xs : List Nat) (m : Nat) : Prop where
  le : m ≤ xs.length
  top : m = 0 ∨ xs.getD (m - 1) 0 ≠ 0
  zero : ∀ i, m ≤ i → xs.getD i 0 = 0

theorem val_zero : ∀ (xs : List Nat), (∀ i, xs.getD i 0 = 0) → val xs = 0
  | [], _ => rfl
  | x :: xs, h => by
    have h0 := h 0
    have ht := val_zero xs (fun i => by simpa using h (i + 1))
    simp at h0
    simp [val, h0, ht]

theorem val_take : ∀ (xs : List Nat) (m : Nat), (∀ i, m ≤ i → xs.getD i 0 = 0) → val (xs.take m) = val xs
  | xs, 0, h => by simp [val, val_zero xs (fun i => h i (Nat.zero_le _))]
  | [], m + 1, _ => by simp
  | x :: xs, m + 1, h => by
    simp only [List.take_succ_cons, val]
    rw [val_take xs m (fun i hi => by simpa using h (i + 1) (by omega))]

theorem TrimAt.rep {xs : List Nat} {m : Nat} (h : TrimAt xs m) (ok : Ok xs) : Rep (val xs) (xs.take m) := by
  refine ⟨ok.take m, ?_, val_take xs m h.zero⟩
  rcases h.top with h0 | h0
  · left; simp [h0]
  · right
    have hl : (xs.take m).length = m := by simp [Nat.min_eq_left h.le]
    rw [hl]
    by_cases hm : m = 0
    · subst hm
      have := h.zero 0 (Nat.le_refl _)
      simp at h0
      exact absurd (by simpa using this) h0
    · have : (xs.take m).getD (m - 1) 0 = xs.getD (m - 1) 0 := by
        simp [List.getD, show m - 1 < m from by omega]
      rw [this]; exact h0

def limbsF : Nat → Nat → List Nat
  | 0, _ => []
  | k + 1, n => if n = 0 then [] else (n % 4294967296) :: limbsF k (n / 4294967296)

def limbs (n : Nat) : List Nat := limbsF n n

theorem norm_cons {x : Nat} {xs : List Nat} (h : Norm xs) (hx : xs ≠ [] ∨ x ≠ 0) : Norm (x :: xs) := by
  right
  cases xs with
  | nil =>
    rcases hx with h | h
    · exact absurd rfl h
    · simpa using h
  | cons y ys =>
    rcases h with h | h
    · cases h
    · simpa using h

theorem limbsF_rep : ∀ (k n : Nat), n ≤ k → Rep n (limbsF k n)
  | 0, n, h => by
    have : n = 0 := by omega
    subst this
    exact ⟨Ok.nil, .inl rfl, rfl⟩
  | k + 1, n, h => by
    unfold limbsF
    by_cases h0 : n = 0
    · rw [if_pos h0]; subst h0; exact ⟨Ok.nil, .inl rfl, rfl⟩
    · rw [if_neg h0]
      have hr := limbsF_rep k (n / 4294967296) (by omega)
      refine ⟨Ok.cons (by omega) hr.ok, norm_cons hr.norm ?_, ?_⟩
      · by_cases hz : n / 4294967296 = 0
        · right; omega
        · left
          intro e
          have hv := hr.val
          rw [e] at hv
          simp only [val] at hv
          omega
      · simp only [val]
        rw [hr.val]
        omega

theorem limbs_rep (n : Nat) : Rep n (limbs n) := limbsF_rep n n (Nat.le_refl _)
theorem Rep.eq {n : Nat} {xs : List Nat} (h : Rep n xs) : xs = limbs n := h.unique (limbs_rep n)
end Go.Proofs.YtgjokididdffhaaGreat
namespace Go.Proofs.YtgjokididdffhaaGreat
open Go.RowKit Go.Deep
set_option linter.unusedVariables false
theorem hide {p : Prop} (h : p) : Hid p := h
theorem unhide {p : Prop} (h : Hid p) : p := h

theorem drewN_add (w : World) (a b : Nat) : (w.drewN a).drewN b = w.drewN (a + b) := by simp [World.drewN, Nat.add_assoc]

def Cells (w : World) (b off : Nat) (xs : List Nat) : Prop :=
  ∀ i, i < xs.length → w.cell? ⟨b, off + i, none⟩ = some (.int .u32 (xs.getD i 0 : Nat))

structure Sl (w : World) (a : Option Addr) (n c : Nat) (xs : List Nat) : Prop where
  len : xs.length = n
  le : n ≤ c
  cap : c ≤ maxLen
  cells : xs = [] ∨ ∃ b off, a = some ⟨b, off, none⟩ ∧ Cells w b off xs

def MayL (xs : List Nat) : Bool := decide (xs.length ≤ 2048) && (xs.isEmpty || xs.getD (xs.length - 1) 0 != 0)

theorem MayL.norm {xs : List Nat} (h : MayL xs = true) : Norm xs := by
  simp only [MayL, Bool.and_eq_true, Bool.or_eq_true, decide_eq_true_eq, List.isEmpty_iff, bne_iff_ne] at h
  exact h.2
theorem MayL.len {xs : List Nat} (h : MayL xs = true) : xs.length ≤ 2048 := by
  simp only [MayL, Bool.and_eq_true, decide_eq_true_eq] at h
  exact h.1
theorem MayL.mk {xs : List Nat} (h : Norm xs) (k : xs.length ≤ 2048) : MayL xs = true := by
  simp only [MayL, Bool.and_eq_true, Bool.or_eq_true, decide_eq_true_eq, List.isEmpty_iff, bne_iff_ne]
  exact ⟨k, h⟩
/-! ### rows that are written -/
def Fn (w : World) (b off n : Nat) (f : Nat → Nat) : Prop :=
  ∀ i, i < n → w.cell? ⟨b, off + i, none⟩ = some (.int .u32 (f i : Nat)) ∧ w.frozen? ⟨b, off + i, none⟩ = false

theorem Fn.set {w : World} {b off n : Nat} {f : Nat → Nat} (h : Fn w b off n f) (k v : Nat) (hk : k < n) :
    Fn (w.setCell ⟨b, off + k, none⟩ (.int .u32 (v : Nat))) b off n (fun i => if i = k then v else f i) := by
  intro i hi
  refine ⟨?_, by rw [World.frozen?_setCell]; exact (h i hi).2⟩
  by_cases e : i = k
  · subst e
    rw [World.cell?_setCell_same _ _ _ (h i hi).1]
    simp
  · rw [World.cell?_setCell_other _ _ _ _ (by intro h; injection h with h1 h2; omega)]
    simp [e, (h i hi).1]

theorem Fn.cells {w : World} {b off n : Nat} {f : Nat → Nat} {xs : List Nat} (h : Fn w b off n f) (hl : xs.length ≤ n) (he : ∀ i, i < xs.length → f i = xs.getD i 0) : Cells w b off xs := by
  intro i hi
  rw [(h i (by omega)).1, he i hi]

theorem Cells.below {w w' : World} {b off : Nat} {xs : List Nat} (h : Cells w b off xs) (hb : Below w.heap.size w w') : Cells w' b off xs := by
  intro i hi
  have := h i hi
  rw [hb.cell (World.block_lt_of_cell? _ _ this)]
  exact this

theorem Fn.made (w : World) (n : Nat) (e : TypeId) : Fn (w.alloc (.cells (madeCells #[.int .u32 0] n) e)) w.heap.size 0 n (fun _ => 0) := by
  intro i hi
  refine ⟨?_, by simp⟩
  simp [madeCells, hi, Nat.mod_one]

theorem Sl.below {w w' : World} {a : Option Addr} {n c : Nat} {xs : List Nat} (h : Sl w a n c xs) (hb : Below w.heap.size w w') : Sl w' a n c xs :=
  ⟨h.len, h.le, h.cap, h.cells.imp id (fun ⟨b, off, e, k⟩ => ⟨b, off, e, k.below hb⟩)⟩

theorem bel_drewN {B : Nat} {a w : World} (h : Below B a w) (k : Nat) : Below B a (w.drewN k) := ⟨h.os, h.tape, h.output, h.size, h.block⟩

theorem Sl.drewN {w : World} {a : Option Addr} {n c : Nat} {xs : List Nat} (h : Sl w a n c xs) (k : Nat) : Sl (w.drewN k) a n c xs :=
  h.below (bel_drewN (Below.refl _ _) k)
structure UfI (D : Nat → Prop) (pf ro h : Nat → Nat) (M : Nat) : Prop where
  lt : ∀ e, D e → D (pf e)
  rl : ∀ e, D e → D (ro e)
  fx : ∀ e, D e → pf (ro e) = ro e
  st : ∀ e, D e → ro (pf e) = ro e
  id : ∀ e, D e → pf e = e → ro e = e
  hM : ∀ e, D e → h e ≤ M
  up : ∀ e, D e → pf e ≠ e → h e < h (pf e)
def upF (pf : Nat → Nat) (a b : Nat) (e : Nat) : Nat := if e = a then b else pf e
theorem upF_same (pf : Nat → Nat) (a b : Nat) : upF pf a b a = b := by simp [upF]
theorem upF_other (pf : Nat → Nat) {a b e : Nat} (h : e ≠ a) : upF pf a b e = pf e := by simp [upF, h]
section
variable {D : Nat → Prop} {pf ro h : Nat → Nat} {M : Nat}
theorem UfI.rr (u : UfI D pf ro h M) {e : Nat} (he : D e) : ro (ro e) = ro e := u.id _ (u.rl e he) (u.fx e he)
theorem UfI.halve (u : UfI D pf ro h M) {a : Nat} (ha : D a) : UfI D (upF pf a (pf (pf a))) ro h M := by
  have up2 : pf a ≠ a → h a < h (pf (pf a)) := fun hn => by
    have h1 := u.up a ha hn
    by_cases c : pf (pf a) = pf a
    · rw [c]; exact h1
    · exact Nat.lt_trans h1 (u.up _ (u.lt a ha) c)
  refine ⟨fun e he => ?_, u.rl, fun e he => ?_, fun e he => ?_, fun e he hp => ?_, u.hM, fun e he hp => ?_⟩
  · unfold upF
    split
    · exact u.lt _ (u.lt a ha)
    · exact u.lt e he
  · by_cases c : ro e = a
    · rw [c, upF_same]
      have := u.fx e he
      rw [c] at this
      rw [this, this]
    · rw [upF_other _ c]
      exact u.fx e he
  · by_cases c : e = a
    · rw [c, upF_same, u.st _ (u.lt a ha), u.st a ha]
    · rw [upF_other _ c]
      exact u.st e he
  · by_cases c : e = a
    · rw [c] at hp ⊢
      rw [upF_same] at hp
      by_cases c2 : pf a = a
      · exact u.id a ha c2
      · have := up2 c2
        rw [hp] at this
        omega
    · rw [upF_other _ c] at hp
      exact u.id e he hp
  · by_cases c : e = a
    · rw [c] at hp ⊢
      rw [upF_same] at hp ⊢
      refine up2 (fun c2 => hp ?_)
      rw [c2, c2]
    · rw [upF_other _ c] at hp ⊢
      exact u.up e he hp
theorem UfI.join (u : UfI D pf ro h M) {a b : Nat} (ha : D a) (hb : D b) (pa : pf a = a) (pb : pf b = b) : ∃ h' M', UfI D (upF pf a b) (fun e => if ro e = a then b else ro e) h' M' := by
  have ra := u.id a ha pa
  have rb := u.id b hb pb
  by_cases hab : a = b
  · subst hab
    refine ⟨h, M, ⟨fun e he => ?_, fun e he => ?_, fun e he => ?_, fun e he => ?_, fun e he hp => ?_, u.hM, fun e he hp => ?_⟩⟩
    · unfold upF; split
      · exact ha
      · exact u.lt e he
    · split
      · exact ha
      · exact u.rl e he
    · skip
      split
      · rw [upF_same]
      · rename_i c; rw [upF_other _ c]; exact u.fx e he
    · have : ro (upF pf a a e) = ro e := by
        by_cases c : e = a
        · rw [c, upF_same]
        · rw [upF_other _ c]; exact u.st e he
      simp only [this]
    · have hp' : pf e = e := by
        by_cases c : e = a
        · rw [c]; exact pa
        · rw [upF_other _ c] at hp; exact hp
      simp only [u.id e he hp']
      split
      · rename_i c; exact c.symm
      · rfl
    · by_cases c : e = a
      · rw [c, upF_same] at hp; exact absurd rfl hp
      · rw [upF_other _ c] at hp ⊢; exact u.up e he hp
  · refine ⟨fun e => if ro e = a then h e else h e + (M + 1), M + (M + 1), ⟨fun e he => ?_, fun e he => ?_, fun e he => ?_, fun e he => ?_, fun e he hp => ?_, fun e he => ?_, fun e he hp => ?_⟩⟩
    · unfold upF; split
      · exact hb
      · exact u.lt e he
    · split
      · exact hb
      · exact u.rl e he
    · skip
      split
      · rw [upF_other _ (fun x => hab x.symm)]; exact pb
      · rename_i c; rw [upF_other _ c]; exact u.fx e he
    · by_cases c : e = a
      · subst c
        simp only [upF_same, ra, rb, if_true]
        rw [if_neg (fun x => hab x.symm)]
      · rw [upF_other _ c]
        simp only [u.st e he]
    · by_cases c : e = a
      · rw [c, upF_same] at hp; exact absurd hp.symm hab
      · rw [upF_other _ c] at hp
        simp only [u.id e he hp]
        rw [if_neg c]
    · skip
      have := u.hM e he
      split <;> omega
    · by_cases c : e = a
      · subst c
        rw [upF_same]
        simp only [ra, rb, if_true]
        rw [if_neg (fun x => hab x.symm)]
        have := u.hM e he
        omega
      · rw [upF_other _ c] at hp ⊢
        simp only [u.st e he]
        have := u.up e he hp
        split <;> omega
theorem UfI.alone (hp : ∀ e, D e → pf e = e) : UfI D pf (fun e => e) (fun _ => 0) 0 :=
  ⟨fun e he => by rw [hp e he]; exact he, fun e he => he, fun e he => hp e he, fun e he => hp e he, fun e he h => rfl, fun e he => Nat.le_refl _, fun e he hn => absurd (hp e he) hn⟩
theorem UfI.congr {pf' : Nat → Nat} (u : UfI D pf ro h M) (e : ∀ x, D x → pf x = pf' x) : UfI D pf' ro h M :=
  ⟨fun x hx => by rw [← e x hx]; exact u.lt x hx, u.rl, fun x hx => by rw [← e _ (u.rl x hx)]; exact u.fx x hx, fun x hx => by rw [← e x hx]; exact u.st x hx, fun x hx hp => u.id x hx (by rw [e x hx]; exact hp), u.hM, fun x hx hp => by rw [← e x hx] at hp ⊢; exact u.up x hx hp⟩
end
def CyP (ad : Nat → Nat → Prop) (T : Nat → Prop) : Prop := ∀ v, T v → ∃ p q, p ≠ q ∧ T p ∧ T q ∧ ad p v ∧ ad q v
def FoP (ad : Nat → Nat → Prop) (T0 : Nat → Prop) : Prop := ∀ T : Nat → Prop, (∀ v, T v → T0 v) → CyP ad T → ∀ v, ¬ T v
inductive WyP (ad : Nat → Nat → Prop) (T : Nat → Prop) (a : Nat) : Nat → Prop
  | here (h : T a) : WyP ad T a a
  | go (b c : Nat) (w : WyP ad T a b) (h : T c) (e : ad b c) : WyP ad T a c
section
variable {ad : Nat → Nat → Prop} {T : Nat → Prop}
theorem FoP.sub {T' : Nat → Prop} (h : FoP ad T) (k : ∀ v, T' v → T v) : FoP ad T' := fun S hS hc => h S (fun v hv => k v (hS v hv)) hc
theorem FoP.iff {T' : Nat → Prop} (k : ∀ v, T' v ↔ T v) : FoP ad T' ↔ FoP ad T := ⟨fun h => h.sub (fun v => (k v).2), fun h => h.sub (fun v => (k v).1)⟩
theorem FoP.ad_congr {ad' : Nat → Nat → Prop} (k : ∀ u v, T u → T v → (ad u v ↔ ad' u v)) (h : FoP ad T) : FoP ad' T := fun S hS hc => h S hS (fun v hv => by
  obtain ⟨p, q, h1, h2, h3, h4, h5⟩ := hc v hv
  exact ⟨p, q, h1, h2, h3, (k p v (hS p h2) (hS v hv)).2 h4, (k q v (hS q h3) (hS v hv)).2 h5⟩)
theorem WyP.first {a b : Nat} (w : WyP ad T a b) : T a := by induction w with
  | here h => exact h
  | go b c w h e ih => exact ih
theorem WyP.last {a b : Nat} (w : WyP ad T a b) : T b := by cases w with
  | here h => exact h
  | go b c w h e => exact h
theorem WyP.more {T' : Nat → Prop} (k : ∀ v, T v → T' v) {a b : Nat} (w : WyP ad T a b) : WyP ad T' a b := by induction w with
  | here h => exact .here (k a h)
  | go b c w h e ih => exact .go b c ih (k c h) e
theorem WyP.trans {a b c : Nat} (w : WyP ad T a b) (w' : WyP ad T b c) : WyP ad T a c := by induction w' with
  | here h => exact w
  | go c d w1 h e ih => exact .go c d ih h e
theorem WyP.turn (sy : ∀ u v, ad u v → ad v u) {a b : Nat} (w : WyP ad T a b) : WyP ad T b a := by induction w with
  | here h => exact .here h
  | go b c w h e ih => exact (WyP.go c b (.here h) w.last (sy _ _ e)).trans ih
def LfP (ad : Nat → Nat → Prop) (T : Nat → Prop) (z : Nat) : Prop := ∀ p q, T p → T q → ad p z → ad q z → p = q
theorem FoP.leaf (h : FoP ad T) {x : Nat} (hx : T x) : ∃ z, T z ∧ LfP ad T z := by
  apply Classical.byContradiction
  intro hn
  refine h T (fun v hv => hv) (fun v hv => ?_) x hx
  apply Classical.byContradiction
  intro hm
  refine hn ⟨v, hv, fun p q hp hq hpv hqv => ?_⟩
  apply Classical.byContradiction
  intro hpq
  exact hm ⟨p, q, hpq, hp, hq, hpv, hqv⟩
theorem way_round (ir : ∀ u, ¬ ad u u) (sy : ∀ u v, ad u v → ad v u) {S : Nat → Prop} (hS : ∀ v, S v → T v) {x : Nat} (lf : LfP ad T x) {a b : Nat} (w : WyP ad S a b) (ha : a ≠ x) : (b ≠ x → WyP ad (fun v => S v ∧ v ≠ x) a b) ∧ (b = x → ∃ y, S y ∧ ad y x ∧ WyP ad (fun v => S v ∧ v ≠ x) a y) := by
  induction w with
  | here h => exact ⟨fun hb => .here ⟨h, hb⟩, fun hb => absurd hb ha⟩
  | go b c w h e ih =>
    obtain ⟨i1, i2⟩ := ih
    refine ⟨fun hc => ?_, fun hc => ?_⟩
    · by_cases hb : b = x
      · obtain ⟨y, hy1, hy2, hy3⟩ := i2 hb
        have : y = c := lf y c (hS y hy1) (hS c h) hy2 (by rw [← hb]; exact sy _ _ e)
        rw [← this]; exact hy3
      · exact .go b c (i1 hb) ⟨h, hc⟩ e
    · have hb : b ≠ x := fun hb => ir x (by rw [hb, hc] at e; exact e)
      exact ⟨b, w.last, by rw [← hc]; exact e, i1 hb⟩
theorem forest_apart (ir : ∀ u, ¬ ad u u) (sy : ∀ u v, ad u v → ad v u) {v : Nat} : ∀ (n : Nat) (S : Nat → Prop), (∃ l : List Nat, l.length ≤ n ∧ ∀ x, S x → x ∈ l) → FoP ad S → S v → ∀ a b, ad a v → ad b v → WyP ad (fun u => S u ∧ u ≠ v) a b → a = b
  | 0, S, ⟨l, hl, hm⟩, _, hv, a, b, _, _, _ => by
    have := hm v hv
    have : l = [] := List.eq_nil_of_length_eq_zero (by omega)
    subst this
    simp_all
  | n + 1, S, ⟨l, hl, hm⟩, hF, hv, a, b, hav, hbv, w => by
    apply Classical.byContradiction
    intro hab
    have ha := w.first
    have hb := w.last
    obtain ⟨x, hx, lf⟩ := hF.leaf hv
    have hxv : x ≠ v := fun e => by subst e; exact hab (lf a b ha.1 hb.1 hav hbv)
    have alone : ∀ c, S c → c ≠ v → ad c x → ad x v → False := fun c h1 h2 h3 h4 => h2 (lf c v h1 hv h3 (sy _ _ h4))
    have key : x ≠ a ∧ x ≠ b := by
      constructor
      · intro e
        subst e
        have := w.turn sy
        cases this with
        | here h => exact hab rfl
        | go y _ w' h e => exact alone y w'.last.1 w'.last.2 e hav
      · intro e
        subst e
        cases w with
        | here h => exact hab rfl
        | go y _ w' h e => exact alone y w'.last.1 w'.last.2 e hbv
    have w2 := (way_round (T := S) ir sy (S := fun u => S u ∧ u ≠ v) (fun u h => h.1) lf w (fun e => key.1 e.symm)).1 (fun e => key.2 e.symm)
    refine hab (forest_apart ir sy n (fun u => S u ∧ u ≠ x) ⟨l.erase x, ?_, fun u hu => ?_⟩ (hF.sub (fun u h => h.1)) ⟨hv, fun e => hxv e.symm⟩ a b hav hbv (w2.more (fun u h => ⟨⟨h.1.1, h.2⟩, h.1.2⟩)))
    · rw [List.length_erase_of_mem (hm x hx)]
      omega
    · exact (List.mem_erase_of_ne hu.2).2 (hm u hu.1)
theorem forest_leaf (ir : ∀ u, ¬ ad u u) (sy : ∀ u v, ad u v → ad v u) : ∀ (n : Nat) (S : Nat → Prop), (∃ l : List Nat, l.length ≤ n ∧ ∀ x, S x → x ∈ l) → FoP ad S → ∀ x w, S x → S w → ad x w → ∃ y, y ≠ x ∧ WyP ad S x y ∧ LfP ad S y
  | 0, S, ⟨l, hl, hm⟩, _, x, w, hx, _, _ => by
    have := hm x hx
    have : l = [] := List.eq_nil_of_length_eq_zero (by omega)
    subst this
    simp_all
  | n + 1, S, ⟨l, hl, hm⟩, hF, x, w, hx, hw, hxw => by
    obtain ⟨z, hz, lf⟩ := hF.leaf hx
    have less : ∃ l' : List Nat, l'.length ≤ n ∧ ∀ u, (S u ∧ u ≠ z) → u ∈ l' := ⟨l.erase z, by rw [List.length_erase_of_mem (hm z hz)]; omega, fun u hu => (List.mem_erase_of_ne hu.2).2 (hm u hu.1)⟩
    have hF' : FoP ad (fun u => S u ∧ u ≠ z) := hF.sub (fun u h => h.1)
    have hwx : w ≠ x := fun e => ir x (by rw [e] at hxw; exact hxw)
    by_cases hzx : z = x
    · subst hzx
      by_cases hq : ∃ q, (S q ∧ q ≠ z) ∧ ad w q
      · obtain ⟨q, hq1, hq2⟩ := hq
        obtain ⟨y, hy1, hy2, hy3⟩ := forest_leaf ir sy n _ less hF' w q ⟨hw, hwx⟩ hq1 hq2
        have hyz := hy2.last.2
        have nz : ¬ ad z y := fun e => hy1 (lf y w hy2.last.1 hw (sy _ _ e) (sy _ _ hxw))
        refine ⟨y, hyz, (WyP.go z w (.here hz) hw hxw).trans (hy2.more (fun u h => h.1)), fun p q hp hq hpy hqy => ?_⟩
        exact hy3 p q ⟨hp, fun e => nz (by rw [← e]; exact hpy)⟩ ⟨hq, fun e => nz (by rw [← e]; exact hqy)⟩ hpy hqy
      · refine ⟨w, hwx, .go z w (.here hz) hw hxw, fun p q hp hq' hpw hqw => ?_⟩
        have h1 : p = z := Classical.byContradiction (fun e => hq ⟨p, ⟨hp, e⟩, sy _ _ hpw⟩)
        have h2 : q = z := Classical.byContradiction (fun e => hq ⟨q, ⟨hq', e⟩, sy _ _ hqw⟩)
        rw [h1, h2]
    · by_cases hwz : WyP ad S x z
      · exact ⟨z, hzx, hwz, lf⟩
      · have hwz' : w ≠ z := fun e => hwz (.go x z (.here hx) hz (by rw [← e]; exact hxw))
        obtain ⟨y, hy1, hy2, hy3⟩ := forest_leaf ir sy n _ less hF' x w ⟨hx, fun e => hzx e.symm⟩ ⟨hw, hwz'⟩ hxw
        have nz : ¬ ad z y := fun e => hwz (.go y z (hy2.more (fun u h => h.1)) hz (sy _ _ e))
        refine ⟨y, hy1, hy2.more (fun u h => h.1), fun p q hp hq hpy hqy => ?_⟩
        exact hy3 p q ⟨hp, fun e => nz (by rw [← e]; exact hpy)⟩ ⟨hq, fun e => nz (by rw [← e]; exact hqy)⟩ hpy hqy
theorem forest_add (ir : ∀ u, ¬ ad u u) (sy : ∀ u v, ad u v → ad v u) {n : Nat} {v : Nat} (fin : ∃ l : List Nat, ∀ x, T x → x ∈ l) (hF : FoP ad T) (hv : ¬ T v) : FoP ad (fun u => T u ∨ u = v) ↔ ∀ a b, ad a v → ad b v → WyP ad T a b → a = b := by
  obtain ⟨l, hm⟩ := fin
  constructor
  · intro h a b hav hbv w
    refine forest_apart (v := v) ir sy (v :: l).length (fun u => T u ∨ u = v) ⟨v :: l, Nat.le_refl _, fun x hx => ?_⟩ h (.inr rfl) a b hav hbv (w.more (fun u hu => ⟨.inl hu, fun e => hv (by rw [← e]; exact hu)⟩))
    rcases hx with hx | hx
    · exact List.mem_cons_of_mem _ (hm x hx)
    · rw [hx]; exact List.mem_cons_self
  · intro h S hS hc x hx
    have hvS : S v := Classical.byContradiction (fun hn => hF S (fun u hu => (hS u hu).elim id (fun e => absurd (by rw [← e]; exact hu) hn)) hc x hx)
    obtain ⟨a, b, hab, ha, hb, hav, hbv⟩ := hc v hvS
    have hF' : FoP ad (fun u => S u ∧ u ≠ v) := hF.sub (fun u hu => (hS u hu.1).elim id (fun e => absurd e hu.2))
    have ne : ∀ u, ad u v → u ≠ v := fun u e he => ir v (by rw [he] at e; exact e)
    have toT : ∀ u, (S u ∧ u ≠ v) → T u := fun u hu => (hS u hu.1).elim id (fun e => absurd e hu.2)
    obtain ⟨p, q, hpq, hp, hq, hpa, hqa⟩ := hc a ha
    have nb : ∃ c, (S c ∧ c ≠ v) ∧ ad a c := by
      by_cases e : p = v
      · exact ⟨q, ⟨hq, fun e2 => hpq (by rw [e, e2])⟩, sy _ _ hqa⟩
      · exact ⟨p, ⟨hp, e⟩, sy _ _ hpa⟩
    obtain ⟨c, hc1, hc2⟩ := nb
    obtain ⟨y, hy1, hy2, hy3⟩ := forest_leaf ir sy l.length (fun u => S u ∧ u ≠ v) ⟨l, Nat.le_refl _, fun u hu => hm u (toT u hu)⟩ hF' a c ⟨ha, ne a hav⟩ hc1 hc2
    have hyv : ad y v := by
      apply Classical.byContradiction
      intro hn
      obtain ⟨p, q, hpq, hp, hq, hpy, hqy⟩ := hc y hy2.last.1
      have e1 : p ≠ v := fun e => hn (sy _ _ (by rw [← e]; exact hpy))
      have e2 : q ≠ v := fun e => hn (sy _ _ (by rw [← e]; exact hqy))
      exact hpq (hy3 p q ⟨hp, e1⟩ ⟨hq, e2⟩ hpy hqy)
    exact hy1 (h a y hav hyv (hy2.more toT)).symm
end
def elN (v k : Nat) : Nat := v * 128 + k
def elD (n : Nat) (x : Nat) : Prop := x / 128 < n ∧ x % 128 < n
theorem elN_div {v k : Nat} (hk : k < 128) : elN v k / 128 = v := by unfold elN; omega
theorem elN_mod {v k : Nat} (hk : k < 128) : elN v k % 128 = k := by unfold elN; omega
theorem elN_D {n v k : Nat} (hn : n ≤ 128) (hv : v < n) (hk : k < n) : elD n (elN v k) := by
  unfold elD
  rw [elN_div (by omega), elN_mod (by omega)]
  exact ⟨hv, hk⟩
theorem elN_of (x : Nat) : elN (x / 128) (x % 128) = x := by unfold elN; omega
def TwC (cs : Nat → Int) (R : Nat) (c d : Int) (w : Nat) : Prop := w < R ∧ (cs w = c ∨ cs w = d)
theorem TwC.swap {cs : Nat → Int} {R : Nat} {c d : Int} {w : Nat} (h : TwC cs R c d w) : TwC cs R d c w := ⟨h.1, h.2.symm⟩
def LkP (ad : Nat → Nat → Prop) (cs : Nat → Int) (R : Nat) (x y : Nat) : Prop :=
  x = y ∨ (WyP ad (TwC cs R (cs (x / 128)) ((x % 128 : Nat) : Int)) (x / 128) (y / 128) ∧ ((cs (y / 128) = cs (x / 128) ∧ y % 128 = x % 128) ∨ (cs (y / 128) = ((x % 128 : Nat) : Int) ∧ ((y % 128 : Nat) : Int) = cs (x / 128))))
section
variable {ad : Nat → Nat → Prop} {cs : Nat → Int} {R : Nat}
theorem LkP.turn (sy : ∀ u v, ad u v → ad v u) {x y : Nat} (h : LkP ad cs R x y) : LkP ad cs R y x := by
  rcases h with h | ⟨w, h⟩
  · exact .inl h.symm
  · refine .inr ⟨?_, ?_⟩
    · rcases h with ⟨h1, h2⟩ | ⟨h1, h2⟩
      · rw [h1, h2]; exact w.turn sy
      · rw [h1, h2]; exact (w.turn sy).more (fun v hv => hv.swap)
    · rcases h with ⟨h1, h2⟩ | ⟨h1, h2⟩
      · exact .inl ⟨h1.symm, h2.symm⟩
      · exact .inr ⟨h2.symm, h1.symm⟩
theorem LkP.trans {x y z : Nat} (h : LkP ad cs R x y) (k : LkP ad cs R y z) : LkP ad cs R x z := by
  rcases h with h | ⟨w, h⟩
  · rw [h]; exact k
  · rcases k with k | ⟨w2, k⟩
    · rw [← k]; exact .inr ⟨w, h⟩
    · refine .inr ⟨w.trans ?_, ?_⟩
      · rcases h with ⟨h1, h2⟩ | ⟨h1, h2⟩
        · rw [h1, h2] at w2; exact w2
        · rw [h1, h2] at w2; exact w2.more (fun v hv => hv.swap)
      · rcases h with ⟨h1, h2⟩ | ⟨h1, h2⟩
        · rcases k with ⟨k1, k2⟩ | ⟨k1, k2⟩
          · exact .inl ⟨k1.trans h1, k2.trans h2⟩
          · exact .inr ⟨by rw [k1, h2], by rw [k2, h1]⟩
        · rcases k with ⟨k1, k2⟩ | ⟨k1, k2⟩
          · exact .inr ⟨k1.trans h1, by rw [k2, h2]⟩
          · exact .inl ⟨by rw [k1, h2], by have : ((z % 128 : Nat) : Int) = ((x % 128 : Nat) : Int) := by rw [k2, h1]
                                           omega⟩
theorem LkP.edge {u v a b : Nat} (hu : u < R) (hv : v < R) (ea : cs v = (a : Int)) (eb : cs u = (b : Int)) (ha : a < 128) (hb : b < 128) (e : ad u v) : LkP ad cs R (elN u a) (elN v b) := by
  refine .inr ⟨?_, .inr ?_⟩
  · rw [elN_div ha, elN_mod ha, elN_div hb]
    exact .go u v (.here ⟨hu, .inl rfl⟩) ⟨hv, .inr ea⟩ e
  · rw [elN_div ha, elN_mod ha, elN_div hb, elN_mod hb]
    exact ⟨ea, eb.symm⟩
structure UfE (ad : Nat → Nat → Prop) (cs : Nat → Int) (R : Nat) (ro : Nat → Nat) (ed : Nat → Nat → Prop) : Prop where
  link : ∀ x, elD R x → LkP ad cs R x (ro x)
  edge : ∀ u v a b, ed u v → cs v = ((a : Nat) : Int) → cs u = ((b : Nat) : Int) → ro (elN u a) = ro (elN v b)
theorem UfE.none : UfE ad cs R (fun e => e) (fun _ _ => False) := ⟨fun x _ => .inl rfl, fun u v a b h => h.elim⟩
theorem UfE.more {ro : Nat → Nat} {ed ed' : Nat → Nat → Prop} (h : UfE ad cs R ro ed) (k : ∀ u v a b, ed' u v → cs v = ((a : Nat) : Int) → cs u = ((b : Nat) : Int) → ed u v) : UfE ad cs R ro ed' := ⟨h.link, fun u v a b e h1 h2 => h.edge u v a b (k u v a b e h1 h2) h1 h2⟩
theorem UfE.step (sy : ∀ u v, ad u v → ad v u) {ro : Nat → Nat} {ed : Nat → Nat → Prop} (h : UfE ad cs R ro ed) {u v a b : Nat} (hR : R ≤ 128) (hu : u < R) (hv : v < R) (ea : cs v = (a : Int)) (eb : cs u = (b : Int)) (ha : a < R) (hb : b < R) (e : ad u v) :
    UfE ad cs R (fun x => if ro x = ro (elN u a) then ro (elN v b) else ro x) (fun x y => ed x y ∨ (x = u ∧ y = v)) := by
  refine ⟨fun x hx => ?_, fun p q a' b' hpq h1 h2 => ?_⟩
  · split
    · rename_i c
      have k1 := h.link x hx
      rw [c] at k1
      have k2 := h.link (elN u a) (elN_D hR hu ha)
      have k3 := LkP.edge (R := R) hu hv ea eb (by omega) (by omega) e
      have k4 := h.link (elN v b) (elN_D hR hv hb)
      exact ((k1.trans (k2.turn sy)).trans k3).trans k4
    · exact h.link x hx
  · rcases hpq with hpq | ⟨rfl, rfl⟩
    · rw [h.edge p q a' b' hpq h1 h2]
    · have e1 : a' = a := by omega
      have e2 : b' = b := by omega
      subst e1 e2
      simp only [if_true]
      split <;> rfl
theorem UfE.iff (sy : ∀ u v, ad u v → ad v u) {ro : Nat → Nat} {ed : Nat → Nat → Prop} (h : UfE ad cs R ro ed) (hed : ∀ u v, ad u v → 0 ≤ cs u → 0 ≤ cs v → ed u v ∨ ed v u) (hpr : ∀ u v, ad u v → 0 ≤ cs u → cs u ≠ cs v) (hR : R ≤ 128) {u1 u2 k c : Nat} (h1 : u1 < R) (h2 : u2 < R) (e1 : cs u1 = (c : Int)) (hc : c < R) (hk : k < R) (n1 : c ≠ k) (n2 : cs u2 ≠ (k : Int)) :
    ro (elN u1 k) = ro (elN u2 k) ↔ (cs u2 = (c : Int) ∧ WyP ad (TwC cs R (c : Int) (k : Int)) u1 u2) := by
  constructor
  · intro e
    have k1 := h.link (elN u1 k) (elN_D hR h1 hk)
    rw [e] at k1
    have k2 := k1.trans ((h.link (elN u2 k) (elN_D hR h2 hk)).turn sy)
    rcases k2 with k2 | ⟨w, k2⟩
    · have : u1 = u2 := by unfold elN at k2; omega
      subst this
      exact ⟨e1, .here ⟨h1, .inl e1⟩⟩
    · rw [elN_div (by omega), elN_mod (by omega), elN_div (by omega)] at w k2
      rw [elN_mod (by omega)] at k2
      rw [e1] at w k2
      rcases k2 with ⟨k2, _⟩ | ⟨k2, _⟩
      · exact ⟨k2, w⟩
      · exact absurd k2 n2
  · rintro ⟨e2, w⟩
    have key : ∀ z, WyP ad (TwC cs R (c : Int) (k : Int)) u1 z → (cs z = (c : Int) → ro (elN u1 k) = ro (elN z k)) ∧ (cs z = (k : Int) → ro (elN u1 k) = ro (elN z c)) := by
      intro z w
      induction w with
      | here h => exact ⟨fun _ => rfl, fun e => by rw [e1] at e; omega⟩
      | go b d w hd e ih =>
        have hb := w.last
        have hbd := hpr b d e (by rcases hb.2 with x | x <;> omega)
        have hedge : ∀ a' b' : Nat, cs d = (a' : Int) → cs b = (b' : Int) → ro (elN b a') = ro (elN d b') := fun a' b' x y => by
          rcases hed b d e (by omega) (by omega) with q | q
          · exact h.edge b d a' b' q x y
          · exact (h.edge d b b' a' q y x).symm
        refine ⟨fun x => ?_, fun x => ?_⟩
        · have hb' : cs b = (k : Int) := hb.2.elim (fun y => absurd (y.trans x.symm) hbd) id
          rw [ih.2 hb', hedge c k x hb']
        · have hb' : cs b = (c : Int) := hb.2.elim id (fun y => absurd (y.trans x.symm) hbd)
          rw [ih.1 hb', hedge k c x hb']
    exact (key u2 w).1 e2
end

theorem cell_of_block {w : World} {b : Nat} {cur : Array Value} {e : TypeId} {fr : Nat × Nat} (h : w.heap[b]? = some (.cells cur e fr)) (i : Nat) : w.cell? ⟨b, i, none⟩ = cur[i]? := by
  simp [World.cell?, h]

theorem frozen_of_block {w : World} {b : Nat} {cur : Array Value} {e : TypeId} (h : w.heap[b]? = some (.cells cur e)) (i : Nat) : w.frozen? ⟨b, i, none⟩ = false := by
  simp [World.frozen?, h]

theorem set_block {w : World} {b : Nat} {cur : Array Value} {e : TypeId} {fr : Nat × Nat} (h : w.heap[b]? = some (.cells cur e fr)) (i : Nat) (v : Value) : (w.setCell ⟨b, i, none⟩ v).heap[b]? = some (.cells (cur.setIfInBounds i v) e fr) := by
  simp only [World.setCell, Array.getElem?_modify, h]
  simp

theorem set_block_other {w : World} {b k i : Nat} (hk : k ≠ b) (v : Value) : (w.setCell ⟨b, i, none⟩ v).heap[k]? = w.heap[k]? :=
  Below.heap_setCell w _ v k hk

theorem alloc_block (w : World) (o : Obj) : (w.alloc o).heap[w.heap.size]? = some o := by
  show (w.heap.push o)[w.heap.size]? = some o
  simp
end Go.Proofs.YtgjokididdffhaaGreat
