/- Num -/
import Derived.Test.YtgjokididdffhaaGreatRows
import Derived.WalkKit
import Derived.WalkSpells
import Derived.WalkLawsBesides
import Derived.Deep.QuietTactic
import Derived.BigQuiet
import Derived.Deep.OwnRows
namespace Go.Proofs.YtgjokididdffhaaGreat
set_option linter.unusedVariables false
def val : List Nat → Nat
  | [] => 0
  | x :: xs => x + 4294967296 * val xs

def Ok (xs : List Nat) : Prop := ∀ x ∈ xs, x < 4294967296

def Norm (xs : List Nat) : Prop := xs = [] ∨ xs.getD (xs.length - 1) 0 ≠ 0

structure Rep (n : Nat) (xs : List Nat) : Prop where
  ok : Ok xs
  norm : Norm xs
  val : val xs = n

theorem Ok.tail {x : Nat} {xs : List Nat} (h : Ok (x :: xs)) : Ok xs := fun y hy => h y (List.mem_cons_of_mem _ hy)
theorem Ok.head {x : Nat} {xs : List Nat} (h : Ok (x :: xs)) : x < 4294967296 := h x (List.mem_cons_self)
theorem Ok.nil : Ok [] := fun x h => by cases h
theorem Ok.cons {x : Nat} {xs : List Nat} (h : x < 4294967296) (k : Ok xs) : Ok (x :: xs) := by
  intro y hy
  rcases List.mem_cons.1 hy with rfl | hy
  · exact h
  · exact k y hy
theorem Ok.getD {xs : List Nat} (h : Ok xs) (i : Nat) : xs.getD i 0 < 4294967296 := by
  by_cases hi : i < xs.length
  · have : xs.getD i 0 = xs[i] := by simp [List.getD, hi]
    rw [this]; exact h _ (List.getElem_mem hi)
  · have : xs.getD i 0 = 0 := by simp [List.getD, List.getElem?_eq_none (Nat.le_of_not_lt hi)]
    rw [this]; decide
theorem Ok.take {xs : List Nat} (h : Ok xs) (m : Nat) : Ok (xs.take m) := fun x hx => h x (List.mem_of_mem_take hx)
theorem Ok.drop {xs : List Nat} (h : Ok xs) (m : Nat) : Ok (xs.drop m) := fun x hx => h x (List.mem_of_mem_drop hx)

theorem norm_tail {x : Nat} {xs : List Nat} (h : Norm (x :: xs)) : Norm xs := by
  cases xs with
  | nil => exact .inl rfl
  | cons y ys =>
    right
    rcases h with h | h
    · cases h
    · simpa using h

theorem norm_one {x : Nat} (h : Norm [x]) : x ≠ 0 := by
  rcases h with h | h
  · cases h
  · simpa using h

theorem val_ne : ∀ {xs : List Nat}, Norm xs → xs ≠ [] → val xs ≠ 0
  | [], _, h => absurd rfl h
  | [x], h, _ => by have := norm_one h; simp [val]; omega
  | x :: y :: ys, h, _ => by
    have := val_ne (norm_tail h) (by simp)
    simp only [val] at *
    omega

theorem rep_unique : ∀ {xs ys : List Nat}, Ok xs → Ok ys → Norm xs → Norm ys → val xs = val ys → xs = ys
  | [], [], _, _, _, _, _ => rfl
  | [], y :: ys, _, _, _, h, e => by have := val_ne h (by simp); simp only [val] at *; omega
  | x :: xs, [], _, _, h, _, e => by have := val_ne h (by simp); simp only [val] at *; omega
  | x :: xs, y :: ys, ox, oy, nx, ny, e => by
    have hx := ox.head
    have hy := oy.head
    simp only [val] at e
    have e1 : x = y := by omega
    have e2 : val xs = val ys := by omega
    rw [e1, rep_unique ox.tail oy.tail (norm_tail nx) (norm_tail ny) e2]

theorem Rep.unique {n : Nat} {xs ys : List Nat} (h : Rep n xs) (k : Rep n ys) : xs = ys :=
  rep_unique h.ok k.ok h.norm k.norm (h.val.trans k.val.symm)

structure TrimAt (xs : List Nat) (m : Nat) : Prop where
  le : m ≤ xs.length
  top : m = 0 ∨ xs.getD (m - 1) 0 ≠ 0
  zero : ∀ i, m ≤ i → xs.getD i 0 = 0

theorem val_zero : ∀ (xs : List Nat), (∀ i, xs.getD i 0 = 0) → val xs = 0
  | [], _ => rfl
  | x :: xs, h => by
    have h0 := h 0
    have ht := val_zero xs (fun i => by simpa using h (i + 1))
    simp at h0
    simp [val, h0, ht]

theorem val_take : ∀ (xs : List Nat) (m : Nat), (∀ i, m ≤ i → xs.getD i 0 = 0) → val (xs.take m) = val xs
  | xs, 0, h => by simp [val, val_zero xs (fun i => h i (Nat.zero_le _))]
  | [], m + 1, _ => by simp
  | x :: xs, m + 1, h => by
    simp only [List.take_succ_cons, val]
    rw [val_take xs m (fun i hi => by simpa using h (i + 1) (by omega))]

theorem TrimAt.rep {xs : List Nat} {m : Nat} (h : TrimAt xs m) (ok : Ok xs) : Rep (val xs) (xs.take m) := by
  refine ⟨ok.take m, ?_, val_take xs m h.zero⟩
  rcases h.top with h0 | h0
  · left; simp [h0]
  · right
    have hl : (xs.take m).length = m := by simp [Nat.min_eq_left h.le]
    rw [hl]
    by_cases hm : m = 0
    · subst hm
      have := h.zero 0 (Nat.le_refl _)
      simp at h0
      exact absurd (by simpa using this) h0
    · have : (xs.take m).getD (m - 1) 0 = xs.getD (m - 1) 0 := by
        simp [List.getD, show m - 1 < m from by omega]
      rw [this]; exact h0

def limbsF : Nat → Nat → List Nat
  | 0, _ => []
  | k + 1, n => if n = 0 then [] else (n % 4294967296) :: limbsF k (n / 4294967296)

def limbs (n : Nat) : List Nat := limbsF n n

theorem norm_cons {x : Nat} {xs : List Nat} (h : Norm xs) (hx : xs ≠ [] ∨ x ≠ 0) : Norm (x :: xs) := by
  right
  cases xs with
  | nil =>
    rcases hx with h | h
    · exact absurd rfl h
    · simpa using h
  | cons y ys =>
    rcases h with h | h
    · cases h
    · simpa using h

theorem limbsF_rep : ∀ (k n : Nat), n ≤ k → Rep n (limbsF k n)
  | 0, n, h => by
    have : n = 0 := by omega
    subst this
    exact ⟨Ok.nil, .inl rfl, rfl⟩
  | k + 1, n, h => by
    unfold limbsF
    by_cases h0 : n = 0
    · rw [if_pos h0]; subst h0; exact ⟨Ok.nil, .inl rfl, rfl⟩
    · rw [if_neg h0]
      have hr := limbsF_rep k (n / 4294967296) (by omega)
      refine ⟨Ok.cons (by omega) hr.ok, norm_cons hr.norm ?_, ?_⟩
      · by_cases hz : n / 4294967296 = 0
        · right; omega
        · left
          intro e
          have hv := hr.val
          rw [e] at hv
          simp only [val] at hv
          omega
      · simp only [val]
        rw [hr.val]
        omega

theorem limbs_rep (n : Nat) : Rep n (limbs n) := limbsF_rep n n (Nat.le_refl _)
theorem Rep.eq {n : Nat} {xs : List Nat} (h : Rep n xs) : xs = limbs n := h.unique (limbs_rep n)
end Go.Proofs.YtgjokididdffhaaGreat
namespace Go.Proofs.YtgjokididdffhaaGreat
open Go.RowKit Go.Deep
set_option linter.unusedVariables false
theorem hide {p : Prop} (h : p) : Hid p := h
theorem unhide {p : Prop} (h : Hid p) : p := h

def Cells (w : World) (b off : Nat) (xs : List Nat) : Prop :=
  ∀ i, i < xs.length → w.cell? ⟨b, off + i, none⟩ = some (.int .u32 (xs.getD i 0 : Nat))

structure Sl (w : World) (a : Option Addr) (n c : Nat) (xs : List Nat) : Prop where
  len : xs.length = n
  le : n ≤ c
  cap : c ≤ maxLen
  cells : xs = [] ∨ ∃ b off, a = some ⟨b, off, none⟩ ∧ Cells w b off xs

def MayL (xs : List Nat) : Bool := decide (xs.length ≤ 2048) && (xs.isEmpty || xs.getD (xs.length - 1) 0 != 0)

theorem MayL.norm {xs : List Nat} (h : MayL xs = true) : Norm xs := by
  simp only [MayL, Bool.and_eq_true, Bool.or_eq_true, decide_eq_true_eq, List.isEmpty_iff, bne_iff_ne] at h
  exact h.2
theorem MayL.len {xs : List Nat} (h : MayL xs = true) : xs.length ≤ 2048 := by
  simp only [MayL, Bool.and_eq_true, decide_eq_true_eq] at h
  exact h.1
theorem MayL.mk {xs : List Nat} (h : Norm xs) (k : xs.length ≤ 2048) : MayL xs = true := by
  simp only [MayL, Bool.and_eq_true, Bool.or_eq_true, decide_eq_true_eq, List.isEmpty_iff, bne_iff_ne]
  exact ⟨k, h⟩
/-! ### rows that are written -/
def Fn (w : World) (b off n : Nat) (f : Nat → Nat) : Prop :=
  ∀ i, i < n → w.cell? ⟨b, off + i, none⟩ = some (.int .u32 (f i : Nat)) ∧ w.frozen? ⟨b, off + i, none⟩ = false

theorem Fn.set {w : World} {b off n : Nat} {f : Nat → Nat} (h : Fn w b off n f) (k v : Nat) (hk : k < n) :
    Fn (w.setCell ⟨b, off + k, none⟩ (.int .u32 (v : Nat))) b off n (fun i => if i = k then v else f i) := by
  intro i hi
  refine ⟨?_, by rw [World.frozen?_setCell]; exact (h i hi).2⟩
  by_cases e : i = k
  · subst e
    rw [World.cell?_setCell_same _ _ _ (h i hi).1]
    simp
  · rw [World.cell?_setCell_other _ _ _ _ (by intro h; injection h with h1 h2; omega)]
    simp [e, (h i hi).1]

theorem Fn.cells {w : World} {b off n : Nat} {f : Nat → Nat} {xs : List Nat} (h : Fn w b off n f) (hl : xs.length ≤ n) (he : ∀ i, i < xs.length → f i = xs.getD i 0) : Cells w b off xs := by
  intro i hi
  rw [(h i (by omega)).1, he i hi]

theorem Cells.below {w w' : World} {b off : Nat} {xs : List Nat} (h : Cells w b off xs) (hb : Below w.heap.size w w') : Cells w' b off xs := by
  intro i hi
  have := h i hi
  rw [hb.cell (World.block_lt_of_cell? _ _ this)]
  exact this

theorem Fn.made (w : World) (n : Nat) (e : TypeId) : Fn (w.alloc (.cells (madeCells #[.int .u32 0] n) e)) w.heap.size 0 n (fun _ => 0) := by
  intro i hi
  refine ⟨?_, by simp⟩
  simp [madeCells, hi, Nat.mod_one]

theorem Sl.below {w w' : World} {a : Option Addr} {n c : Nat} {xs : List Nat} (h : Sl w a n c xs) (hb : Below w.heap.size w w') : Sl w' a n c xs :=
  ⟨h.len, h.le, h.cap, h.cells.imp id (fun ⟨b, off, e, k⟩ => ⟨b, off, e, k.below hb⟩)⟩

theorem bel_drewN {B : Nat} {a w : World} (h : Below B a w) (k : Nat) : Below B a (w.drewN k) := ⟨h.os, h.tape, h.output, h.size, h.block⟩

theorem Sl.drewN {w : World} {a : Option Addr} {n c : Nat} {xs : List Nat} (h : Sl w a n c xs) (k : Nat) : Sl (w.drewN k) a n c xs :=
  h.below (bel_drewN (Below.refl _ _) k)
structure UfI (D : Nat → Prop) (pf ro h : Nat → Nat) (M : Nat) : Prop where
  lt : ∀ e, D e → D (pf e)
  rl : ∀ e, D e → D (ro e)
  fx : ∀ e, D e → pf (ro e) = ro e
  st : ∀ e, D e → ro (pf e) = ro e
  id : ∀ e, D e → pf e = e → ro e = e
  hM : ∀ e, D e → h e ≤ M
  up : ∀ e, D e → pf e ≠ e → h e < h (pf e)
def upF (pf : Nat → Nat) (a b : Nat) (e : Nat) : Nat := if e = a then b else pf e
theorem upF_same (pf : Nat → Nat) (a b : Nat) : upF pf a b a = b := by simp [upF]
theorem upF_other (pf : Nat → Nat) {a b e : Nat} (h : e ≠ a) : upF pf a b e = pf e := by simp [upF, h]
section
variable {D : Nat → Prop} {pf ro h : Nat → Nat} {M : Nat}
theorem UfI.rr (u : UfI D pf ro h M) {e : Nat} (he : D e) : ro (ro e) = ro e := u.id _ (u.rl e he) (u.fx e he)
theorem UfI.halve (u : UfI D pf ro h M) {a : Nat} (ha : D a) : UfI D (upF pf a (pf (pf a))) ro h M := by
  have up2 : pf a ≠ a → h a < h (pf (pf a)) := fun hn => by
    have h1 := u.up a ha hn
    by_cases c : pf (pf a) = pf a
    · rw [c]; exact h1
    · exact Nat.lt_trans h1 (u.up _ (u.lt a ha) c)
  refine ⟨fun e he => ?_, u.rl, fun e he => ?_, fun e he => ?_, fun e he hp => ?_, u.hM, fun e he hp => ?_⟩
  · unfold upF
    split
    · exact u.lt _ (u.lt a ha)
    · exact u.lt e he
  · by_cases c : ro e = a
    · rw [c, upF_same]
      have := u.fx e he
      rw [c] at this
      rw [this, this]
    · rw [upF_other _ c]
      exact u.fx e he
  · by_cases c : e = a
    · rw [c, upF_same, u.st _ (u.lt a ha), u.st a ha]
    · rw [upF_other _ c]
      exact u.st e he
  · by_cases c : e = a
    · rw [c] at hp ⊢
      rw [upF_same] at hp
      by_cases c2 : pf a = a
      · exact u.id a ha c2
      · have := up2 c2
        rw [hp] at this
        omega
    · rw [upF_other _ c] at hp
      exact u.id e he hp
  · by_cases c : e = a
    · rw [c] at hp ⊢
      rw [upF_same] at hp ⊢
      refine up2 (fun c2 => hp ?_)
      rw [c2, c2]
    · rw [upF_other _ c] at hp ⊢
      exact u.up e he hp
theorem UfI.join (u : UfI D pf ro h M) {a b : Nat} (ha : D a) (hb : D b) (pa : pf a = a) (pb : pf b = b) : ∃ h' M', UfI D (upF pf a b) (fun e => if ro e = a then b else ro e) h' M' := by
  have ra := u.id a ha pa
  have rb := u.id b hb pb
  by_cases hab : a = b
  · subst hab
    refine ⟨h, M, ⟨fun e he => ?_, fun e he => ?_, fun e he => ?_, fun e he => ?_, fun e he hp => ?_, u.hM, fun e he hp => ?_⟩⟩
    · unfold upF; split
      · exact ha
      · exact u.lt e he
    · split
      · exact ha
      · exact u.rl e he
    · skip
      split
      · rw [upF_same]
      · rename_i c; rw [upF_other _ c]; exact u.fx e he
    · have : ro (upF pf a a e) = ro e := by
        by_cases c : e = a
        · rw [c, upF_same]
        · rw [upF_other _ c]; exact u.st e he
      simp only [this]
    · have hp' : pf e = e := by
        by_cases c : e = a
        · rw [c]; exact pa
        · rw [upF_other _ c] at hp; exact hp
      simp only [u.id e he hp']
      split
      · rename_i c; exact c.symm
      · rfl
    · by_cases c : e = a
      · rw [c, upF_same] at hp; exact absurd rfl hp
      · rw [upF_other _ c] at hp ⊢; exact u.up e he hp
  · refine ⟨fun e => if ro e = a then h e else h e + (M + 1), M + (M + 1), ⟨fun e he => ?_, fun e he => ?_, fun e he => ?_, fun e he => ?_, fun e he hp => ?_, fun e he => ?_, fun e he hp => ?_⟩⟩
    · unfold upF; split
      · exact hb
      · exact u.lt e he
    · split
      · exact hb
      · exact u.rl e he
    · skip
      split
      · rw [upF_other _ (fun x => hab x.symm)]; exact pb
      · rename_i c; rw [upF_other _ c]; exact u.fx e he
    · by_cases c : e = a
      · subst c
        simp only [upF_same, ra, rb, if_true]
        rw [if_neg (fun x => hab x.symm)]
      · rw [upF_other _ c]
        simp only [u.st e he]
    · by_cases c : e = a
      · rw [c, upF_same] at hp; exact absurd hp.symm hab
      · rw [upF_other _ c] at hp
        simp only [u.id e he hp]
        rw [if_neg c]
    · skip
      have := u.hM e he
      split <;> omega
    · by_cases c : e = a
      · subst c
        rw [upF_same]
        simp only [ra, rb, if_true]
        rw [if_neg (fun x => hab x.symm)]
        have := u.hM e he
        omega
      · rw [upF_other _ c] at hp ⊢
        simp only [u.st e he]
        have := u.up e he hp
        split <;> omega
theorem UfI.alone (hp : ∀ e, D e → pf e = e) : UfI D pf (fun e => e) (fun _ => 0) 0 :=
  ⟨fun e he => by rw [hp e he]; exact he, fun e he => he, fun e he => hp e he, fun e he => hp e he, fun e he h => rfl, fun e he => Nat.le_refl _, fun e he hn => absurd (hp e he) hn⟩
theorem UfI.congr {pf' : Nat → Nat} (u : UfI D pf ro h M) (e : ∀ x, D x → pf x = pf' x) : UfI D pf' ro h M :=
  ⟨fun x hx => by rw [← e x hx]; exact u.lt x hx, u.rl, fun x hx => by rw [← e _ (u.rl x hx)]; exact u.fx x hx, fun x hx => by rw [← e x hx]; exact u.st x hx, fun x hx hp => u.id x hx (by rw [e x hx]; exact hp), u.hM, fun x hx hp => by rw [← e x hx] at hp ⊢; exact u.up x hx hp⟩
end
end Go.Proofs.YtgjokididdffhaaGreat
