/-
  bitset.Cover: its contract.
-/
import Derived.Test.YtbendkndnojihabDoorBtj
import Derived.Test.YtbendkndnojihabDoorBn2
import Derived.Test.YtbendkndnojihabDoorBti
import Derived.Test.YtbendkndnojihabDoorBu1
import Derived.Test.YtbendkndnojihabDoorBp0
import Derived.Test.YtbendkndnojihabDoorBto
import Derived.Test.YtbendkndnojihabDoorBtc
import Derived.Test.YtbendkndnojihabDoorBt9
namespace Go.Proofs.YtbendkndnojihabDoor
open Go.RowKit Go.Deep
set_option linter.unusedVariables false

def andP (P Q : Nat → Bool) (e : Nat) : Bool := P e && Q e
theorem and_words (x1 x2 : List Nat) (n : Nat) : cntB (andP (hasB (gW x1)) (hasB (gW x2))) (64 * (n + 1)) = cntB (andP (hasB (gW x1)) (hasB (gW x2))) (64 * n) + pc64 (gW x1 n &&& gW x2 n) := by
  rw [show 64 * (n + 1) = 64 * n + 64 from by omega, cntB_add]
  congr 1
  unfold pc64
  apply cntB_congr
  intro x hx
  unfold andP hasB
  rw [show (64 * n + x) / 64 = n from by omega, show (64 * n + x) % 64 = x from by omega, Nat.testBit_and]

/-- The sets of a list. -/
def setP (L : List SetC) (i : Nat) : Nat → Bool := hasB (gW (L.getD i .nul).xs)
/-- How many are shared, by the words. -/
def shC (N : Nat) (f : Nat → Bool) (L : List SetC) (i : Nat) : Nat := cntB (andP f (setP L i)) (64 * N)
theorem shC_le (N : Nat) (f : Nat → Bool) (L : List SetC) (i : Nat) : shC N f L i ≤ 64 * N := cntB_le _ _

/-- In the loop of pick. -/
structure PkLp (w0 w wr : World) (T Z : Nat) (vt : Value) (sz : Int) (s : Int) (b N cb m n : Nat) (aT : Option Addr) (cT : Nat) (f : Nat → Nat) (c : Nat → Nat) : Prop where
  tab : Two wr T (.int .i64 sz) (.slice aT n cT)
  lef : Two wr Z (.int .i64 s) (.slice (some ⟨b, 0, none⟩) N cb)
  row : FnW wr b 0 N f
  most : ∃ g : Nat → Int, FnI wr m 0 n g ∧ ∀ i, i < n → (c i : Int) ≤ g i ∧ g i ≤ 1000000
  bel : Below w0.heap.size w0 wr
  chg : Chg (fun j => j = m) w wr
  mlt : m < wr.heap.size
theorem PkLp.keep {w0 w wr w' : World} {T Z : Nat} {vt : Value} {sz s : Int} {b N cb m n : Nat} {aT : Option Addr} {cT : Nat} {f : Nat → Nat} {c : Nat → Nat} (h : PkLp w0 w wr T Z vt sz s b N cb m n aT cT f c) (k : Below wr.heap.size wr w') : PkLp w0 w w' T Z vt sz s b N cb m n aT cT f c :=
  ⟨h.tab.keep k, h.lef.keep k, h.row.below k, by obtain ⟨g, h1, h2⟩ := h.most; exact ⟨g, h1.below k, h2⟩, h.bel.trans (k.mono h.bel.size), h.chg.trans (Chg.of_below k), Nat.lt_of_lt_of_le h.mlt k.size⟩
theorem PkLp.put {w0 w wr : World} {T Z : Nat} {vt : Value} {sz s : Int} {b N cb m n : Nat} {aT : Option Addr} {cT : Nat} {f : Nat → Nat} {c : Nat → Nat} (h : PkLp w0 w wr T Z vt sz s b N cb m n aT cT f c) (k : Nat) (hk : k < n) (hc : c k ≤ 1000000) (hT : T ≠ m) (hZ : Z ≠ m) (hb : b ≠ m) (hm : w0.heap.size ≤ m) :
    PkLp w0 w (wr.setCell ⟨m, k, none⟩ (.int .i64 (c k : Nat))) T Z vt sz s b N cb m n aT cT f c := by
  obtain ⟨g, h1, h2⟩ := h.most
  refine ⟨h.tab.other m k _ (fun e => hT e.symm), h.lef.other m k _ (fun e => hZ e.symm), h.row.other m k _ (fun e => hb e.symm), ⟨fun i => if i = k then (c k : Nat) else g i, ?_, fun i hi => ?_⟩, h.bel.setCell (p := ⟨m, k, none⟩) hm _, h.chg.trans (Chg.of_set (S := fun j => j = m) _ _ _ _ rfl), by simpa using h.mlt⟩
  · have := h1.set k ((c k : Nat) : Int) hk
    rw [Nat.zero_add] at this
    exact this
  · by_cases e : i = k
    · subst e; simp; omega
    · simp [e]; exact h2 i hi

open Go.RowKit Go.Deep
set_option linter.unusedVariables false

theorem make_ints (n : Nat) (hn : n ≤ 17592186044000) (w : World) : (Instr.makeSlice 52 (.int .i64 (n : Int)) (.int .i64 (n : Int))).run Tryd.prog w = .ok (.slice (some ⟨w.heap.size, 0, none⟩) n n) (w.alloc (.cells (madeCells #[.int .i64 0] n) 3)) :=
  run_make_row' (P := Tryd.prog) 52 3 (.int .i64 0) 8 Tryd.underlying52 Tryd.info_int rfl .i64 .i64 n (by omega) (by omega) w

/-- A list and an error. -/
def ResI (w w' : World) (r : List Int × Int) (e : Ending) : Prop :=
  ∃ a n c, e = .returned (.tuple #[.slice a n c, .int .i64 r.2]) ∧ SlI w' a n c r.1 ∧ Below w.heap.size w w'
def covA : Option (List Int) → List Int × Int
  | some l => (l, 0)
  | none => ([], 321)
def coverR (t : Int) (L : List SetC) (s : Int) (xs : List Nat) : List Int × Int :=
  if MayT t L && MayS s xs then (if t = s then covA (covR s.toNat L.length (setP L) 4096 (hasB (gW xs)) []) else ([], 60)) else ([], 61)
theorem MayT.all {t : Int} {L : List SetC} (h : MayT t L = true) : ∀ e ∈ L, MayS e.s e.xs = true ∧ e.s = t := by
  intro e he
  simp only [MayT, Bool.and_eq_true, Bool.not_eq_true', List.any_eq_false] at h
  have := h.2 e he
  simp [badT] at this
  exact this
theorem MayT.len {t : Int} {L : List SetC} (h : MayT t L = true) : L.length ≤ 4096 := by
  simp only [MayT, Bool.and_eq_true, decide_eq_true_eq] at h
  exact h.1.2

theorem own_chg {S : Nat → Prop} {w w' : World} {base : Nat} {e : TypeId} {size : Nat} {v : Value} {n : Nat} {xs : List Value} (h : w.ownsRow base e size v n xs) (k : Chg S w w') (hs : ∀ j, base ≤ j → ¬ S j) : w'.ownsRow base e size v n xs := by
  refine ⟨h.1, h.2.imp id ?_⟩
  rintro ⟨g', cap, cur, h3, h4, h5, h6⟩
  have hlt : g' < w.heap.size := by
    rcases Nat.lt_or_ge g' w.heap.size with hh | hh
    · exact hh
    · rw [Array.getElem?_eq_none hh] at h5; cases h5
  exact ⟨g', cap, cur, h3, h4, (k.block g' hlt (hs _ h4)).trans h5, h6⟩
theorem own_any {α : Type} {g : α → Value} {w : World} {base n : Nat} {e : TypeId} {v : Value} {xs : List α} (d : α) (h : w.ownsRow base e 1 v n (xs.map g)) : ∃ a c, v = .slice a n c ∧ SlG g d w a n c xs := by
  rcases h.2 with ⟨rfl, rfl⟩ | ⟨b, cap, cur, rfl, h4⟩
  · have : xs = [] := by have := h.1; simp at this; exact this
    subst this
    exact ⟨none, 0, rfl, SlG.nil _⟩
  · exact ⟨_, _, rfl, own_sl d h⟩
theorem Below.toChg {B : Nat} {w w' : World} (h : Below B w w') : Chg (fun j => B ≤ j) w w' :=
  ⟨h.os, h.tape, h.output, h.size, fun k _ hk => h.block k (by omega)⟩

/-- In the loop of Cover. -/
structure CvLp (w wr : World) (T Z b m base N n cb : Nat) (sz : Nat) (aT : Option Addr) (cT : Nat) (f : Nat → Nat) (g : Nat → Int) : Prop where
  tab : Two wr T (.int .i64 sz) (.slice aT n cT)
  lef : Two wr Z (.int .i64 sz) (.slice (some ⟨b, 0, none⟩) N cb)
  row : FnW wr b 0 N f
  most : FnI wr m 0 n g
  bel : Below w.heap.size w wr
  lt : base ≤ wr.heap.size
theorem CvLp.chg {S : Nat → Prop} {w wr w' : World} {T Z b m base N n cb sz : Nat} {aT : Option Addr} {cT : Nat} {f : Nat → Nat} {g : Nat → Int} (h : CvLp w wr T Z b m base N n cb sz aT cT f g) (k : Chg S wr w') (hT : ¬ S T) (hZ : ¬ S Z) (hb : ¬ S b) (hm : ¬ S m) (hw : ∀ j, j < w.heap.size → ¬ S j) : CvLp w w' T Z b m base N n cb sz aT cT f g :=
  ⟨h.tab.chg k hT, h.lef.chg k hZ, h.row.chg k hb, h.most.chg k hm, h.bel.trans (k.below h.bel.size hw), Nat.le_trans h.lt k.size⟩

theorem rep_count {N sz : Nat} {f : Nat → Nat} {P : Nat → Bool} (hr : RepB N f P) (hN : N = nW sz) (hz : ∀ x, sz ≤ x → P x = false) : cntB (hasB (gW (lstG f N))) (64 * N) = cntB P sz := by
  have e1 : cntB (hasB (gW (lstG f N))) (64 * N) = cntB P (64 * N) := by
    apply cntB_congr
    intro x hx
    rw [← hr.has x hx]
    unfold hasB gW
    rw [lstG_getD f N (x / 64) 0 (by omega)]
  have hn : sz ≤ 64 * N := by rw [hN]; unfold nW; omega
  rw [e1]
  obtain ⟨m, hm⟩ : ∃ m, 64 * N = sz + m := ⟨64 * N - sz, by omega⟩
  rw [hm, cntB_add]
  have : cntB (fun x => P (sz + x)) m = cntB (fun _ => false) m := cntB_congr (fun x _ => hz _ (by omega))
  have z : ∀ k, cntB (fun _ => false) k = 0 := fun k => by induction k with
    | zero => rfl
    | succ k ih => simp only [cntB]; rw [ih]; rfl
  rw [this, z m]
  rfl
theorem rep_shared {N sz : Nat} {f : Nat → Nat} {P : Nat → Bool} {L : List SetC} (hr : RepB N f P) (hN : N = nW sz) (hz : ∀ x, sz ≤ x → P x = false) (i : Nat) : shC N (hasB f) L i = covC sz (setP L) P i := by
  unfold shC covC
  have e1 : cntB (andP (hasB f) (setP L i)) (64 * N) = cntB (fun e => P e && setP L i e) (64 * N) := by
    apply cntB_congr
    intro x hx
    unfold andP
    rw [hr.has x hx]
  have hn : sz ≤ 64 * N := by rw [hN]; unfold nW; omega
  rw [e1]
  obtain ⟨m, hm⟩ : ∃ m, 64 * N = sz + m := ⟨64 * N - sz, by omega⟩
  rw [hm, cntB_add]
  have : cntB (fun x => P (sz + x) && setP L i (sz + x)) m = cntB (fun _ => false) m := cntB_congr (fun x _ => by rw [hz _ (by omega)]; rfl)
  have z : ∀ k, cntB (fun _ => false) k = 0 := fun k => by induction k with
    | zero => rfl
    | succ k ih => simp only [cntB]; rw [ih]; rfl
  rw [this, z m]
  rfl

end Go.Proofs.YtbendkndnojihabDoor

namespace Go.Proofs.YtbendkndnojihabDoor
open Go.RowKit Go.Deep
set_option linter.unusedVariables false

/-- The numbers of a set, rising. -/
def elsL (P : Nat → Bool) : Nat → List Int
  | 0 => []
  | n + 1 => elsL P n ++ (if P n then [(n : Int)] else [])
theorem elsL_len (P : Nat → Bool) : ∀ n, (elsL P n).length = cntB P n
  | 0 => rfl
  | n + 1 => by simp only [elsL, cntB, List.length_append]; rw [elsL_len P n]; split <;> simp_all
def elsR (s : Int) (xs : List Nat) : List Int := if MayS s xs then elsL (hasB (gW xs)) s.toNat else []

end Go.Proofs.YtbendkndnojihabDoor
