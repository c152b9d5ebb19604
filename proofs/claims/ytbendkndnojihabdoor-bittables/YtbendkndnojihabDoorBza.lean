/-
  bitset.Cover: its contract.
-/
import Derived.Test.YtbendkndnojihabDoorBu1
import Derived.Test.YtbendkndnojihabDoorBn2
import Derived.Test.YtbendkndnojihabDoorBti
import Derived.Test.YtbendkndnojihabDoorBtm
import Derived.Test.YtbendkndnojihabDoorBto
import Derived.Test.YtbendkndnojihabDoorBtc
import Derived.Test.YtbendkndnojihabDoorBt9
import Derived.Test.YtbendkndnojihabDoorBz2
namespace Go.Proofs.YtbendkndnojihabDoor
open Go.RowKit Go.Deep
set_option linter.unusedVariables false

def andP (P Q : Nat → Bool) (e : Nat) : Bool := P e && Q e
theorem and_words (x1 x2 : List Nat) (n : Nat) : cntB (andP (hasB (gW x1)) (hasB (gW x2))) (64 * (n + 1)) = cntB (andP (hasB (gW x1)) (hasB (gW x2))) (64 * n) + pc64 (gW x1 n &&& gW x2 n) := by
  rw [show 64 * (n + 1) = 64 * n + 64 from by omega, cntB_add]
  congr 1
  unfold pc64
  apply cntB_congr
  intro x hx
  unfold andP hasB
  rw [show (64 * n + x) / 64 = n from by omega, show (64 * n + x) % 64 = x from by omega, Nat.testBit_and]

/-- The sets of a list. -/
def setP (L : List SetC) (i : Nat) : Nat → Bool := hasB (gW (L.getD i .nul).xs)
/-- How many are shared, by the words. -/
def shC (N : Nat) (f : Nat → Bool) (L : List SetC) (i : Nat) : Nat := cntB (andP f (setP L i)) (64 * N)
theorem shC_le (N : Nat) (f : Nat → Bool) (L : List SetC) (i : Nat) : shC N f L i ≤ 64 * N := cntB_le _ _

/-- In the loop of pick. -/
structure PkLp (w0 w wr : World) (T Z : Nat) (vt : Value) (sz : Int) (s : Int) (b N cb m n : Nat) (aT : Option Addr) (cT : Nat) (f : Nat → Nat) (c : Nat → Nat) : Prop where
  tab : Two wr T (.int .i64 sz) (.slice aT n cT)
  lef : Two wr Z (.int .i64 s) (.slice (some ⟨b, 0, none⟩) N cb)
  row : FnW wr b 0 N f
  most : ∃ g : Nat → Int, FnI wr m 0 n g ∧ ∀ i, i < n → (c i : Int) ≤ g i ∧ g i ≤ 1000000
  bel : Below w0.heap.size w0 wr
  chg : Chg (fun j => j = m) w wr
  mlt : m < wr.heap.size
theorem PkLp.keep {w0 w wr w' : World} {T Z : Nat} {vt : Value} {sz s : Int} {b N cb m n : Nat} {aT : Option Addr} {cT : Nat} {f : Nat → Nat} {c : Nat → Nat} (h : PkLp w0 w wr T Z vt sz s b N cb m n aT cT f c) (k : Below wr.heap.size wr w') : PkLp w0 w w' T Z vt sz s b N cb m n aT cT f c :=
  ⟨h.tab.keep k, h.lef.keep k, h.row.below k, by obtain ⟨g, h1, h2⟩ := h.most; exact ⟨g, h1.below k, h2⟩, h.bel.trans (k.mono h.bel.size), h.chg.trans (Chg.of_below k), Nat.lt_of_lt_of_le h.mlt k.size⟩
theorem PkLp.put {w0 w wr : World} {T Z : Nat} {vt : Value} {sz s : Int} {b N cb m n : Nat} {aT : Option Addr} {cT : Nat} {f : Nat → Nat} {c : Nat → Nat} (h : PkLp w0 w wr T Z vt sz s b N cb m n aT cT f c) (k : Nat) (hk : k < n) (hc : c k ≤ 1000000) (hT : T ≠ m) (hZ : Z ≠ m) (hb : b ≠ m) (hm : w0.heap.size ≤ m) :
    PkLp w0 w (wr.setCell ⟨m, k, none⟩ (.int .i64 (c k : Nat))) T Z vt sz s b N cb m n aT cT f c := by
  obtain ⟨g, h1, h2⟩ := h.most
  refine ⟨h.tab.other m k _ (fun e => hT e.symm), h.lef.other m k _ (fun e => hZ e.symm), h.row.other m k _ (fun e => hb e.symm), ⟨fun i => if i = k then (c k : Nat) else g i, ?_, fun i hi => ?_⟩, h.bel.setCell (p := ⟨m, k, none⟩) hm _, h.chg.trans (Chg.of_set (S := fun j => j = m) _ _ _ _ rfl), by simpa using h.mlt⟩
  · have := h1.set k ((c k : Nat) : Int) hk
    rw [Nat.zero_add] at this
    exact this
  · by_cases e : i = k
    · subst e; simp; omega
    · simp [e]; exact h2 i hi

open Go.RowKit Go.Deep
set_option linter.unusedVariables false

theorem make_ints (n : Nat) (hn : n ≤ 17592186044000) (w : World) : (Instr.makeSlice 52 (.int .i64 (n : Int)) (.int .i64 (n : Int))).run Tryd.prog w = .ok (.slice (some ⟨w.heap.size, 0, none⟩) n n) (w.alloc (.cells (madeCells #[.int .i64 0] n) 3)) :=
  run_make_row' (P := Tryd.prog) 52 3 (.int .i64 0) 8 Tryd.underlying52 Tryd.info_int rfl .i64 .i64 n (by omega) (by omega) w

/-- A list and an error. -/
def ResI (w w' : World) (r : List Int × Int) (e : Ending) : Prop :=
  ∃ a n c, e = .returned (.tuple #[.slice a n c, .int .i64 r.2]) ∧ SlI w' a n c r.1 ∧ Below w.heap.size w w'
def covA : Option (List Int) → List Int × Int
  | some l => (l, 0)
  | none => ([], 321)
def coverR (t : Int) (L : List SetC) (s : Int) (xs : List Nat) : List Int × Int :=
  if MayT t L && MayS s xs then (if t = s then covA (covR s.toNat L.length (setP L) 4096 (hasB (gW xs)) []) else ([], 60)) else ([], 61)
theorem MayT.all {t : Int} {L : List SetC} (h : MayT t L = true) : ∀ e ∈ L, MayS e.s e.xs = true ∧ e.s = t := by
  intro e he
  simp only [MayT, Bool.and_eq_true, Bool.not_eq_true', List.any_eq_false] at h
  have := h.2 e he
  simp [badT] at this
  exact this
theorem MayT.len {t : Int} {L : List SetC} (h : MayT t L = true) : L.length ≤ 4096 := by
  simp only [MayT, Bool.and_eq_true, decide_eq_true_eq] at h
  exact h.1.2

theorem own_chg {S : Nat → Prop} {w w' : World} {base : Nat} {e : TypeId} {size : Nat} {v : Value} {n : Nat} {xs : List Value} (h : w.ownsRow base e size v n xs) (k : Chg S w w') (hs : ∀ j, base ≤ j → ¬ S j) : w'.ownsRow base e size v n xs := by
  refine ⟨h.1, h.2.imp id ?_⟩
  rintro ⟨g', cap, cur, h3, h4, h5, h6⟩
  have hlt : g' < w.heap.size := by
    rcases Nat.lt_or_ge g' w.heap.size with hh | hh
    · exact hh
    · rw [Array.getElem?_eq_none hh] at h5; cases h5
  exact ⟨g', cap, cur, h3, h4, (k.block g' hlt (hs _ h4)).trans h5, h6⟩
theorem own_any {α : Type} {g : α → Value} {w : World} {base n : Nat} {e : TypeId} {v : Value} {xs : List α} (d : α) (h : w.ownsRow base e 1 v n (xs.map g)) : ∃ a c, v = .slice a n c ∧ SlG g d w a n c xs := by
  rcases h.2 with ⟨rfl, rfl⟩ | ⟨b, cap, cur, rfl, h4⟩
  · have : xs = [] := by have := h.1; simp at this; exact this
    subst this
    exact ⟨none, 0, rfl, SlG.nil _⟩
  · exact ⟨_, _, rfl, own_sl d h⟩
theorem Below.toChg {B : Nat} {w w' : World} (h : Below B w w') : Chg (fun j => B ≤ j) w w' :=
  ⟨h.os, h.tape, h.output, h.size, fun k _ hk => h.block k (by omega)⟩

/-- In the loop of Cover. -/
structure CvLp (w wr : World) (T Z b m base N n cb : Nat) (sz : Nat) (aT : Option Addr) (cT : Nat) (f : Nat → Nat) (g : Nat → Int) : Prop where
  tab : Two wr T (.int .i64 sz) (.slice aT n cT)
  lef : Two wr Z (.int .i64 sz) (.slice (some ⟨b, 0, none⟩) N cb)
  row : FnW wr b 0 N f
  most : FnI wr m 0 n g
  bel : Below w.heap.size w wr
  lt : base ≤ wr.heap.size
theorem CvLp.chg {S : Nat → Prop} {w wr w' : World} {T Z b m base N n cb sz : Nat} {aT : Option Addr} {cT : Nat} {f : Nat → Nat} {g : Nat → Int} (h : CvLp w wr T Z b m base N n cb sz aT cT f g) (k : Chg S wr w') (hT : ¬ S T) (hZ : ¬ S Z) (hb : ¬ S b) (hm : ¬ S m) (hw : ∀ j, j < w.heap.size → ¬ S j) : CvLp w w' T Z b m base N n cb sz aT cT f g :=
  ⟨h.tab.chg k hT, h.lef.chg k hZ, h.row.chg k hb, h.most.chg k hm, h.bel.trans (k.below h.bel.size hw), Nat.le_trans h.lt k.size⟩

theorem rep_count {N sz : Nat} {f : Nat → Nat} {P : Nat → Bool} (hr : RepB N f P) (hN : N = nW sz) (hz : ∀ x, sz ≤ x → P x = false) : cntB (hasB (gW (lstG f N))) (64 * N) = cntB P sz := by
  have e1 : cntB (hasB (gW (lstG f N))) (64 * N) = cntB P (64 * N) := by
    apply cntB_congr
    intro x hx
    rw [← hr.has x hx]
    unfold hasB gW
    rw [lstG_getD f N (x / 64) 0 (by omega)]
  have hn : sz ≤ 64 * N := by rw [hN]; unfold nW; omega
  rw [e1]
  obtain ⟨m, hm⟩ : ∃ m, 64 * N = sz + m := ⟨64 * N - sz, by omega⟩
  rw [hm, cntB_add]
  have : cntB (fun x => P (sz + x)) m = cntB (fun _ => false) m := cntB_congr (fun x _ => hz _ (by omega))
  have z : ∀ k, cntB (fun _ => false) k = 0 := fun k => by induction k with
    | zero => rfl
    | succ k ih => simp only [cntB]; rw [ih]; rfl
  rw [this, z m]
  rfl
theorem rep_shared {N sz : Nat} {f : Nat → Nat} {P : Nat → Bool} {L : List SetC} (hr : RepB N f P) (hN : N = nW sz) (hz : ∀ x, sz ≤ x → P x = false) (i : Nat) : shC N (hasB f) L i = covC sz (setP L) P i := by
  unfold shC covC
  have e1 : cntB (andP (hasB f) (setP L i)) (64 * N) = cntB (fun e => P e && setP L i e) (64 * N) := by
    apply cntB_congr
    intro x hx
    unfold andP
    rw [hr.has x hx]
  have hn : sz ≤ 64 * N := by rw [hN]; unfold nW; omega
  rw [e1]
  obtain ⟨m, hm⟩ : ∃ m, 64 * N = sz + m := ⟨64 * N - sz, by omega⟩
  rw [hm, cntB_add]
  have : cntB (fun x => P (sz + x) && setP L i (sz + x)) m = cntB (fun _ => false) m := cntB_congr (fun x _ => by rw [hz _ (by omega)]; rfl)
  have z : ∀ k, cntB (fun _ => false) k = 0 := fun k => by induction k with
    | zero => rfl
    | succ k ih => simp only [cntB]; rw [ih]; rfl
  rw [this, z m]
  rfl

end Go.Proofs.YtbendkndnojihabDoor

namespace Go.Proofs.YtbendkndnojihabDoor
open Go.RowKit Go.Deep
set_option linter.unusedVariables false

/-- The numbers of a set, rising. -/
def elsL (P : Nat → Bool) : Nat → List Int
  | 0 => []
  | n + 1 => elsL P n ++ (if P n then [(n : Int)] else [])
theorem elsL_len (P : Nat → Bool) : ∀ n, (elsL P n).length = cntB P n
  | 0 => rfl
  | n + 1 => by simp only [elsL, cntB, List.length_append]; rw [elsL_len P n]; split <;> simp_all
def elsR (s : Int) (xs : List Nat) : List Int := if MayS s xs then elsL (hasB (gW xs)) s.toNat else []

end Go.Proofs.YtbendkndnojihabDoor

namespace Go.Proofs.YtbendkndnojihabDoor
open Go.RowKit Go.Deep
set_option linter.unusedVariables false

theorem elsL_at (P : Nat → Bool) : ∀ (n i : Nat), i < cntB P n → ∃ x : Nat, x < n ∧ P x = true ∧ cntB P x = i ∧ (elsL P n).getD i 0 = (x : Int)
  | 0, i, h => by simp [cntB] at h
  | n + 1, i, h => by
    by_cases k : i < cntB P n
    · obtain ⟨x, h1, h2, h3, h4⟩ := elsL_at P n i k
      refine ⟨x, by omega, h2, h3, ?_⟩
      have hl : i < (elsL P n).length := by rw [elsL_len]; exact k
      rw [← h4]
      simp only [elsL]
      simp only [List.getD]
      rw [List.getElem?_append_left hl]
    · simp only [cntB] at h
      have hp : P n = true := by
        cases hp : P n
        · rw [hp] at h; simp at h; omega
        · rfl
      rw [hp] at h
      simp at h
      have e : i = cntB P n := by omega
      refine ⟨n, by omega, hp, e.symm, ?_⟩
      simp only [elsL, hp, if_true, List.getD]
      rw [List.getElem?_append_right (by rw [elsL_len]; omega), elsL_len, e]
      simp
/-- How many of the first n are below e. -/
def rkN (P : Nat → Bool) (n : Nat) (e : Int) : Nat := cntB P (min e.toNat n)
theorem rkN_le (P : Nat → Bool) (n : Nat) (e : Int) : rkN P n e ≤ cntB P n := cntB_mup2 P (Nat.min_le_right _ _)
theorem rkN_lt (P : Nat → Bool) {n x : Nat} {e : Int} (hx : x < n) (hp : P x = true) : cntB P x < rkN P n e ↔ (x : Int) < e := by
  unfold rkN
  constructor
  · intro h
    rcases (show (x : Int) < e ∨ e ≤ (x : Int) by omega) with k | k
    · exact k
    · have := cntB_mup2 P (show min e.toNat n ≤ x by omega)
      omega
  · intro h
    exact cntB_lt P (by omega) hp
theorem rk_at (P : Nat → Bool) {n i : Nat} {e : Int} (h : i < cntB P n) : ((elsL P n).getD i 0 < e) ↔ i < rkN P n e := by
  obtain ⟨x, h1, h2, h3, h4⟩ := elsL_at P n i h
  rw [h4, ← rkN_lt P h1 h2, h3]
def rankR (s : Int) (xs : List Nat) (e : Int) : Nat := if MayS s xs then rkN (hasB (gW xs)) s.toNat e else 0
def selR (s : Int) (xs : List Nat) (k : Int) : Int := if MayS s xs && decide (0 ≤ k) then firstX (fun x => hasB (gW xs) x && (cntB (hasB (gW xs)) x == k.toNat)) s.toNat else -1
def nextR (s : Int) (xs : List Nat) (e : Int) : Int := if MayS s xs then firstX (fun x => hasB (gW xs) x && decide (e ≤ (x : Int))) s.toNat else -1
def lastR (s : Int) (xs : List Nat) (e : Int) : Int := if MayS s xs then lastX (fun x => hasB (gW xs) x && decide ((x : Int) ≤ e)) s.toNat else -1
def hasR (s : Int) (xs : List Nat) (e : Int) : Bool := MayS s xs && decide (0 ≤ e) && decide (e < s) && hasB (gW xs) e.toNat

theorem sel_at (P : Nat → Bool) {n k x : Nat} (hx : x < n) (hp : P x = true) (hc : cntB P x = k) : firstX (fun x => P x && (cntB P x == k)) n = (x : Int) := by
  refine firstX_at (by simp [hp, hc]) (fun y hy => ?_) hx
  cases h : P y
  · rfl
  · have := cntB_lt P hy h
    simp
    omega
theorem sel_none (P : Nat → Bool) {n k : Nat} (h : cntB P n ≤ k) : firstX (fun x => P x && (cntB P x == k)) n = -1 := by
  refine firstX_none (fun x hx => ?_)
  cases hp : P x
  · rfl
  · have := cntB_lt P hx hp
    simp
    omega
theorem sel_els (P : Nat → Bool) {n k : Nat} (h : k < cntB P n) : firstX (fun x => P x && (cntB P x == k)) n = (elsL P n).getD k 0 := by
  obtain ⟨x, h1, h2, h3, h4⟩ := elsL_at P n k h
  rw [h4, sel_at P h1 h2 h3]
theorem next_els (P : Nat → Bool) {n : Nat} {e : Int} : firstX (fun x => P x && decide (e ≤ (x : Int))) n = if rkN P n e < cntB P n then (elsL P n).getD (rkN P n e) 0 else -1 := by
  split
  · rename_i h
    obtain ⟨x, h1, h2, h3, h4⟩ := elsL_at P n _ h
    rw [h4]
    have hge : e ≤ (x : Int) := by
      have := (rkN_lt P (e := e) h1 h2)
      rw [h3] at this
      omega
    refine firstX_at (by simp [h2, hge]) (fun y hy => ?_) h1
    cases hp : P y
    · rfl
    · have a := cntB_lt P hy hp
      have b := (rkN_lt P (e := e) (show y < n by omega) hp).1 (by omega)
      simp
      omega
  · rename_i h
    refine firstX_none (fun x hx => ?_)
    cases hp : P x
    · rfl
    · have a := cntB_lt P hx hp
      have b := (rkN_lt P (e := e) hx hp).1 (by have := rkN_le P n e; omega)
      simp
      omega
theorem last_els (P : Nat → Bool) {n : Nat} {e : Int} : lastX (fun x => P x && decide ((x : Int) ≤ e)) n = if 0 < rkN P n (e + 1) then (elsL P n).getD (rkN P n (e + 1) - 1) 0 else -1 := by
  have hle := rkN_le P n (e + 1)
  split
  · rename_i h
    obtain ⟨x, h1, h2, h3, h4⟩ := elsL_at P n (rkN P n (e + 1) - 1) (by omega)
    rw [h4]
    have hlt := (rkN_lt P (e := e + 1) h1 h2).1 (by omega)
    refine lastX_at (by simp [h2]; omega) h1 (fun y hy hyn => ?_)
    cases hp : P y
    · rfl
    · have a := cntB_lt P hy h2
      have b := (rkN_lt P (e := e + 1) hyn hp)
      simp
      omega
  · rename_i h
    refine lastX_none (fun x hx => ?_)
    cases hp : P x
    · rfl
    · have b := (rkN_lt P (e := e + 1) hx hp)
      simp
      omega
end Go.Proofs.YtbendkndnojihabDoor

namespace Go.Proofs.YtbendkndnojihabDoor
open Go.RowKit Go.Deep
set_option linter.unusedVariables false

theorem hasB_word (f : Nat → Nat) (i j : Nat) (hj : j < 64) : hasB f (64 * i + j) = (f i).testBit j := by
  unfold hasB
  rw [show (64 * i + j) / 64 = i from by omega, show (64 * i + j) % 64 = j from by omega]
/-- Word i of those from e on; nothing from e on below it. -/
structure NextI (f : Nat → Nat) (e i y : Nat) : Prop where
  lt : y < 18446744073709551616
  none : ∀ x, e ≤ x → x < 64 * i → hasB f x = false
  bits : ∀ j, j < 64 → y.testBit j = (hasB f (64 * i + j) && decide (e ≤ 64 * i + j))
theorem NextI.start {f : Nat → Nat} {e : Nat} (h : f (e / 64) < 18446744073709551616) : NextI f e (e / 64) (anot (f (e / 64)) (2 ^ (e % 64) - 1)) := by
  have hr : e % 64 < 64 := Nat.mod_lt _ (by decide)
  refine ⟨anot_lt h, fun x h1 h2 => by omega, fun j hj => ?_⟩
  rw [tb_from h hr, hasB_word f _ j hj]
  congr 1
  rw [Bool.eq_iff_iff]
  simp
  omega
theorem NextI.zero {f : Nat → Nat} {e i : Nat} (h : NextI f e i 0) (x : Nat) (h1 : e ≤ x) (h2 : x < 64 * (i + 1)) : hasB f x = false := by
  by_cases k : x < 64 * i
  · exact h.none x h1 k
  · have := h.bits (x - 64 * i) (by omega)
    rw [show 64 * i + (x - 64 * i) = x from by omega] at this
    simp at this
    cases hp : hasB f x
    · rfl
    · exact absurd h1 (by have := this hp; omega)
theorem NextI.next {f : Nat → Nat} {e i : Nat} (h : NextI f e i 0) (hf : f (i + 1) < 18446744073709551616) (he : e / 64 ≤ i) : NextI f e (i + 1) (f (i + 1)) := by
  refine ⟨hf, h.zero, fun j hj => ?_⟩
  rw [hasB_word f _ j hj, decide_eq_true (by omega), Bool.and_true]
theorem NextI.none_found {f : Nat → Nat} {e i n sz : Nat} (h : NextI f e i 0) (hi : i + 1 = n) (hs : sz ≤ 64 * n) : firstX (fun x => hasB f x && decide ((e : Int) ≤ (x : Int))) sz = -1 := by
  refine firstX_none (fun x hx => ?_)
  by_cases k : e ≤ x
  · rw [h.zero x k (by omega)]; rfl
  · rw [decide_eq_false (by omega), Bool.and_false]
theorem NextI.found {f : Nat → Nat} {e i y n sz : Nat} (h : NextI f e i y) (h0 : 0 < y) (hi : i < n) (hz : ∀ x, sz ≤ x → x < 64 * n → hasB f x = false) : firstX (fun x => hasB f x && decide ((e : Int) ≤ (x : Int))) sz = ((64 * i + tz64 y : Nat) : Int) := by
  have ht := tz64_lt h0 h.lt
  obtain ⟨k1, k2⟩ := tz64_tb h0 h.lt
  have k3 := h.bits (tz64 y) ht
  rw [k1] at k3
  have k4 := k3.symm
  simp only [Bool.and_eq_true, decide_eq_true_eq] at k4
  refine firstX_at ?_ (fun z hzz => ?_) ?_
  · simp only [Bool.and_eq_true, decide_eq_true_eq]
    exact ⟨k4.1, by omega⟩
  · by_cases he : e ≤ z
    · by_cases hi2 : z < 64 * i
      · rw [h.none z he hi2]; rfl
      · have a := h.bits (z - 64 * i) (by omega)
        rw [k2 _ (by omega), show 64 * i + (z - 64 * i) = z from by omega, decide_eq_true he, Bool.and_true] at a
        rw [← a]; rfl
    · rw [decide_eq_false (by omega), Bool.and_false]
  · rcases Nat.lt_or_ge (64 * i + tz64 y) sz with k | k
    · exact k
    · rw [hz _ k (by omega)] at k4
      cases k4.1
/-- Word i of those up to e; nothing up to e above it. -/
structure LastI (f : Nat → Nat) (e i y : Nat) : Prop where
  lt : y < 18446744073709551616
  none : ∀ x, x ≤ e → 64 * (i + 1) ≤ x → hasB f x = false
  bits : ∀ j, j < 64 → y.testBit j = (hasB f (64 * i + j) && decide (64 * i + j ≤ e))
theorem LastI.start {f : Nat → Nat} {e : Nat} (h : f (e / 64) < 18446744073709551616) : LastI f e (e / 64) (f (e / 64) &&& (2 ^ (e % 64) ||| (2 ^ (e % 64) - 1))) := by
  refine ⟨and_lt64 h, fun x h1 h2 => by omega, fun j hj => ?_⟩
  rw [tb_upto, hasB_word f _ j hj]
  congr 1
  rw [Bool.eq_iff_iff]
  simp
  omega
theorem LastI.zero {f : Nat → Nat} {e i : Nat} (h : LastI f e i 0) (x : Nat) (h1 : x ≤ e) (h2 : 64 * i ≤ x) : hasB f x = false := by
  by_cases k : 64 * (i + 1) ≤ x
  · exact h.none x h1 k
  · have := h.bits (x - 64 * i) (by omega)
    rw [show 64 * i + (x - 64 * i) = x from by omega] at this
    simp at this
    cases hp : hasB f x
    · rfl
    · exact absurd h1 (by have := this hp; omega)
theorem LastI.next {f : Nat → Nat} {e i : Nat} (h : LastI f e (i + 1) 0) (hf : f i < 18446744073709551616) (he : i + 1 ≤ e / 64) : LastI f e i (f i) := by
  refine ⟨hf, fun x h1 h2 => h.zero x h1 h2, fun j hj => ?_⟩
  rw [hasB_word f _ j hj, decide_eq_true (by omega), Bool.and_true]
theorem LastI.none_found {f : Nat → Nat} {e sz : Nat} (h : LastI f e 0 0) : lastX (fun x => hasB f x && decide ((x : Int) ≤ (e : Int))) sz = -1 := by
  refine lastX_none (fun x hx => ?_)
  by_cases k : x ≤ e
  · rw [h.zero x k (by omega)]; rfl
  · rw [decide_eq_false (by omega), Bool.and_false]
theorem LastI.found {f : Nat → Nat} {e i y sz : Nat} (h : LastI f e i y) (h0 : 0 < y) (he : e < sz) : lastX (fun x => hasB f x && decide ((x : Int) ≤ (e : Int))) sz = ((64 * i + top64 y : Nat) : Int) := by
  have ht := (top64_len h0 h.lt).2
  obtain ⟨k1, k2⟩ := top64_tb h0 h.lt
  have k3 := h.bits (top64 y) ht
  rw [k1] at k3
  have k4 := k3.symm
  simp only [Bool.and_eq_true, decide_eq_true_eq] at k4
  refine lastX_at ?_ (by omega) (fun z h1 h2 => ?_)
  · simp only [Bool.and_eq_true, decide_eq_true_eq]
    exact ⟨k4.1, by omega⟩
  · by_cases hez : z ≤ e
    · by_cases hi2 : 64 * (i + 1) ≤ z
      · rw [h.none z hez hi2]; rfl
      · have a := h.bits (z - 64 * i) (by omega)
        rw [k2 _ (by omega), show 64 * i + (z - 64 * i) = z from by omega, decide_eq_true hez, Bool.and_true] at a
        rw [← a]; rfl
    · rw [decide_eq_false (by omega), Bool.and_false]
/-- The number with k below it lies in word i. -/
theorem sel_word {f : Nat → Nat} {i k m y n sz : Nat} (hf : f i < 18446744073709551616) (hk : k = cntB (hasB f) (64 * i) + m) (hm : m < pc64 (f i)) (h : LessB (f i) m y) (hi : i < n) (hz : ∀ x, sz ≤ x → x < 64 * n → hasB f x = false) :
    firstX (fun x => hasB f x && (cntB (hasB f) x == k)) sz = ((64 * i + tz64 y : Nat) : Int) ∧ 0 < y := by
  obtain ⟨h0, h1, h2⟩ := h.low hf hm
  have ht := tz64_lt h0 h.1
  refine ⟨sel_at (hasB f) ?_ ?_ ?_, h0⟩
  · rcases Nat.lt_or_ge (64 * i + tz64 y) sz with c | c
    · exact c
    · have := hz _ c (by omega)
      rw [hasB_word f _ _ ht, h1] at this
      cases this
  · rw [hasB_word f _ _ ht]; exact h1
  · rw [cntB_add, hk, ← h2]
    congr 1
    apply cntB_congr
    intro x hx
    exact hasB_word f _ _ (by omega)
end Go.Proofs.YtbendkndnojihabDoor
