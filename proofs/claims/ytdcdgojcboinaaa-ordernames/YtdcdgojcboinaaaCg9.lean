/-
  COLOURS: slices.Max of whole numbers; colour.number: contracts.
-/
import Derived.Test.YtdcdgojcboinaaaCg5
import Derived.Lib.MinMax
namespace Go.Proofs.Ytdcdgojcboinaaa
open Go.RowKit Go.Deep
set_option linter.unusedVariables false

/-- The greatest of the first k. -/
structure MaxTo (xs : List Int) (k : Nat) (v : Int) : Prop where
  at_ : ∃ i, i < k ∧ xs.getD i 0 = v
  le : ∀ i, i < k → xs.getD i 0 ≤ v
theorem MaxTo.next {xs : List Int} {k : Nat} {v x : Int} (h : MaxTo xs k v) (hx : xs.getD k 0 = x) : MaxTo xs (k + 1) (max v x) := by
  obtain ⟨i, hi, he⟩ := h.at_
  refine ⟨?_, fun j hj => ?_⟩
  · by_cases c : v ≤ x
    · exact ⟨k, by omega, by rw [hx]; omega⟩
    · exact ⟨i, by omega, by rw [he]; omega⟩
  · by_cases e : j = k
    · subst e; rw [hx]; omega
    · have := h.le j (by omega); omega
theorem MaxTo.one {xs : List Int} {k : Nat} {v u : Int} (h : MaxTo xs k v) (g : MaxTo xs k u) : v = u := by
  obtain ⟨i, hi, he⟩ := h.at_
  obtain ⟨j, hj, hf⟩ := g.at_
  have := h.le j hj
  have := g.le i hi
  omega
set_option maxRecDepth 20000 in
set_option maxHeartbeats 8000000 in
/-- slices.Max of whole numbers. -/
theorem smax_any (a : Option Addr) (n c : Nat) (xs : List Int) (w : World) (h : SlI w a n c xs) (hn : n ≤ 1000000) (h0 : 0 < n) :
    Calls Try.prog 27 #[.slice a n c] w fun e w' => ∃ v : Int, e = .returned (.int .i64 v) ∧ MaxTo xs n v ∧ Below w.heap.size w w' := by
  have HS := hide h
  obtain ⟨b, off, rfl, hc⟩ := h.at (by omega)
  have s0 := hc 0 h0
  rw [Nat.add_zero] at s0
  obtain ⟨x, hx⟩ : ∃ x, xs.getD 0 0 = x := ⟨_, rfl⟩
  rw [hx] at s0
  have HX := hide hx
  have hn1 : ¬ (n : Int) < 1 := by omega
  have hn2 : (0 : Int) < (n : Int) := by omega
  clear h hc hx
  go_enter Try.func27, Try.ntmps27
  go_wp2_with fail
  go_loopw [3, 4] (fun mv iv wr => ∃ (u : Int) (k : Nat), 1 ≤ k ∧ k ≤ n ∧ mv = .int .i64 u ∧ iv = .int .i64 (k : Int) ∧ Hid (MaxTo xs k u) ∧ Hid (Below w.heap.size w wr)) (fun _ iv _ => n - (intOf iv).toNat)
  case atStart => exact ⟨x, 1, Nat.le_refl _, by omega, rfl, rfl, hide ⟨⟨0, by omega, unhide HX⟩, fun i hi => by rw [show i = 0 by omega, unhide HX]; exact Int.le_refl _⟩, hide (Below.refl _ _)⟩
  case round =>
    obtain ⟨u, k, hk1, hk, rfl, rfl, HM, HW⟩ := hrel
    clear s0
    by_cases hlt : k < n
    · have hlt' : (k : Int) < (n : Int) := by omega
      obtain ⟨b', off', e1, hc⟩ := ((unhide HS).below (unhide HW)).at (by omega)
      cases e1
      have sk := hc k hlt
      obtain ⟨y, hy⟩ : ∃ y, xs.getD k 0 = y := ⟨_, rfl⟩
      rw [hy] at sk
      have HN := hide ((unhide HM).next hy)
      obtain ⟨z, hz⟩ : ∃ z, max u y = z := ⟨_, rfl⟩
      rw [hz] at HN
      clear hc hy
      go_wp2_with fail
      exact ⟨⟨z, k + 1, by omega, by omega, by (first | rfl | simp [hz]), by (first | rfl | go_num), HN, HW⟩, by simp [intOf]; omega⟩
    · obtain rfl : k = n := by omega
      have hlt' : ¬ (k : Int) < (k : Int) := by omega
      go_wp2_with fail
      try go_ret
      exact ⟨u, rfl, unhide HM, unhide HW⟩
theorem wrap_i64n (x : Int) : IntKind.i64.wrap x = (x + 9223372036854775808) % 18446744073709551616 - 9223372036854775808 := by
  simp [IntKind.wrap, IntKind.bits, IntKind.signed]
  split <;> omega
/-- How many colours there are. -/
def NumC (cs : List Int) (z : Int) : Prop := MaxTo (-1 :: cs) (cs.length + 1) (z - 1)
end Go.Proofs.Ytdcdgojcboinaaa

namespace Go.Proofs.Ytdcdgojcboinaaa
open Go.RowKit Go.Deep
set_option linter.unusedVariables false

def fz0 : List Value := [.bool false, .bool false, .bool false, .bool false, .bool false, .bool false, .bool false, .bool false, .bool false, .bool false, .bool false, .bool false, .bool false, .bool false, .bool false, .bool false, .bool false, .bool false, .bool false, .bool false, .bool false, .bool false, .bool false, .bool false, .bool false, .bool false, .bool false, .bool false, .bool false, .bool false, .bool false, .bool false, .bool false, .bool false, .bool false, .bool false, .bool false, .bool false, .bool false, .bool false, .bool false, .bool false, .bool false, .bool false, .bool false, .bool false, .bool false, .bool false, .bool false, .bool false, .bool false, .bool false, .bool false, .bool false, .bool false, .bool false, .bool false, .bool false, .bool false, .bool false, .bool false, .bool false, .bool false, .bool false]
def fz1 : List Value := fz0.append fz0
def fz2 : List Value := fz1.append fz1
def fz3 : List Value := fz2.append fz2
def fz4 : List Value := fz3.append fz3
def fz5 : List Value := fz4.append fz4
def fz6 : List Value := fz5.append fz5
def fz7 : List Value := fz6.append fz6
def fz8 : List Value := fz7.append fz7
theorem fz_two {l : List Value} {n m : Nat} (h : l = List.replicate n (.bool false)) (hm : n + n = m) : l.append l = List.replicate m (.bool false) := by
  subst h hm
  exact List.replicate_append_replicate
theorem fz0_is : fz0 = List.replicate 64 (.bool false) := rfl
theorem fz1_is : fz1 = List.replicate 128 (.bool false) := fz_two fz0_is rfl
theorem fz2_is : fz2 = List.replicate 256 (.bool false) := fz_two fz1_is rfl
theorem fz3_is : fz3 = List.replicate 512 (.bool false) := fz_two fz2_is rfl
theorem fz4_is : fz4 = List.replicate 1024 (.bool false) := fz_two fz3_is rfl
theorem fz5_is : fz5 = List.replicate 2048 (.bool false) := fz_two fz4_is rfl
theorem fz6_is : fz6 = List.replicate 4096 (.bool false) := fz_two fz5_is rfl
theorem fz7_is : fz7 = List.replicate 8192 (.bool false) := fz_two fz6_is rfl
theorem fz8_is : fz8 = List.replicate 16384 (.bool false) := fz_two fz7_is rfl
theorem rep_at (l : List Value) (n i : Nat) (v : Value) (h : l = List.replicate n v) (hi : i < n) : l.toArray[i]? = some v := by subst h; simp [hi]
end Go.Proofs.Ytdcdgojcboinaaa

namespace Go.Proofs.Ytdcdgojcboinaaa
open Go.RowKit Go.Deep
set_option linter.unusedVariables false

/-- A list of lists, as it lies. -/
def LsI (w : World) (L m : Nat) (ls : Nat → List Int) : Prop := ∀ i, i < m → ∃ a n c, w.cell? ⟨L, i, none⟩ = some (.slice a n c) ∧ SlI w a n c (ls i) ∧ n ≤ 17592186044416
/-- Two things meet in one of the first k lists. -/
def MtP (ls : Nat → List Int) (k x : Nat) : Prop := ∃ i, i < k ∧ MeP (ls i) (ls i).length 0 x
end Go.Proofs.Ytdcdgojcboinaaa

namespace Go.Proofs.Ytdcdgojcboinaaa
open Go.RowKit Go.Deep
set_option linter.unusedVariables false

/-- A row's columns. -/
def rowL (st cols : List Int) (i : Nat) : List Int := (cols.drop (st.getD i 0).toNat).take ((st.getD (i + 1) 0).toNat - (st.getD i 0).toNat)
/-- Neighbours and those that have one in common, of the first k rows. -/
def NrP (st cols : List Int) (k x : Nat) : Prop := ∃ i, i < k ∧ (MeP (rowL st cols i) (rowL st cols i).length 0 x ∨ ∃ t, t < (rowL st cols i).length ∧ (i : Int) * 128 + (rowL st cols i).getD t 0 = (x : Int))
end Go.Proofs.Ytdcdgojcboinaaa

namespace Go.Proofs.Ytdcdgojcboinaaa
open Go.RowKit Go.Deep
set_option linter.unusedVariables false

/-- Lists of whole numbers that grow, in a list. -/
structure LnI (W : World) (t L R : Nat) (f : Nat → Value) (xs : Nat → List Int) : Prop where
  row : W.rowIs L 22 R f
  own : ∀ r, r < R → W.ownsRow t 3 1 (f r) (xs r).length (valsI (xs r))
  apart : ∀ r s, r < R → s < R → r ≠ s → ∀ g, (f r).ownBlock = some g → (f s).ownBlock ≠ some g
theorem LnI.congr {W : World} {t L R : Nat} {f : Nat → Value} {xs ys : Nat → List Int} (h : LnI W t L R f xs) (e : ∀ r, r < R → xs r = ys r) : LnI W t L R f ys := ⟨h.row, fun r hr => by rw [← e r hr]; exact h.own r hr, h.apart⟩
theorem LnI.chg {S : Nat → Prop} {W W' : World} {t L R : Nat} {f : Nat → Value} {xs : Nat → List Int} (h : LnI W t L R f xs) (k : Chg S W W') (hL : ¬ S L) (hs : ∀ j, t ≤ j → j < W.heap.size → ¬ S j) : LnI W' t L R f xs :=
  ⟨h.row.of_block (k.block L h.row.lt hL), fun r hr => ownsRow_chg (h.own r hr) k (fun j hj => hs j (own_ge (h.own r hr) j hj).1 (own_ge (h.own r hr) j hj).2), h.apart⟩
theorem LnI.below {W W' : World} {t L R : Nat} {f : Nat → Value} {xs : Nat → List Int} (h : LnI W t L R f xs) (k : Below W.heap.size W W') : LnI W' t L R f xs := h.chg (S := fun _ => False) (Chg.of_below k) (fun x => x) (fun _ _ _ x => x)
theorem LnI.app {W W3 : World} {t L R k : Nat} {f : Nat → Value} {xs : Nat → List Int} {x : Int} {g cap : Nat} (h : LnI W t L R f xs) (hk : k < R) (hL : L < t) (ht : t ≤ W.heap.size) (o : Obj) (hown : W3.ownsRow t 3 1 (.slice (some ⟨g, 0, none⟩) ((xs k).length + 1) cap) ((xs k).length + 1) (valsI (xs k) ++ [.int .i64 x])) (hg : (W.alloc o).grownBy W3 (f k).ownBlock) (hat : (f k).ownBlock = some g ∨ g = W.heap.size + 1) :
    LnI (W3.setCell ⟨L, k, none⟩ (.slice (some ⟨g, 0, none⟩) ((xs k).length + 1) cap)) t L R (fun r => if r = k then .slice (some ⟨g, 0, none⟩) ((xs k).length + 1) cap else f r) (fun r => if r = k then xs k ++ [x] else xs r) ∧ Chg (fun j => j = L ∨ t ≤ j) W (W3.setCell ⟨L, k, none⟩ (.slice (some ⟨g, 0, none⟩) ((xs k).length + 1) cap)) := by
  have hB : Below t W W3 := Below.grown ((Below.refl t W).alloc ht o) hg (by simp; omega) (fun j hj => (own_ge (h.own k hk) j hj).1)
  have hc : Chg (fun j => j = L) W3 (W3.setCell ⟨L, k, none⟩ (.slice (some ⟨g, 0, none⟩) ((xs k).length + 1) cap)) := Chg.of_set _ _ _ _ rfl
  have hgL : some L ≠ (f k).ownBlock := fun e => by have := (own_ge (h.own k hk) L e.symm).1; omega
  have hgt : t ≤ g := by
    rcases hat with e | e
    · exact (own_ge (h.own k hk) g e).1
    · omega
  refine ⟨⟨((h.row.alloc o).of_block (hg.block L (by simp; omega) hgL)).set k _, fun r hr => ?_, fun r s hr hs hne j hj hj2 => ?_⟩, ⟨hc.os.trans hB.os, hc.tape.trans hB.tape, hc.output.trans hB.output, Nat.le_trans hB.size hc.size, fun j hj hS => ?_⟩⟩
  · by_cases e : r = k
    · subst e
      simp only [if_true]
      refine ownsRow_chg (by simpa [valsI] using hown) hc (fun j hj => ?_)
      have : g = j := by simpa [Value.ownBlock] using hj
      omega
    · simp only [e, if_false]
      have h1 := ((h.own r hr).alloc o).kept hg (by
        cases hu : (f r).ownBlock with
        | none => exact .inl rfl
        | some j =>
          right
          intro e2
          exact h.apart r k hr hk e j hu e2.symm)
      exact ownsRow_chg h1 hc (fun j hj => by have := (own_ge (h.own r hr) j hj).1; omega)
  · by_cases e1 : r = k
    · have e2 : s ≠ k := fun e => hne (e1.trans e.symm)
      simp only [e1, if_true] at hj
      simp only [e2, if_false] at hj2
      have hj' : g = j := by simpa [Value.ownBlock] using hj
      subst hj'
      rcases hat with e | e
      · exact h.apart k s hk hs (fun z => e2 z.symm) _ e hj2
      · have := (own_ge (h.own s hs) _ hj2).2; omega
    · simp only [e1, if_false] at hj
      by_cases e2 : s = k
      · simp only [e2, if_true] at hj2
        have hj' : g = j := by simpa [Value.ownBlock] using hj2
        subst hj'
        rcases hat with e | e
        · exact h.apart r k hr hk e1 _ hj e
        · have := (own_ge (h.own r hr) _ hj).2; omega
      · simp only [e2, if_false] at hj2
        exact h.apart r s hr hs hne j hj hj2
  · rw [hc.block j (Nat.lt_of_lt_of_le hj hB.size) (fun e => hS (.inl e)), hB.block j (by rcases Nat.lt_or_ge j t with c | c; exact c; exact absurd (.inr c) hS)]
theorem made_getI (R r : Nat) (h : r < R) : (madeCells #[Value.slice none 0 0] R)[r]? = some (.slice none 0 0) := by simp [madeCells, h, Nat.mod_one]
/-- Row k has a place in column c. -/
def InC (st cols : List Int) (c k : Nat) : Prop := ∃ j, (st.getD k 0).toNat ≤ j ∧ j < (st.getD (k + 1) 0).toNat ∧ cols.getD j 0 = (c : Int)
/-- The rows below k of a column, and k itself, if its place is among those ahead of i. -/
noncomputable def clX (st cols : List Int) (k i : Nat) (c : Nat) : List Int := grR (InC st cols) c k ++ (if tb (∃ j, (st.getD k 0).toNat ≤ j ∧ j < i ∧ cols.getD j 0 = (c : Int)) = true then [(k : Int)] else [])
theorem clX_start {st cols : List Int} {k X : Nat} (hX : st.getD k 0 = (X : Int)) (c : Nat) : clX st cols k X c = grR (InC st cols) c k := by
  unfold clX
  rw [tb_no (fun ⟨j, h1, h2, _⟩ => by rw [hX] at h1; omega)]
  simp
theorem clX_end {st cols : List Int} {k Y : Nat} (hY : st.getD (k + 1) 0 = (Y : Int)) (c : Nat) : clX st cols k Y c = grR (InC st cols) c (k + 1) := by
  unfold clX
  simp only [grR]
  unfold InC
  rw [hY]
  rfl
theorem clX_step {st cols : List Int} {width : Int} {k X Y i x : Nat} (hR : RowAt st cols width k X Y) (h1 : X ≤ i) (h2 : i < Y) (hx : cols.getD i 0 = (x : Int)) (c : Nat) : clX st cols k (i + 1) c = if c = x then clX st cols k i x ++ [(k : Int)] else clX st cols k i c := by
  unfold clX
  rw [hR.hX]
  by_cases e : c = x
  · subst e
    rw [if_pos rfl, tb_yes ⟨i, by omega, by omega, hx⟩, tb_no]
    · simp
    · rintro ⟨j, a1, a2, a3⟩
      have := hR.up.lt' (i := j - X) (j := i - X) (by omega) (by omega)
      simp only [List.getD] at this a3 hx
      rw [List.getElem?_take_of_lt (by omega), List.getElem?_take_of_lt (by omega), List.getElem?_drop, List.getElem?_drop, show X + (j - X) = j by omega, show X + (i - X) = i by omega, a3, hx] at this
      omega
  · rw [if_neg e]
    rw [tb_congr (show (∃ j, ((X : Int)).toNat ≤ j ∧ j < i + 1 ∧ cols.getD j 0 = (c : Int)) ↔ (∃ j, ((X : Int)).toNat ≤ j ∧ j < i ∧ cols.getD j 0 = (c : Int)) from ⟨fun ⟨j, a1, a2, a3⟩ => ⟨j, a1, by
      by_cases e2 : j = i
      · subst e2
        rw [hx] at a3
        omega
      · omega, a3⟩, fun ⟨j, a1, a2, a3⟩ => ⟨j, a1, by omega, a3⟩⟩)]
theorem clX_len (st cols : List Int) (k i c : Nat) : (clX st cols k i c).length ≤ k + 1 := by
  unfold clX
  have := grR_len (InC st cols) c k
  rw [List.length_append]
  split <;> simp <;> omega
/-- What columnsOf answers. -/
def ClP (R width : Nat) (st cols : List Int) (w w' : World) (e : Ending) : Prop := ∃ t L f, (w.heap.size ≤ L ∧ L < t) ∧ e = .returned (.slice (some ⟨L, 0, none⟩) width width) ∧ LnI w' t L width f (fun c => grR (InC st cols) c R) ∧ Below w.heap.size w w'
end Go.Proofs.Ytdcdgojcboinaaa
