/-
  bitset's reader: numerals: its contract.
-/
import Derived.Test.YtbendkndnojihaaByg
import Derived.Test.YtbendkndnojihaaBtv
namespace Go.Proofs.Ytbendkndnojihaa
open Go.RowKit Go.Deep
set_option linter.unusedVariables false

theorem Try.info_num : (Try.prog.info? 77).map (fun i => (i.zero, i.size, i.bytes)) = some (some (.agg #[.int .i64 0, .int .i64 0, .bool false]), 3, 24) := by kernel_rfl
/-- A number of a text: what it is worth, where it stands, whether it is a run's last. -/
abbrev Nu := Nat × Nat × Bool
def flatN : List Nu → List Value
  | [] => []
  | e :: l => .int .i64 (e.1 : Int) :: .int .i64 (e.2.1 : Int) :: .bool e.2.2 :: flatN l
theorem flatN_append : ∀ (l m : List Nu), flatN (l ++ m) = flatN l ++ flatN m
  | [], m => rfl
  | e :: l, m => by simp [flatN, flatN_append l m]
theorem flatN_len : ∀ l : List Nu, (flatN l).length = l.length * 3
  | [] => rfl
  | e :: l => by simp [flatN, flatN_len l]; omega
theorem numR_ok {s : ByteArray} {p : Nat} (h : (numR s p).2 = true) (hp : p ≤ s.size) : p < (numR s p).1.2 ∧ (numR s p).1.2 ≤ s.size := by
  unfold numR at *
  cases hs : skB s p 48
  · rw [hs] at h
    simp only [Bool.false_eq_true, if_false] at h ⊢
    have := rdV_le s (s.size - p) p 0
    have h2 : p < (rdV s (s.size - p) p 0).2 := by simpa using h
    omega
  · simp only [if_true]
    have : p < s.size := by unfold skB at hs; simp at hs; exact hs.1
    omega
theorem numR_le {s : ByteArray} {p : Nat} (hp : p ≤ s.size) : p ≤ (numR s p).1.2 ∧ (numR s p).1.2 ≤ s.size := by
  unfold numR
  cases hs : skB s p 48
  · simp only [Bool.false_eq_true, if_false]
    have := rdV_le s (s.size - p) p 0
    omega
  · simp only [if_true]
    have : p < s.size := by unfold skB at hs; simp at hs; exact hs.1
    omega
/-- The numbers of a text from place q on: those before it are in acc. -/
def nmR (s : ByteArray) : Nat → Nat → List Nu → List Nu × Nat × Bool
  | 0, q, acc => ([], q, false)
  | f + 1, q, acc =>
    if (numR s q).2 then
      if skB s (numR s q).1.2 45 then
        if (numR s ((numR s q).1.2 + 1)).2 then
          if skB s (numR s ((numR s q).1.2 + 1)).1.2 44 then nmR s f ((numR s ((numR s q).1.2 + 1)).1.2 + 1) (acc ++ [((numR s q).1.1, q, false), ((numR s ((numR s q).1.2 + 1)).1.1, (numR s q).1.2 + 1, true)])
          else (acc ++ [((numR s q).1.1, q, false), ((numR s ((numR s q).1.2 + 1)).1.1, (numR s q).1.2 + 1, true)], (numR s ((numR s q).1.2 + 1)).1.2, decide ((numR s ((numR s q).1.2 + 1)).1.2 = s.size))
        else ([], (numR s ((numR s q).1.2 + 1)).1.2, false)
      else
        if skB s (numR s q).1.2 44 then nmR s f ((numR s q).1.2 + 1) (acc ++ [((numR s q).1.1, q, false)])
        else (acc ++ [((numR s q).1.1, q, false)], (numR s q).1.2, decide ((numR s q).1.2 = s.size))
    else ([], (numR s q).1.2, false)
/-- A whole text: its numbers, the place where it ended, whether it is one. -/
def nmsR (s : ByteArray) : List Nu × Nat × Bool :=
  if (numR s 0).2 then
    if skB s (numR s 0).1.2 58 then
      if (numR s 0).1.2 + 1 = s.size then ([((numR s 0).1.1, 0, false)], s.size, true)
      else nmR s (s.size + 1) ((numR s 0).1.2 + 1) [((numR s 0).1.1, 0, false)]
    else ([], (numR s 0).1.2, false)
  else ([], (numR s 0).1.2, false)
structure NuI (w wr : World) (R : Nat) (s : ByteArray) (q : Nat) (l : List Nu) (v : Value) : Prop where
  tr : Two wr R (.string s) (.int .i64 (q : Int))
  own : wr.ownsRow w.heap.size 77 3 v l.length (flatN l)
  chg : Chg (fun j => j = R) w wr
theorem Chg.grown {S : Nat → Prop} {w wr w2 : World} {row : Option Nat} (h : Chg S w wr) (hg : wr.grownBy w2 row) (hr : ∀ k, row = some k → w.heap.size ≤ k) : Chg S w w2 :=
  ⟨hg.os.trans h.os, hg.tape.trans h.tape, hg.output.trans h.output, Nat.le_trans h.size hg.size, fun k hk hs => by
    rw [hg.block k (Nat.lt_of_lt_of_le hk h.size) (fun e => by have := hr k e.symm; omega)]
    exact h.block k hk hs⟩
theorem own_chgN {w wr : World} {B : Nat} {e : TypeId} {sz : Nat} {v : Value} {n : Nat} {xs : List Value} {S : Nat → Prop} (h : w.ownsRow B e sz v n xs) (hc : Chg S w wr) (hs : ∀ k, v.ownBlock = some k → ¬ S k) : wr.ownsRow B e sz v n xs := by
  rcases h with ⟨h1, h2 | ⟨g, cap, cur, e1, q1, q2, q3⟩⟩
  · exact ⟨h1, .inl h2⟩
  · refine ⟨h1, .inr ⟨g, cap, cur, e1, q1, ?_, q3⟩⟩
    rw [hc.block g]
    · exact q2
    · rcases Nat.lt_or_ge g w.heap.size with hlt | hge
      · exact hlt
      · rw [Array.getElem?_eq_none hge] at q2; cases q2
    · exact hs g (by rw [e1]; rfl)
/-- The reader goes on. -/
theorem NuI.read {w wr w2 : World} {R : Nat} {s : ByteArray} {q q2 : Nat} {l : List Nu} {v : Value} (h : NuI w wr R s q l v) (hR : R < w.heap.size) (ht : Two w2 R (.string s) (.int .i64 (q2 : Int))) (hc : Chg (fun j => j = R) wr w2) : NuI w w2 R s q2 l v :=
  ⟨ht, own_chgN h.own hc (fun k hk => by have := (own_ge h.own k hk).1; omega), h.chg.trans hc⟩
theorem NuI.below {w wr w2 : World} {R : Nat} {s : ByteArray} {q : Nat} {l : List Nu} {v : Value} (h : NuI w wr R s q l v) (hR : R < w.heap.size) (hb : Below wr.heap.size wr w2) : NuI w w2 R s q l v := h.read hR (h.tr.keep hb) (Chg.of_below hb)
/-- One more number. -/
theorem NuI.app {w wr w2 : World} {R : Nat} {s : ByteArray} {q : Nat} {l : List Nu} {v v2 : Value} {e : Nu} {o : Obj} (h : NuI w wr R s q l v) (hR : R < w.heap.size) (hg : (wr.alloc o).grownBy w2 v.ownBlock) (hown : w2.ownsRow w.heap.size 77 3 v2 (l.length + 1) (flatN l ++ [.int .i64 (e.1 : Int), .int .i64 (e.2.1 : Int), .bool e.2.2])) : NuI w w2 R s q (l ++ [e]) v2 := by
  have hal := h.below hR ((Below.refl wr.heap.size wr).alloc (Nat.le_refl _) o)
  refine ⟨hal.tr.chg (chg_grown hg) (fun hh => by have := (own_ge h.own R hh).1; omega), ?_, hal.chg.grown hg (fun k hk => (own_ge h.own k hk).1)⟩
  rw [flatN_append, List.length_append]
  exact hown
theorem NuI.rd {w wr : World} {R : Nat} {s : ByteArray} {q : Nat} {l : List Nu} {v : Value} (h : NuI w wr R s q l v) : rdI wr R = q := by
  unfold rdI
  rw [h.tr.c1]
  simp
end Go.Proofs.Ytbendkndnojihaa
