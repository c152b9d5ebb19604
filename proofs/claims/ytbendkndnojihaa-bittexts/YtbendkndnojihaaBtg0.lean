/-
  TWO SETS IN A LIST OF THEIR OWN.
-/
import Derived.Test.YtbendkndnojihaaBtj
import Derived.Test.YtbendkndnojihaaBto
import Derived.Test.YtbendkndnojihaaBt2
namespace Go.Proofs.Ytbendkndnojihaa
open Go.RowKit Go.Deep
set_option linter.unusedVariables false

theorem two_sets {wb wc : World} {s1 : Int} {a1 : Option Addr} {n1 c1 : Nat} {x1 : List Nat} {s2 : Int} {a2 : Option Addr} {n2 c2 : Nat} {x2 : List Nat}
    (hwc : wb.alloc (.cells #[.int .i64 s1, .slice a1 n1 c1, .int .i64 s2, .slice a2 n2 c2] 24) = wc) (h1 : SlW wc a1 n1 c1 x1) (h2 : SlW wc a2 n2 c2 x2) (o1 : OkW x1) (o2 : OkW x2) :
    SlS wc (some ⟨wb.heap.size, 0, none⟩) 2 2 [⟨s1, a1, n1, c1, x1⟩, ⟨s2, a2, n2, c2, x2⟩] := by
  refine ⟨rfl, Nat.le_refl _, by unfold maxLen; omega, .inr ⟨_, _, rfl, ?_⟩, ?_⟩
  · intro i hi
    have hi2 : i < 2 := hi
    match i, hi2 with
    | 0, _ => rw [← hwc]; exact ⟨by simp, by simp⟩
    | 1, _ => rw [← hwc]; exact ⟨by simp, by simp⟩
  · intro e he
    rcases List.mem_cons.1 he with rfl | he
    · exact ⟨h1, o1⟩
    · rcases List.mem_cons.1 he with rfl | he
      · exact ⟨h2, o2⟩
      · cases he
theorem one_set {wb wc : World} {s1 : Int} {a1 : Option Addr} {n1 c1 : Nat} {x1 : List Nat}
    (hwc : wb.alloc (.cells #[.int .i64 s1, .slice a1 n1 c1] 24) = wc) (h1 : SlW wc a1 n1 c1 x1) (o1 : OkW x1) :
    SlS wc (some ⟨wb.heap.size, 0, none⟩) 1 1 [⟨s1, a1, n1, c1, x1⟩] := by
  refine ⟨rfl, Nat.le_refl _, by unfold maxLen; omega, .inr ⟨_, _, rfl, ?_⟩, ?_⟩
  · intro i hi
    have hi2 : i < 1 := hi
    match i, hi2 with
    | 0, _ => rw [← hwc]; exact ⟨by simp, by simp⟩
  · intro e he
    rcases List.mem_cons.1 he with rfl | he
    · exact ⟨h1, o1⟩
    · cases he
theorem alike_two {s1 : Int} {a1 : Option Addr} {n1 c1 : Nat} {x1 : List Nat} {s2 : Int} {a2 : Option Addr} {n2 c2 : Nat} {x2 : List Nat} (h : alikeE s1 [⟨s1, a1, n1, c1, x1⟩, ⟨s2, a2, n2, c2, x2⟩] = 0) : MayS s1 x1 = true ∧ MayS s2 x2 = true ∧ s1 = s2 := by
  obtain ⟨_, h2⟩ := alike_zero h
  have k1 := h2 ⟨s1, a1, n1, c1, x1⟩ (by simp)
  have k2 := h2 ⟨s2, a2, n2, c2, x2⟩ (by simp)
  exact ⟨k1.1, k2.1, k2.2.symm⟩
theorem two_alike {s1 : Int} {a1 : Option Addr} {n1 c1 : Nat} {x1 : List Nat} {s2 : Int} {a2 : Option Addr} {n2 c2 : Nat} {x2 : List Nat} (h1 : MayS s1 x1 = true) (h2 : MayS s2 x2 = true) (h : s1 = s2) : alikeE s1 [⟨s1, a1, n1, c1, x1⟩, ⟨s2, a2, n2, c2, x2⟩] = 0 := by
  subst h
  simp [alikeE, notMay, offS, h1, h2, MayS.fits h1]

def gW (xs : List Nat) (i : Nat) : Nat := xs.getD i 0
theorem gW_ok {x : List Nat} (h : OkW x) (i : Nat) : gW x i < 18446744073709551616 := by
  unfold gW
  by_cases hi : i < x.length
  · have : x.getD i 0 = x[i] := by simp [List.getD, hi]
    rw [this]; exact h _ (List.getElem_mem hi)
  · simp [List.getD, List.getElem?_eq_none (show x.length ≤ i by omega)]
/-- Two sets of one universe, joined, leave nothing. -/
def leavesR (F : Nat → Nat → Nat) (s1 : Int) (x1 : List Nat) (s2 : Int) (x2 : List Nat) : Bool :=
  MayS s1 x1 && MayS s2 x2 && decide (s1 = s2) && (List.range (nW s1.toNat)).all (fun i => F (gW x1 i) (gW x2 i) == 0)
theorem leaves_no {F : Nat → Nat → Nat} {s1 : Int} {x1 : List Nat} {s2 : Int} {x2 : List Nat} (h : MayS s1 x1 = true → MayS s2 x2 = true → s1 = s2 → False) : leavesR F s1 x1 s2 x2 = false := by
  cases hh : leavesR F s1 x1 s2 x2
  · rfl
  · simp only [leavesR, Bool.and_eq_true, decide_eq_true_eq] at hh
    exact (h hh.1.1.1 hh.1.1.2 hh.1.2).elim
/-- .. by bits. -/
theorem leaves_bits {F : Nat → Nat → Nat} {op : Bool → Bool → Bool} {s : Int} {x1 x2 : List Nat} (hF : ∀ x y, x < 18446744073709551616 → y < 18446744073709551616 → F x y < 18446744073709551616 ∧ ∀ j, (F x y).testBit j = op (x.testBit j) (y.testBit j))
    (h00 : op false false = false) (o1 : OkW x1) (o2 : OkW x2) (h1 : MayS s x1 = true) (h2 : MayS s x2 = true) : leavesR F s x1 s x2 = (List.range s.toNat).all (fun e => !op (hasB (gW x1) e) (hasB (gW x2) e)) := by
  rw [Bool.eq_iff_iff]
  simp only [leavesR, h1, h2, Bool.and_eq_true, decide_eq_true_eq, List.all_eq_true, List.mem_range, beq_iff_eq, Bool.not_eq_true']
  have hnw : ∀ e, e < s.toNat → e / 64 < nW s.toNat := fun e he => by unfold nW; omega
  constructor
  · intro h e he
    have k := h.2 (e / 64) (hnw e he)
    have := (hF _ _ (gW_ok o1 (e / 64)) (gW_ok o2 (e / 64))).2 (e % 64)
    rw [k] at this
    simpa [hasB] using this.symm
  · intro h
    refine ⟨⟨⟨trivial, trivial⟩, trivial⟩, fun i hi => ?_⟩
    have hb := hF _ _ (gW_ok o1 i) (gW_ok o2 i)
    apply Nat.eq_of_testBit_eq
    intro j
    rw [hb.2 j, Nat.zero_testBit]
    by_cases hj : j < 64
    · by_cases he : 64 * i + j < s.toNat
      · have k := h _ he
        unfold hasB at k
        rwa [show (64 * i + j) / 64 = i from by omega, show (64 * i + j) % 64 = j from by omega] at k
      · have z1 := MayS.zero h1 (64 * i + j) (by omega) (by rw [MayS.len h1]; omega)
        have z2 := MayS.zero h2 (64 * i + j) (by omega) (by rw [MayS.len h2]; omega)
        unfold hasB at z1 z2
        rw [show (64 * i + j) / 64 = i from by omega, show (64 * i + j) % 64 = j from by omega] at z1 z2
        show op ((x1.getD i 0).testBit j) ((x2.getD i 0).testBit j) = false
        rw [z1, z2]; exact h00
    · rw [tb_big (gW_ok o1 i) (by omega), tb_big (gW_ok o2 i) (by omega)]; exact h00
end Go.Proofs.Ytbendkndnojihaa

namespace Go.Proofs.Ytbendkndnojihaa
open Go.RowKit Go.Deep
set_option linter.unusedVariables false

/-- The words of a set lie not in a struct. -/
theorem SlW.two {w : World} {R : Nat} {s0 : Int} {a0 : Option Addr} {n0 c0 : Nat} {a : Option Addr} {n c : Nat} {xs : List Nat} (h : SlW w a n c xs) (t : Two w R (.int .i64 s0) (.slice a0 n0 c0)) (u0 u1 : Value) :
    SlW ((w.setCell ⟨R, 0, none⟩ u0).setCell ⟨R, 1, none⟩ u1) a n c xs := by
  refine ⟨h.len, h.le, h.cap, ?_⟩
  rcases h.cells with e | ⟨b, off, e, k⟩
  · exact .inl e
  · refine .inr ⟨b, off, e, fun i hi => ?_⟩
    have hc := k i hi
    have h0 : ¬ (R = b ∧ 0 = off + i) := by
      rintro ⟨rfl, hh⟩
      rw [← hh, t.c0] at hc
      cases hc
    have h1 : ¬ (R = b ∧ 1 = off + i) := by
      rintro ⟨rfl, hh⟩
      rw [← hh, t.c1] at hc
      cases hc
    rw [World.cell?_setCell_other _ _ _ _ (by intro h; injection h with e1 e2; exact h1 ⟨e1, e2⟩), World.cell?_setCell_other _ _ _ _ (by intro h; injection h with e1 e2; exact h0 ⟨e1, e2⟩)]
    exact hc

end Go.Proofs.Ytbendkndnojihaa
