/-
  SETS THAT ARE WHAT A PREDICATE SAYS, plain.
-/
import Derived.Test.YtbendkndnojihaaBp0
import Derived.Test.YtbendkndnojihaaBp3
import Derived.Test.YtbendkndnojihaaBn2
import Derived.Test.YtbendkndnojihaaBtt
namespace Go.Proofs.Ytbendkndnojihaa
set_option linter.unusedVariables false

structure Good (sz : Nat) (X : List Nat) (P : Nat → Bool) : Prop where
  eq : X = wordsL sz P
  zero : ∀ x, sz ≤ x → P x = false
  le : sz ≤ 4096
theorem Good.ok {sz : Nat} {X : List Nat} {P : Nat → Bool} (h : Good sz X P) : OkW X := by
  intro x hx
  rw [h.eq] at hx
  obtain ⟨i, hi, rfl⟩ := List.mem_map.1 hx
  exact (wd_rep (nW sz) P i (List.mem_range.1 hi)).1
theorem Good.len {sz : Nat} {X : List Nat} {P : Nat → Bool} (h : Good sz X P) : X.length = nW sz := by rw [h.eq, wordsL_len]
theorem Good.has {sz : Nat} {X : List Nat} {P : Nat → Bool} (h : Good sz X P) (x : Nat) (hx : x < 64 * nW sz) : hasB (gW X) x = P x := by
  have hr := (wd_rep (nW sz) P).has x hx
  rw [← hr]
  unfold hasB gW
  rw [h.eq, wordsL_getD sz P (x / 64) (by omega)]
theorem Good.may {sz : Nat} {X : List Nat} {P : Nat → Bool} (h : Good sz X P) : MayS sz X = true := by
  refine MayS.mk (by simp [fitsI]; have := h.le; omega) (by simpa using h.len) (fun x h1 h2 => ?_)
  have := h.has x (by rw [← h.len]; exact h2)
  exact this.trans (h.zero x (by simpa using h1))
theorem Good.mk' {sz : Nat} {P : Nat → Bool} (hz : ∀ x, sz ≤ x → P x = false) (hl : sz ≤ 4096) : Good sz (wordsL sz P) P := ⟨rfl, hz, hl⟩
theorem words_eq {sz : Nat} {P Q : Nat → Bool} (h : ∀ x, x < 64 * nW sz → P x = Q x) : wordsL sz P = wordsL sz Q := wordsL_congr h

theorem alike_good2 {sz : Nat} {X1 X2 : List Nat} {P1 P2 : Nat → Bool} {a1 a2 : Option Addr} {n1 c1 n2 c2 : Nat} (g1 : Good sz X1 P1) (g2 : Good sz X2 P2) : alikeE sz [⟨sz, a1, n1, c1, X1⟩, ⟨sz, a2, n2, c2, X2⟩] = 0 := by
  simp [alikeE, notMay, offS, g1.may, g2.may, MayS.fits g1.may]
theorem many_good2 {sz : Nat} {X1 X2 : List Nat} {P1 P2 : Nat → Bool} {a1 a2 : Option Addr} {n1 c1 n2 c2 : Nat} (g1 : Good sz X1 P1) (g2 : Good sz X2 P2) (all : Bool) {X : List Nat} (hX : wordsL sz (fun x => if all then (P1 x && P2 x) else (P1 x || P2 x)) = X) :
    manyR sz [⟨sz, a1, n1, c1, X1⟩, ⟨sz, a2, n2, c2, X2⟩] all = ((sz : Int), X, 0) := by
  unfold manyR
  rw [alike_good2 g1 g2]
  simp only [if_true]
  rw [← hX]
  congr 2
  show wordsL sz _ = wordsL sz _
  refine words_eq (fun x hx => ?_)
  have e1 := g1.has x hx
  have e2 := g2.has x hx
  have e1' : hasS x ⟨sz, a1, n1, c1, X1⟩ = P1 x := e1
  have e2' : hasS x ⟨sz, a2, n2, c2, X2⟩ = P2 x := e2
  unfold manyB
  simp only [List.all_cons, List.all_nil, List.any_cons, List.any_nil, e1', e2', Bool.and_true, Bool.or_false, Int.toNat_natCast]
  by_cases hs : x < sz
  · simp [hs]
  · rw [g1.zero x (by omega), g2.zero x (by omega)]
    cases all <;> simp
theorem many_good3 {sz : Nat} {X1 X2 X3 : List Nat} {P1 P2 P3 : Nat → Bool} {a1 a2 a3 : Option Addr} {n1 c1 n2 c2 n3 c3 : Nat} (g1 : Good sz X1 P1) (g2 : Good sz X2 P2) (g3 : Good sz X3 P3) {X : List Nat} (hX : wordsL sz (fun x => P1 x || P2 x || P3 x) = X) :
    manyR sz [⟨sz, a1, n1, c1, X1⟩, ⟨sz, a2, n2, c2, X2⟩, ⟨sz, a3, n3, c3, X3⟩] false = ((sz : Int), X, 0) := by
  unfold manyR
  have ha : alikeE sz [⟨sz, a1, n1, c1, X1⟩, ⟨sz, a2, n2, c2, X2⟩, ⟨sz, a3, n3, c3, X3⟩] = 0 := by
    simp [alikeE, notMay, offS, g1.may, g2.may, g3.may, MayS.fits g1.may]
  rw [ha]
  simp only [if_true]
  rw [← hX]
  congr 2
  show wordsL sz _ = wordsL sz _
  refine words_eq (fun x hx => ?_)
  have e1' : hasS x ⟨sz, a1, n1, c1, X1⟩ = P1 x := g1.has x hx
  have e2' : hasS x ⟨sz, a2, n2, c2, X2⟩ = P2 x := g2.has x hx
  have e3' : hasS x ⟨sz, a3, n3, c3, X3⟩ = P3 x := g3.has x hx
  unfold manyB
  simp only [List.any_cons, List.any_nil, e1', e2', e3', Bool.or_false, Int.toNat_natCast, Bool.false_eq_true, if_false]
  by_cases hs : x < sz
  · simp [hs, Bool.or_assoc]
  · rw [g1.zero x (by omega), g2.zero x (by omega), g3.zero x (by omega)]
    simp
theorem rest_good {sz : Nat} {X1 : List Nat} {P1 : Nat → Bool} (g1 : Good sz X1 P1) {X : List Nat} (hX : wordsL sz (fun x => decide (x < sz) && !P1 x) = X) : restR sz X1 = ((sz : Int), X, 0) := by
  unfold restR
  rw [if_pos g1.may, ← hX]
  congr 2
  show wordsL sz _ = wordsL sz _
  refine words_eq (fun x hx => ?_)
  rw [g1.has x hx]
  simp
theorem pair_good {sz : Nat} {X1 X2 : List Nat} {P1 P2 : Nat → Bool} (both : Bool) (g1 : Good sz X1 P1) (g2 : Good sz X2 P2) {X : List Nat} (hX : wordsL sz (fun x => mOp both (P1 x) (P2 x)) = X) : pairR both sz X1 sz X2 = ((sz : Int), X, 0) := by
  have h0 : pairE sz X1 sz X2 = 0 := by simp [pairE, g1.may, g2.may]
  unfold pairR
  rw [if_pos h0, ← hX]
  congr 2
  show wordsL sz _ = wordsL sz _
  refine words_eq (fun x hx => ?_)
  rw [g1.has x hx, g2.has x hx]
theorem leaves_good {sz : Nat} {X1 X2 : List Nat} {P1 P2 : Nat → Bool} {F : Nat → Nat → Nat} {op : Bool → Bool → Bool} (hF : ∀ x y, x < 18446744073709551616 → y < 18446744073709551616 → F x y < 18446744073709551616 ∧ ∀ j, (F x y).testBit j = op (x.testBit j) (y.testBit j))
    (h00 : op false false = false) (g1 : Good sz X1 P1) (g2 : Good sz X2 P2) (h : ∀ x, x < sz → op (P1 x) (P2 x) = false) : leavesR F sz X1 sz X2 = true := by
  rw [leaves_bits hF h00 g1.ok g2.ok g1.may g2.may, List.all_eq_true]
  intro x hx
  have hxs : x < sz := by simpa using hx
  have hn : sz ≤ 64 * nW sz := by unfold nW; omega
  rw [g1.has x (by omega), g2.has x (by omega), h x hxs]
  rfl
theorem count_good {sz : Nat} {X1 : List Nat} {P1 : Nat → Bool} (g1 : Good sz X1 P1) : countR sz X1 = cntB P1 sz := by
  rw [countR, if_pos g1.may]
  have hn : sz ≤ 64 * nW sz := by unfold nW; omega
  show cntB _ sz = _
  exact cntB_congr (fun x hx => g1.has x (by omega))
theorem cnt_or_and (P Q : Nat → Bool) : ∀ n, cntB (fun x => P x || Q x) n + cntB (fun x => P x && Q x) n = cntB P n + cntB Q n
  | 0 => rfl
  | n + 1 => by
    have ih := cnt_or_and P Q n
    simp only [cntB]
    rcases Bool.eq_false_or_eq_true (P n) with hp | hp <;> rcases Bool.eq_false_or_eq_true (Q n) with hq | hq <;> simp [hp, hq] <;> omega
theorem cnt_not (P : Nat → Bool) : ∀ n m, n ≤ m → cntB P n + cntB (fun x => decide (x < m) && !P x) n = n
  | 0, _, _ => rfl
  | n + 1, m, h => by
    have ih := cnt_not P n m (by omega)
    simp only [cntB]
    have hm : n < m := by omega
    rcases Bool.eq_false_or_eq_true (P n) with hp | hp <;> simp [hp, hm] <;> omega
theorem make_good {size : Int} {l : List Int} (hf : fitsI size = true) (hb : l.any (badE size) = false) : Good size.toNat (wordsL size.toNat (fun x => l.any (fun e => e == (x : Int)))) (fun x => l.any (fun e => e == (x : Int))) := by
  obtain ⟨sz, rfl, hsz⟩ := fitsI_nat hf
  refine Good.mk' (fun x hx => ?_) (by simpa using hsz)
  rw [List.any_eq_false]
  intro e he hh
  have := List.any_eq_false.1 hb e he
  simp [badE] at this
  simp at hh hx
  omega
end Go.Proofs.Ytbendkndnojihaa
