/-
  REGIONS THAT DRAW THEIR ORDER, whose operations read, and whose calls make memory: one walk.
-/
import Derived.Test.YtbendkndnojihabDoorBt0
import Derived.Test.YtbendkndnojihabDoorBt7
import Derived.Test.YtbendkndnojihabDoorBxc
import Derived.Test.YtbendkndnojihabDoorBtm
import Derived.Test.YtbendkndnojihabDoorBm4
import Derived.Test.YtbendkndnojihabDoorBn2
import Derived.Test.YtbendkndnojihabDoorBtu
namespace Go.Proofs.YtbendkndnojihabDoor
open Go.RowKit Go.Deep
set_option linter.unusedVariables false

/-- The worlds that are w but for new memory. -/
structure Ext (w0 : World) where
  w : World
  bel : Below w0.heap.size w0 w
theorem Ext.ne (w : World) : Nonempty (Ext w) := ⟨⟨w, Below.refl _ _⟩⟩
section
variable {P : Program}
theorem wp_region_ext {id : Nat} {Q : Exit → Act → World → Prop} {a : Act} {w : World} {l : List Oper} (hm : P.follows .mixedOrders = true) (hB : Region.lexB .any l.toArray = true)
    (h : wpQuiet P l.toArray (fun w' => ∃ x : Ext w, w' = x.w) (fun a' => ∀ w', (∃ x : Ext w, w' = x.w) → Q .normal a' w') l a) : (Code.region id l.toArray true).wp P Q a w :=
  wp_region_quiet (C := fun w' => ∃ x : Ext w, w' = x.w) hm hB ⟨⟨w.drew, (Below.refl _ _).drew⟩, rfl⟩ (by simpa using h)
end
/-- A callee's contract in such a world. -/
theorem Ext.call {P : Program} {f : FuncId} {args : Array Value} {w : World} {x : Ext w} {v : Value} {R : Ending → World → Prop} (h : Calls P f args x.w R) (hR : ∀ e w', R e w' → e = .returned v ∧ Below x.w.heap.size x.w w') :
    Calls P f args x.w fun e w'' => e = .returned v ∧ ∃ y : Ext w, w'' = y.w :=
  h.mono fun e w' hr => ⟨(hR e w' hr).1, ⟨⟨w', x.bel.trans ((hR e w' hr).2.mono x.bel.size)⟩, rfl⟩⟩
theorem Ext.cell {w : World} (x : Ext w) {p : Addr} {v : Value} (h : w.cell? p = some v) : x.w.cell? p = some v := below_cell x.bel h
end Go.Proofs.YtbendkndnojihabDoor

namespace Go.Proofs.YtbendkndnojihabDoor
open Go.RowKit Go.Deep
set_option linter.unusedVariables false

theorem key_getD {L M : List SetC} (h : M.map SetC.key = L.map SetC.key) (k : Nat) : (M.getD k .nul).s = (L.getD k .nul).s ∧ (M.getD k .nul).xs = (L.getD k .nul).xs := by
  have e : (M.getD k .nul).key = (L.getD k .nul).key := by
    have h1 : (M.map SetC.key)[k]? = (L.map SetC.key)[k]? := by rw [h]
    rw [List.getElem?_map, List.getElem?_map] at h1
    simp only [List.getD]
    cases hM : M[k]? <;> cases hL : L[k]? <;> simp_all
  exact ⟨congrArg Prod.fst e, congrArg Prod.snd e⟩

set_option maxHeartbeats 8000000 in
/-- slopelaw3.sameTable, of tables with the same sets. -/
theorem sameTable_eq (s : Int) (a1 a2 : Option Addr) (n c1 c2 : Nat) (L M : List SetC) (w : World) (h1 : SlS w a1 n c1 L) (h2 : SlS w a2 n c2 M) (hk : M.map SetC.key = L.map SetC.key) :
    Calls Tryd.prog 13 #[setV s a1 n c1, setV s a2 n c2] w fun e w' => e = .returned (.bool true) ∧ Below w.heap.size w w' := by
  unfold setV
  have hle1 := h1.le
  have hle2 := h2.le
  have hcap1 := h1.cap
  have hcap2 := h2.cap
  unfold maxLen at hcap1 hcap2
  obtain ⟨wa, hwa⟩ : ∃ wa, w.alloc (.cells #[.int .i64 s, .slice a1 n c1] 24) = wa := ⟨_, rfl⟩
  obtain ⟨wb, hwb⟩ : ∃ wb, wa.alloc (.cells #[.int .i64 s, .slice a2 n c2] 24) = wb := ⟨_, rfl⟩
  have hba : Below w.heap.size w wa := by rw [← hwa]; exact (Below.refl _ _).alloc (Nat.le_refl _) _
  have hbb : Below wa.heap.size wa wb := by rw [← hwb]; exact (Below.refl _ _).alloc (Nat.le_refl _) _
  have tA : Two wb w.heap.size (.int .i64 s) (.slice a1 n c1) := by
    refine Two.keep (w := wa) ?_ hbb
    rw [← hwa]; exact Two.made _ _ _ _
  have tB : Two wb wa.heap.size (.int .i64 s) (.slice a2 n c2) := by rw [← hwb]; exact Two.made _ _ _ _
  have hB := hba.trans (hbb.mono hba.size)
  have HT := hide (And.intro tA (And.intro tB hB))
  have HS1 := hide h1
  have HS2 := hide h2
  have HKey := hide (key_getD hk)
  have a0 := tA.c0
  have a1' := tA.c1
  have b0 := tB.c0
  have b1 := tB.c1
  clear hba hbb h1 h2 tA tB hB hk
  go_enter Tryd.func13, Tryd.ntmps13
  go_wp2_with fail
  clear a0 a1' b0 b1 hwa hwb
  go_loopw [5] (fun i wr => ∃ k : Nat, k ≤ n ∧ i = .int .i64 k ∧ Two wr w.heap.size (.int .i64 s) (.slice a1 n c1) ∧ Two wr wa.heap.size (.int .i64 s) (.slice a2 n c2) ∧ Below w.heap.size w wr) (fun i _ => n - (intOf i).toNat)
  case atStart => exact ⟨0, Nat.zero_le _, rfl, (unhide HT).1, (unhide HT).2.1, (unhide HT).2.2⟩
  case round =>
    obtain ⟨k, hk, rfl, tA, tB, hbl⟩ := hrel
    have a0 := tA.c1
    have b0 := tB.c1
    by_cases hlt : k < n
    · have hlt' : (k : Int) < (n : Int) := by omega
      have k1 := (unhide HS1).below hbl
      have k2 := (unhide HS2).below hbl
      obtain ⟨p1, o1, rfl, hc1⟩ := k1.at (by omega)
      obtain ⟨p2, o2, rfl, hc2⟩ := k2.at (by omega)
      have g1 := (hc1 k hlt).1
      have g2 := (hc1 k hlt).2
      have g3 := (hc2 k hlt).1
      have g4 := (hc2 k hlt).2
      have i1 := (k1.get k hlt).1
      have i2 := (k2.get k hlt).1
      have hke := unhide HKey k
      generalize L.getD k .nul = e at *
      generalize M.getD k .nul = f at *
      obtain ⟨es, ea, en, ec, exs⟩ := e
      obtain ⟨fs, fa, fn, fc, fxs⟩ := f
      simp only at g1 g2 g3 g4 hke
      obtain ⟨rfl, rfl⟩ := hke
      have hfn : fn = en := by have x1 := i1.len; have x2 := i2.len; simp only at x1 x2; omega
      subst hfn
      have K := fun x : Ext wr => same_eq fs ea fa fn ec fc fxs x.w (i1.below x.bel) (i2.below x.bel)
      unfold setV at K
      have HK := hide K
      have F0 := fun x : Ext wr => x.cell a0
      have F1 := fun x : Ext wr => x.cell b0
      have F2 := fun x : Ext wr => x.cell g1
      have F3 := fun x : Ext wr => x.cell g2
      have F4 := fun x : Ext wr => x.cell g3
      have F5 := fun x : Ext wr => x.cell g4
      have hNE := Ext.ne wr
      have HBl := hide (And.intro tA (And.intro tB hbl))
      clear g1 g2 g3 g4 hc1 hc2 i1 i2 k1 k2 tA tB hbl K
      go_wp2_with fail
      refine wp_region_ext (by kernel_rfl) (by kernel_rfl) ?_
      repeat (go_big_quiet_step ((rename_i x; exact Ext.call (unhide HK x) (fun e w' h => h))))
      refine wpQuiet_nil ?_
      rintro _ ⟨x, rfl⟩
      have HB2 := hide (And.intro ((unhide HBl).1.keep x.bel) (And.intro ((unhide HBl).2.1.keep x.bel) ((unhide HBl).2.2.trans (x.bel.mono (unhide HBl).2.2.size))))
      go_wp2_with fail
      exact ⟨⟨k + 1, by omega, by go_num, (unhide HB2).1, (unhide HB2).2.1, (unhide HB2).2.2⟩, by simp [intOf]; omega⟩
    · have hlt' : ¬ (k : Int) < (n : Int) := by omega
      have HBl := hide hbl
      clear hbl tA tB
      go_wp2_with fail
      go_ret
      exact ⟨rfl, unhide HBl⟩
end Go.Proofs.YtbendkndnojihabDoor

namespace Go.Proofs.YtbendkndnojihabDoor
set_option linter.unusedVariables false

structure Good (sz : Nat) (X : List Nat) (P : Nat → Bool) : Prop where
  eq : X = wordsL sz P
  zero : ∀ x, sz ≤ x → P x = false
  le : sz ≤ 4096
theorem Good.ok {sz : Nat} {X : List Nat} {P : Nat → Bool} (h : Good sz X P) : OkW X := by
  intro x hx
  rw [h.eq] at hx
  obtain ⟨i, hi, rfl⟩ := List.mem_map.1 hx
  exact (wd_rep (nW sz) P i (List.mem_range.1 hi)).1
theorem Good.len {sz : Nat} {X : List Nat} {P : Nat → Bool} (h : Good sz X P) : X.length = nW sz := by rw [h.eq, wordsL_len]
theorem Good.has {sz : Nat} {X : List Nat} {P : Nat → Bool} (h : Good sz X P) (x : Nat) (hx : x < 64 * nW sz) : hasB (gW X) x = P x := by
  have hr := (wd_rep (nW sz) P).has x hx
  rw [← hr]
  unfold hasB gW
  rw [h.eq, wordsL_getD sz P (x / 64) (by omega)]
theorem Good.may {sz : Nat} {X : List Nat} {P : Nat → Bool} (h : Good sz X P) : MayS sz X = true := by
  refine MayS.mk (by simp [fitsI]; have := h.le; omega) (by simpa using h.len) (fun x h1 h2 => ?_)
  have := h.has x (by rw [← h.len]; exact h2)
  exact this.trans (h.zero x (by simpa using h1))
theorem Good.mk' {sz : Nat} {P : Nat → Bool} (hz : ∀ x, sz ≤ x → P x = false) (hl : sz ≤ 4096) : Good sz (wordsL sz P) P := ⟨rfl, hz, hl⟩
theorem words_eq {sz : Nat} {P Q : Nat → Bool} (h : ∀ x, x < 64 * nW sz → P x = Q x) : wordsL sz P = wordsL sz Q := wordsL_congr h

theorem alike_good2 {sz : Nat} {X1 X2 : List Nat} {P1 P2 : Nat → Bool} {a1 a2 : Option Addr} {n1 c1 n2 c2 : Nat} (g1 : Good sz X1 P1) (g2 : Good sz X2 P2) : alikeE sz [⟨sz, a1, n1, c1, X1⟩, ⟨sz, a2, n2, c2, X2⟩] = 0 := by
  simp [alikeE, notMay, offS, g1.may, g2.may, MayS.fits g1.may]
theorem many_good2 {sz : Nat} {X1 X2 : List Nat} {P1 P2 : Nat → Bool} {a1 a2 : Option Addr} {n1 c1 n2 c2 : Nat} (g1 : Good sz X1 P1) (g2 : Good sz X2 P2) (all : Bool) {X : List Nat} (hX : wordsL sz (fun x => if all then (P1 x && P2 x) else (P1 x || P2 x)) = X) :
    manyR sz [⟨sz, a1, n1, c1, X1⟩, ⟨sz, a2, n2, c2, X2⟩] all = ((sz : Int), X, 0) := by
  unfold manyR
  rw [alike_good2 g1 g2]
  simp only [if_true]
  rw [← hX]
  congr 2
  show wordsL sz _ = wordsL sz _
  refine words_eq (fun x hx => ?_)
  have e1 := g1.has x hx
  have e2 := g2.has x hx
  have e1' : hasS x ⟨sz, a1, n1, c1, X1⟩ = P1 x := e1
  have e2' : hasS x ⟨sz, a2, n2, c2, X2⟩ = P2 x := e2
  unfold manyB
  simp only [List.all_cons, List.all_nil, List.any_cons, List.any_nil, e1', e2', Bool.and_true, Bool.or_false, Int.toNat_natCast]
  by_cases hs : x < sz
  · simp [hs]
  · rw [g1.zero x (by omega), g2.zero x (by omega)]
    cases all <;> simp
theorem many_good3 {sz : Nat} {X1 X2 X3 : List Nat} {P1 P2 P3 : Nat → Bool} {a1 a2 a3 : Option Addr} {n1 c1 n2 c2 n3 c3 : Nat} (g1 : Good sz X1 P1) (g2 : Good sz X2 P2) (g3 : Good sz X3 P3) {X : List Nat} (hX : wordsL sz (fun x => P1 x || P2 x || P3 x) = X) :
    manyR sz [⟨sz, a1, n1, c1, X1⟩, ⟨sz, a2, n2, c2, X2⟩, ⟨sz, a3, n3, c3, X3⟩] false = ((sz : Int), X, 0) := by
  unfold manyR
  have ha : alikeE sz [⟨sz, a1, n1, c1, X1⟩, ⟨sz, a2, n2, c2, X2⟩, ⟨sz, a3, n3, c3, X3⟩] = 0 := by
    simp [alikeE, notMay, offS, g1.may, g2.may, g3.may, MayS.fits g1.may]
  rw [ha]
  simp only [if_true]
  rw [← hX]
  congr 2
  show wordsL sz _ = wordsL sz _
  refine words_eq (fun x hx => ?_)
  have e1' : hasS x ⟨sz, a1, n1, c1, X1⟩ = P1 x := g1.has x hx
  have e2' : hasS x ⟨sz, a2, n2, c2, X2⟩ = P2 x := g2.has x hx
  have e3' : hasS x ⟨sz, a3, n3, c3, X3⟩ = P3 x := g3.has x hx
  unfold manyB
  simp only [List.any_cons, List.any_nil, e1', e2', e3', Bool.or_false, Int.toNat_natCast, Bool.false_eq_true, if_false]
  by_cases hs : x < sz
  · simp [hs, Bool.or_assoc]
  · rw [g1.zero x (by omega), g2.zero x (by omega), g3.zero x (by omega)]
    simp
theorem rest_good {sz : Nat} {X1 : List Nat} {P1 : Nat → Bool} (g1 : Good sz X1 P1) {X : List Nat} (hX : wordsL sz (fun x => decide (x < sz) && !P1 x) = X) : restR sz X1 = ((sz : Int), X, 0) := by
  unfold restR
  rw [if_pos g1.may, ← hX]
  congr 2
  show wordsL sz _ = wordsL sz _
  refine words_eq (fun x hx => ?_)
  rw [g1.has x hx]
  simp
theorem pair_good {sz : Nat} {X1 X2 : List Nat} {P1 P2 : Nat → Bool} (both : Bool) (g1 : Good sz X1 P1) (g2 : Good sz X2 P2) {X : List Nat} (hX : wordsL sz (fun x => mOp both (P1 x) (P2 x)) = X) : pairR both sz X1 sz X2 = ((sz : Int), X, 0) := by
  have h0 : pairE sz X1 sz X2 = 0 := by simp [pairE, g1.may, g2.may]
  unfold pairR
  rw [if_pos h0, ← hX]
  congr 2
  show wordsL sz _ = wordsL sz _
  refine words_eq (fun x hx => ?_)
  rw [g1.has x hx, g2.has x hx]
theorem leaves_good {sz : Nat} {X1 X2 : List Nat} {P1 P2 : Nat → Bool} {F : Nat → Nat → Nat} {op : Bool → Bool → Bool} (hF : ∀ x y, x < 18446744073709551616 → y < 18446744073709551616 → F x y < 18446744073709551616 ∧ ∀ j, (F x y).testBit j = op (x.testBit j) (y.testBit j))
    (h00 : op false false = false) (g1 : Good sz X1 P1) (g2 : Good sz X2 P2) (h : ∀ x, x < sz → op (P1 x) (P2 x) = false) : leavesR F sz X1 sz X2 = true := by
  rw [leaves_bits hF h00 g1.ok g2.ok g1.may g2.may, List.all_eq_true]
  intro x hx
  have hxs : x < sz := by simpa using hx
  have hn : sz ≤ 64 * nW sz := by unfold nW; omega
  rw [g1.has x (by omega), g2.has x (by omega), h x hxs]
  rfl
theorem count_good {sz : Nat} {X1 : List Nat} {P1 : Nat → Bool} (g1 : Good sz X1 P1) : countR sz X1 = cntB P1 sz := by
  rw [countR, if_pos g1.may]
  have hn : sz ≤ 64 * nW sz := by unfold nW; omega
  show cntB _ sz = _
  exact cntB_congr (fun x hx => g1.has x (by omega))
theorem cnt_or_and (P Q : Nat → Bool) : ∀ n, cntB (fun x => P x || Q x) n + cntB (fun x => P x && Q x) n = cntB P n + cntB Q n
  | 0 => rfl
  | n + 1 => by
    have ih := cnt_or_and P Q n
    simp only [cntB]
    rcases Bool.eq_false_or_eq_true (P n) with hp | hp <;> rcases Bool.eq_false_or_eq_true (Q n) with hq | hq <;> simp [hp, hq] <;> omega
theorem cnt_not (P : Nat → Bool) : ∀ n m, n ≤ m → cntB P n + cntB (fun x => decide (x < m) && !P x) n = n
  | 0, _, _ => rfl
  | n + 1, m, h => by
    have ih := cnt_not P n m (by omega)
    simp only [cntB]
    have hm : n < m := by omega
    rcases Bool.eq_false_or_eq_true (P n) with hp | hp <;> simp [hp, hm] <;> omega
theorem make_good {size : Int} {l : List Int} (hf : fitsI size = true) (hb : l.any (badE size) = false) : Good size.toNat (wordsL size.toNat (fun x => l.any (fun e => e == (x : Int)))) (fun x => l.any (fun e => e == (x : Int))) := by
  obtain ⟨sz, rfl, hsz⟩ := fitsI_nat hf
  refine Good.mk' (fun x hx => ?_) (by simpa using hsz)
  rw [List.any_eq_false]
  intro e he hh
  have := List.any_eq_false.1 hb e he
  simp [badE] at this
  simp at hh hx
  omega
end Go.Proofs.YtbendkndnojihabDoor
