/-
  REGIONS THAT DRAW THEIR ORDER, whose operations read, and whose calls make memory: one walk.
-/
import Derived.Test.YtbendkndnojihaaDoorBt0
import Derived.Test.YtbendkndnojihaaDoorBt7
import Derived.Test.YtbendkndnojihaaDoorBxc
namespace Go.Proofs.YtbendkndnojihaaDoor
open Go.RowKit Go.Deep
set_option linter.unusedVariables false

/-- The worlds that are w but for new memory. -/
structure Ext (w0 : World) where
  w : World
  bel : Below w0.heap.size w0 w
theorem Ext.ne (w : World) : Nonempty (Ext w) := ⟨⟨w, Below.refl _ _⟩⟩
section
variable {P : Program}
theorem wp_region_ext {id : Nat} {Q : Exit → Act → World → Prop} {a : Act} {w : World} {l : List Oper} (hm : P.follows .mixedOrders = true) (hB : Region.lexB .any l.toArray = true)
    (h : wpQuiet P l.toArray (fun w' => ∃ x : Ext w, w' = x.w) (fun a' => ∀ w', (∃ x : Ext w, w' = x.w) → Q .normal a' w') l a) : (Code.region id l.toArray true).wp P Q a w :=
  wp_region_quiet (C := fun w' => ∃ x : Ext w, w' = x.w) hm hB ⟨⟨w.drew, (Below.refl _ _).drew⟩, rfl⟩ (by simpa using h)
end
/-- A callee's contract in such a world. -/
theorem Ext.call {P : Program} {f : FuncId} {args : Array Value} {w : World} {x : Ext w} {v : Value} {R : Ending → World → Prop} (h : Calls P f args x.w R) (hR : ∀ e w', R e w' → e = .returned v ∧ Below x.w.heap.size x.w w') :
    Calls P f args x.w fun e w'' => e = .returned v ∧ ∃ y : Ext w, w'' = y.w :=
  h.mono fun e w' hr => ⟨(hR e w' hr).1, ⟨⟨w', x.bel.trans ((hR e w' hr).2.mono x.bel.size)⟩, rfl⟩⟩
theorem Ext.cell {w : World} (x : Ext w) {p : Addr} {v : Value} (h : w.cell? p = some v) : x.w.cell? p = some v := below_cell x.bel h
end Go.Proofs.YtbendkndnojihaaDoor

namespace Go.Proofs.YtbendkndnojihaaDoor
open Go.RowKit Go.Deep
set_option linter.unusedVariables false

theorem key_getD {L M : List SetC} (h : M.map SetC.key = L.map SetC.key) (k : Nat) : (M.getD k .nul).s = (L.getD k .nul).s ∧ (M.getD k .nul).xs = (L.getD k .nul).xs := by
  have e : (M.getD k .nul).key = (L.getD k .nul).key := by
    have h1 : (M.map SetC.key)[k]? = (L.map SetC.key)[k]? := by rw [h]
    rw [List.getElem?_map, List.getElem?_map] at h1
    simp only [List.getD]
    cases hM : M[k]? <;> cases hL : L[k]? <;> simp_all
  exact ⟨congrArg Prod.fst e, congrArg Prod.snd e⟩

set_option maxHeartbeats 8000000 in
/-- slopelaw3.sameTable, of tables with the same sets. -/
theorem sameTable_eq (s : Int) (a1 a2 : Option Addr) (n c1 c2 : Nat) (L M : List SetC) (w : World) (h1 : SlS w a1 n c1 L) (h2 : SlS w a2 n c2 M) (hk : M.map SetC.key = L.map SetC.key) :
    Calls Tryd.prog 38 #[setV s a1 n c1, setV s a2 n c2] w fun e w' => e = .returned (.bool true) ∧ Below w.heap.size w w' := by
  unfold setV
  have hle1 := h1.le
  have hle2 := h2.le
  have hcap1 := h1.cap
  have hcap2 := h2.cap
  unfold maxLen at hcap1 hcap2
  obtain ⟨wa, hwa⟩ : ∃ wa, w.alloc (.cells #[.int .i64 s, .slice a1 n c1] 56) = wa := ⟨_, rfl⟩
  obtain ⟨wb, hwb⟩ : ∃ wb, wa.alloc (.cells #[.int .i64 s, .slice a2 n c2] 56) = wb := ⟨_, rfl⟩
  have hba : Below w.heap.size w wa := by rw [← hwa]; exact (Below.refl _ _).alloc (Nat.le_refl _) _
  have hbb : Below wa.heap.size wa wb := by rw [← hwb]; exact (Below.refl _ _).alloc (Nat.le_refl _) _
  have tA : Two wb w.heap.size (.int .i64 s) (.slice a1 n c1) := by
    refine Two.keep (w := wa) ?_ hbb
    rw [← hwa]; exact Two.made _ _ _ _
  have tB : Two wb wa.heap.size (.int .i64 s) (.slice a2 n c2) := by rw [← hwb]; exact Two.made _ _ _ _
  have hB := hba.trans (hbb.mono hba.size)
  have HT := hide (And.intro tA (And.intro tB hB))
  have HS1 := hide h1
  have HS2 := hide h2
  have HKey := hide (key_getD hk)
  have a0 := tA.c0
  have a1' := tA.c1
  have b0 := tB.c0
  have b1 := tB.c1
  clear hba hbb h1 h2 tA tB hB hk
  go_enter Tryd.func38, Tryd.ntmps38
  go_wp2_with fail
  clear a0 a1' b0 b1 hwa hwb
  go_loopw [5] (fun i wr => ∃ k : Nat, k ≤ n ∧ i = .int .i64 k ∧ Two wr w.heap.size (.int .i64 s) (.slice a1 n c1) ∧ Two wr wa.heap.size (.int .i64 s) (.slice a2 n c2) ∧ Below w.heap.size w wr) (fun i _ => n - (intOf i).toNat)
  case atStart => exact ⟨0, Nat.zero_le _, rfl, (unhide HT).1, (unhide HT).2.1, (unhide HT).2.2⟩
  case round =>
    obtain ⟨k, hk, rfl, tA, tB, hbl⟩ := hrel
    have a0 := tA.c1
    have b0 := tB.c1
    by_cases hlt : k < n
    · have hlt' : (k : Int) < (n : Int) := by omega
      have k1 := (unhide HS1).below hbl
      have k2 := (unhide HS2).below hbl
      obtain ⟨p1, o1, rfl, hc1⟩ := k1.at (by omega)
      obtain ⟨p2, o2, rfl, hc2⟩ := k2.at (by omega)
      have g1 := (hc1 k hlt).1
      have g2 := (hc1 k hlt).2
      have g3 := (hc2 k hlt).1
      have g4 := (hc2 k hlt).2
      have i1 := (k1.get k hlt).1
      have i2 := (k2.get k hlt).1
      have hke := unhide HKey k
      generalize L.getD k .nul = e at *
      generalize M.getD k .nul = f at *
      obtain ⟨es, ea, en, ec, exs⟩ := e
      obtain ⟨fs, fa, fn, fc, fxs⟩ := f
      simp only at g1 g2 g3 g4 hke
      obtain ⟨rfl, rfl⟩ := hke
      have hfn : fn = en := by have x1 := i1.len; have x2 := i2.len; simp only at x1 x2; omega
      subst hfn
      have K := fun x : Ext wr => same_eq fs ea fa fn ec fc fxs x.w (i1.below x.bel) (i2.below x.bel)
      unfold setV at K
      have HK := hide K
      have F0 := fun x : Ext wr => x.cell a0
      have F1 := fun x : Ext wr => x.cell b0
      have F2 := fun x : Ext wr => x.cell g1
      have F3 := fun x : Ext wr => x.cell g2
      have F4 := fun x : Ext wr => x.cell g3
      have F5 := fun x : Ext wr => x.cell g4
      have hNE := Ext.ne wr
      have HBl := hide (And.intro tA (And.intro tB hbl))
      clear g1 g2 g3 g4 hc1 hc2 i1 i2 k1 k2 tA tB hbl K
      go_wp2_with fail
      refine wp_region_ext (by kernel_rfl) (by kernel_rfl) ?_
      repeat (go_big_quiet_step ((rename_i x; exact Ext.call (unhide HK x) (fun e w' h => h))))
      refine wpQuiet_nil ?_
      rintro _ ⟨x, rfl⟩
      have HB2 := hide (And.intro ((unhide HBl).1.keep x.bel) (And.intro ((unhide HBl).2.1.keep x.bel) ((unhide HBl).2.2.trans (x.bel.mono (unhide HBl).2.2.size))))
      go_wp2_with fail
      exact ⟨⟨k + 1, by omega, by go_num, (unhide HB2).1, (unhide HB2).2.1, (unhide HB2).2.2⟩, by simp [intOf]; omega⟩
    · have hlt' : ¬ (k : Int) < (n : Int) := by omega
      have HBl := hide hbl
      clear hbl tA tB
      go_wp2_with fail
      go_ret
      exact ⟨rfl, unhide HBl⟩
end Go.Proofs.YtbendkndnojihaaDoor
