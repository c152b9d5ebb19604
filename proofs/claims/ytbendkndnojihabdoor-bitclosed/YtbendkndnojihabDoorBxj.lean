/-
  bitset.leaves, by and: its contract.
-/
import Derived.Test.YtbendkndnojihabDoorBt5
import Derived.Test.YtbendkndnojihabDoorBl2
import Derived.Test.YtbendkndnojihabDoorBv1
import Derived.Test.YtbendkndnojihabDoorBxi
import Derived.Deep.RegionHeld3
namespace Go.Proofs.YtbendkndnojihabDoor
open Go.RowKit Go.Deep
set_option linter.unusedVariables false

end Go.Proofs.YtbendkndnojihabDoor

namespace Go.Proofs.YtbendkndnojihabDoor
open Go.RowKit Go.Deep
set_option linter.unusedVariables false

set_option maxHeartbeats 2000000 in
/-- bitset.Subset. -/
theorem subset_any (s1 : Int) (a1 : Option Addr) (n1 c1 : Nat) (x1 : List Nat) (s2 : Int) (a2 : Option Addr) (n2 c2 : Nat) (x2 : List Nat) (w : World) (h1 : SlW w a1 n1 c1 x1) (h2 : SlW w a2 n2 c2 x2) (o1 : OkW x1) (o2 : OkW x2) :
    Calls Tryd.prog 16 #[setV s1 a1 n1 c1, setV s2 a2 n2 c2] w fun r w' => r = .returned (.bool (leavesR jAndNot s1 x1 s2 x2)) ∧ Below w.heap.size w w' := by
  obtain ⟨wa, hwa⟩ : ∃ x, w.alloc (.cells #[.int .i64 s1, .slice a1 n1 c1] 35) = x := ⟨_, rfl⟩
  obtain ⟨wb, hwb⟩ : ∃ x, wa.alloc (.cells #[.int .i64 s2, .slice a2 n2 c2] 35) = x := ⟨_, rfl⟩
  have hba : Below w.heap.size w wa := by rw [← hwa]; exact (Below.refl _ _).alloc (Nat.le_refl _) _
  have hbb : Below wa.heap.size wa wb := by rw [← hwb]; exact (Below.refl _ _).alloc (Nat.le_refl _) _
  have tA : Two wb w.heap.size (.int .i64 s1) (.slice a1 n1 c1) := Two.keep (w := wa) (by rw [← hwa]; exact Two.made _ _ _ _) hbb
  have tB : Two wb wa.heap.size (.int .i64 s2) (.slice a2 n2 c2) := by rw [← hwb]; exact Two.made _ _ _ _
  have hB := hba.trans (hbb.mono hba.size)
  have K := leaves_andNot s1 a1 n1 c1 x1 s2 a2 n2 c2 x2 wb (h1.below hB) (h2.below hB) o1 o2
  generalize leavesR jAndNot s1 x1 s2 x2 = r at *
  unfold setV at K ⊢
  have HK := hide K
  have HB := hide hB
  have t0 := tA.c0
  have t1 := tA.c1
  have u0 := tB.c0
  have u1 := tB.c1
  clear K hB tA tB h1 h2 o1 o2 hba hbb
  go_enter Tryd.func16, Tryd.ntmps16
  go_wp2_with fail
  refine (unhide HK).mono ?_
  rintro _ w1 ⟨rfl, hb⟩
  have HB1 := hide ((unhide HB).trans (hb.mono (unhide HB).size))
  clear hb HK
  go_wp2_with fail
  go_ret
  exact ⟨rfl, unhide HB1⟩
end Go.Proofs.YtbendkndnojihabDoor

namespace Go.Proofs.YtbendkndnojihabDoor
set_option linter.unusedVariables false

def opX' (x y : Bool) : Bool := x != y
def opN' (x y : Bool) : Bool := x && !y
def opA' (x y : Bool) : Bool := x && y
theorem lat_make {sz : Nat} {l : List Int} (hsz : sz ≤ 4096) (hb : l.any (badE sz) = false) : ∃ X P, mkR (sz : Int) l = ((sz : Int), X, 0) ∧ Good sz X P := by
  have hf : fitsI (sz : Int) = true := by simp [fitsI]; omega
  have g := make_good hf hb
  rw [Int.toNat_natCast] at g
  exact ⟨_, _, by simp [mkR, hf, hb], g⟩
theorem Good.new {sz : Nat} (P : Nat → Bool) (hz : ∀ x, sz ≤ x → P x = false) (hl : sz ≤ 4096) : ∃ X, Good sz X P := ⟨_, Good.mk' hz hl⟩
theorem id_both (d p q : Bool) : ((d && !p) && (d && !q)) = (d && !(p || q)) := by cases d <;> cases p <;> cases q <;> rfl
theorem id_mb (d p q : Bool) (h : d = false → p = false) : (p && (d && !q)) = mOp false p q := by
  cases d
  · rw [h rfl]; cases q <;> rfl
  · cases p <;> cases q <;> rfl
theorem id_du (p q : Bool) : mOp false (p || q) (p && q) = mOp true p q := by cases p <;> cases q <;> rfl
theorem id_sum (p q r : Bool) : ((p && q) || (p && r)) = (p && (q || r)) := by cases p <;> cases q <;> cases r <;> rfl
theorem id_dis (d p : Bool) : opA' p (d && !p) = false := by cases d <;> cases p <;> rfl
theorem id_dis2 (p q : Bool) : opA' (mOp false p q) q = false := by cases p <;> cases q <;> rfl
theorem id_sub1 (p q : Bool) : opN' (p && q) p = false := by cases p <;> cases q <;> rfl
theorem id_sub2 (p q : Bool) : opN' p (p || q) = false := by cases p <;> cases q <;> rfl
theorem id_eq (p : Bool) : opX' p p = false := by cases p <;> rfl
end Go.Proofs.YtbendkndnojihabDoor

namespace Go.Proofs.YtbendkndnojihabDoor
open Go.RowKit Go.Deep
set_option linter.unusedVariables false

theorem set2_other (w : World) (R : Nat) (u0 u1 : Value) (b o : Nat) (h : b ≠ R) : ((w.setCell ⟨R, 0, none⟩ u0).setCell ⟨R, 1, none⟩ u1).cell? ⟨b, o, none⟩ = w.cell? ⟨b, o, none⟩ := by
  rw [World.cell?_setCell_other _ _ _ _ (by intro e; injection e with e1 _; exact h e1.symm), World.cell?_setCell_other _ _ _ _ (by intro e; injection e with e1 _; exact h e1.symm)]
theorem two_cells {w : World} {b : Nat} {s1 : Int} {a1 : Option Addr} {n1 c1 : Nat} {x1 : List Nat} {s2 : Int} {a2 : Option Addr} {n2 c2 : Nat} {x2 : List Nat}
    (k0 : w.cell? ⟨b, 0, none⟩ = some (.int .i64 s1)) (k1 : w.cell? ⟨b, 1, none⟩ = some (.slice a1 n1 c1)) (k2 : w.cell? ⟨b, 2, none⟩ = some (.int .i64 s2)) (k3 : w.cell? ⟨b, 3, none⟩ = some (.slice a2 n2 c2))
    (h1 : SlW w a1 n1 c1 x1) (h2 : SlW w a2 n2 c2 x2) (o1 : OkW x1) (o2 : OkW x2) :
    SlS w (some ⟨b, 0, none⟩) 2 2 [⟨s1, a1, n1, c1, x1⟩, ⟨s2, a2, n2, c2, x2⟩] := by
  refine ⟨rfl, Nat.le_refl _, by unfold maxLen; omega, .inr ⟨_, _, rfl, ?_⟩, ?_⟩
  · intro i hi
    have hi2 : i < 2 := hi
    match i, hi2 with
    | 0, _ => exact ⟨k0, k1⟩
    | 1, _ => exact ⟨k2, k3⟩
  · intro e he
    rcases List.mem_cons.1 he with rfl | he
    · exact ⟨h1, o1⟩
    · rcases List.mem_cons.1 he with rfl | he
      · exact ⟨h2, o2⟩
      · cases he
/-- bitset.Union of two sets that lie side by side in new memory. -/
theorem union_two {n : Nat} {wq : World} {a1 : Option Addr} {n1 c1 : Nat} {X1 : List Nat} {P1 : Nat → Bool} {a2 : Option Addr} {n2 c2 : Nat} {X2 : List Nat} {P2 : Nat → Bool} {X : List Nat} (h1 : SlW wq a1 n1 c1 X1) (h2 : SlW wq a2 n2 c2 X2) (g1 : Good n X1 P1) (g2 : Good n X2 P2) (hX : wordsL n (fun x => P1 x || P2 x) = X)
    (w' : World) (b : Nat) (hb : Below wq.heap.size wq w') (k0 : w'.cell? ⟨b, 0, none⟩ = some (.int .i64 (n : Int))) (k1 : w'.cell? ⟨b, 1, none⟩ = some (.slice a1 n1 c1)) (k2 : w'.cell? ⟨b, 2, none⟩ = some (.int .i64 (n : Int))) (k3 : w'.cell? ⟨b, 3, none⟩ = some (.slice a2 n2 c2)) :
    Calls Tryd.prog 14 #[.int .i64 (n : Int), .slice (some ⟨b, 0, none⟩) 2 2] w' fun e w5 => ∃ a n' c, e = .returned (.tuple #[.agg #[.int .i64 (n : Int), .slice a n' c], .int .i64 0]) ∧ SlW w5 a n' c X ∧ Below w'.heap.size w' w5 ∧ Below wq.heap.size wq w5 ∧ ∀ x, a = some x → x.off = 0 := by
  have K := union_new (n : Int) (some ⟨b, 0, none⟩) 2 2 _ w' (two_cells k0 k1 k2 k3 (h1.below hb) (h2.below hb) g1.ok g2.ok)
  rw [many_good2 g1 g2 false (by simpa using hX)] at K
  refine K.mono ?_
  rintro _ w5 ⟨a, n', c, rfl, hs, hb5, ho⟩
  exact ⟨a, n', c, rfl, hs, hb5, hb.trans (hb5.mono hb.size), ho⟩
theorem bel_one (W : World) (o : Obj) : Below W.heap.size W (W.alloc o).drew := ((Below.refl W.heap.size W).alloc (Nat.le_refl _) o).drew
theorem bel_both (W : World) (o p : Obj) : Below W.heap.size W ((W.alloc o).alloc p).drew := (((Below.refl W.heap.size W).alloc (Nat.le_refl _) o).alloc (by simp) p).drew
theorem box_first {W w5 : World} {o : Obj} (h : Below ((W.alloc (.cells #[.int .i64 0, .slice none 0 0] 35)).alloc o).drew.heap.size ((W.alloc (.cells #[.int .i64 0, .slice none 0 0] 35)).alloc o).drew w5) : Two w5 W.heap.size (.int .i64 0) (.slice none 0 0) :=
  Two.keep (Two.keep (Two.made W _ _ _) (((Below.refl _ _).alloc (Nat.le_refl _) o).drew)) h
theorem box_then {W w5 : World} {o : Obj} (h : Below ((W.alloc o).alloc (.cells #[.int .i64 0, .slice none 0 0] 35)).drew.heap.size ((W.alloc o).alloc (.cells #[.int .i64 0, .slice none 0 0] 35)).drew w5) : Two w5 (W.heap.size + 1) (.int .i64 0) (.slice none 0 0) := by
  have t := Two.made (W.alloc o) (.int .i64 0) (.slice none 0 0) 35
  rw [show (W.alloc o).heap.size = W.heap.size + 1 from by simp] at t
  exact Two.keep (Two.keep t (Below.refl _ _).drew) h
theorem box_none {w5 : World} (W : World) {o : Obj} (h : Below (W.alloc o).drew.heap.size (W.alloc o).drew w5) : True := trivial
theorem box_then2 {W w5 : World} {o : Obj} (h : Below ((W.alloc o).alloc (.cells #[.int .i64 0, .slice none 0 0] 35)).drew.heap.size ((W.alloc o).alloc (.cells #[.int .i64 0, .slice none 0 0] 35)).drew w5) : Two w5 (W.alloc o).heap.size (.int .i64 0) (.slice none 0 0) := by
  have t := Two.made (W.alloc o) (.int .i64 0) (.slice none 0 0) 35
  exact Two.keep (Two.keep t (Below.refl _ _).drew) h
theorem subset_good {n : Nat} {X1 X2 : List Nat} {P1 P2 : Nat → Bool} (g1 : Good n X1 P1) (g2 : Good n X2 P2) (h : ∀ x, P1 x = true → P2 x = true) : leavesR jAndNot n X1 n X2 = true :=
  leaves_good (op := opN') jAndNot_bits rfl g1 g2 (fun x _ => by
    have := h x
    cases h1 : P1 x
    · cases P2 x <;> rfl
    · rw [this h1]; rfl)
end Go.Proofs.YtbendkndnojihabDoor
