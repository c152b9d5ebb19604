/- Ra2 -/
import Derived.Test.YtbbicappjicblaaGreatDoorRa1
import Derived.Test.YtbbicappjicblaaGreatDoorUpd
import Derived.Lib.LazyBuf
import Derived.Test.YtbbicappjicblaaGreatDoorShl
import Derived.Test.YtbbicappjicblaaGreatDoorNMul
import Derived.Test.YtbbicappjicblaaGreatDoorBase
import Derived.Deep.RegionHeld3
namespace Go.Proofs.YtbbicappjicblaaGreatDoor
open Go.RowKit Go.Deep
set_option linter.unusedVariables false
def ratV (neg : Bool) (a1 : Option Addr) (n1 c1 : Nat) (a2 : Option Addr) (n2 c2 : Nat) : Value := .agg #[.bool neg, .slice a1 n1 c1, .slice a2 n2 c2]

def MayR (neg : Bool) (xs ys : List Nat) : Bool := MayL xs && MayL ys && !decide (ys = []) && !(neg && decide (xs = [])) && decide (Nat.gcd (val xs) (val ys) = 1)

def ratBox (w : World) (neg : Bool) (a1 : Option Addr) (n1 c1 : Nat) (a2 : Option Addr) (n2 c2 : Nat) : World := w.alloc (.cells #[.bool neg, .slice a1 n1 c1, .slice a2 n2 c2] 71)

theorem one_is {v : Nat} : (limbs v = [1]) = (v = 1) := by
 apply propext
 constructor
 ·intro h
  have := (limbs_rep v).val
  rw [h] at this
  simp [val] at this
  exact this.symm
 ·intro h
  rw [h, limbs_1]

set_option maxHeartbeats 8000000 in
theorem ratMay_any (neg : Bool) (a1 a2 : Option Addr) (n1 c1 n2 c2 : Nat) (xs ys : List Nat) (w : World) (h1 : Sl w a1 n1 c1 xs) (h2 : Sl w a2 n2 c2 ys) (ox : Ok xs) (oy : Ok ys) (hT : Tab64 w) :
  Calls Tryz.prog 90 #[ratV neg a1 n1 c1 a2 n2 c2] w fun e w' => e = .returned (.bool (MayR neg xs ys)) ∧ Below w.heap.size w w' := by
 have bel : Below w.heap.size w (ratBox w neg a1 n1 c1 a2 n2 c2) := (Below.refl _ _).alloc (Nat.le_refl _) _
 have d0 : (ratBox w neg a1 n1 c1 a2 n2 c2).cell? ⟨w.heap.size, 0, none⟩ = some (.bool neg) := by simp [ratBox]
 have d1 : (ratBox w neg a1 n1 c1 a2 n2 c2).cell? ⟨w.heap.size, 1, none⟩ = some (.slice a1 n1 c1) := by simp [ratBox]
 have d2 : (ratBox w neg a1 n1 c1 a2 n2 c2).cell? ⟨w.heap.size, 2, none⟩ = some (.slice a2 n2 c2) := by simp [ratBox]
 obtain ⟨wa, hwa⟩ : ∃ wa, ratBox w neg a1 n1 c1 a2 n2 c2 = wa := ⟨_, rfl⟩
 rw [hwa] at bel d0 d1 d2
 unfold ratBox at hwa
 have K1 := may_any a1 n1 c1 xs wa (h1.below bel)
 have K2 := may_any a2 n2 c2 ys wa (h2.below bel)
 have hl1 := h1.len
 have hl2 := h2.len
 have HB := hide bel
 cases m1 : MayL xs
 ·rw [m1] at K1
  have K1' := hide K1
  have HR := hide (show MayR neg xs ys = false from by simp [MayR, m1])
  clear K1 K2 h1 h2 hT m1 bel
  unfold ratV
  go_enter Tryz.func90, Tryz.ntmps90
  go_wp2_with fail
  refine (unhide K1').mono ?_
  rintro _ _ ⟨rfl, hw⟩
  obtain rfl := hw.symm
  clear hw
  go_wp2_with fail
  go_ret
  rw [unhide HR]
  exact ⟨rfl, unhide HB⟩
 ·rw [m1] at K1
  cases m2 : MayL ys
  ·rw [m2] at K2
   have K1' := hide K1
   have K2' := hide K2
   have HR := hide (show MayR neg xs ys = false from by simp [MayR, m2])
   clear K1 K2 h1 h2 hT m1 m2 bel
   unfold ratV
   go_enter Tryz.func90, Tryz.ntmps90
   go_wp2_with fail
   refine (unhide K1').mono ?_
   rintro _ _ ⟨rfl, hw⟩
   obtain rfl := hw.symm
   clear hw
   go_wp2_with fail
   refine (unhide K2').mono ?_
   rintro _ _ ⟨rfl, hw⟩
   obtain rfl := hw.symm
   clear hw
   go_wp2_with fail
   go_ret
   rw [unhide HR]
   exact ⟨rfl, unhide HB⟩
  ·rw [m2] at K2
   have K1' := hide K1
   have K2' := hide K2
   by_cases hy : ys = []
   ·have HR := hide (show MayR neg xs ys = false from by simp [MayR, hy])
    have hn2 : n2 = 0 := by rw [← hl2, hy]; rfl
    subst hn2
    clear K1 K2 h1 h2 hT m1 m2 bel
    unfold ratV
    go_enter Tryz.func90, Tryz.ntmps90
    go_wp2_with fail
    refine (unhide K1').mono ?_
    rintro _ _ ⟨rfl, hw⟩
    obtain rfl := hw.symm
    clear hw
    go_wp2_with fail
    refine (unhide K2').mono ?_
    rintro _ _ ⟨rfl, hw⟩
    obtain rfl := hw.symm
    clear hw
    go_wp2_with fail
    go_ret
    rw [unhide HR]
    exact ⟨rfl, unhide HB⟩
   ·have hn2 : 0 < n2 := by rw [← hl2]; exact List.length_pos_iff.2 hy
    have t1 : ((n2:Int) == 0) = false := by simp; omega
    have t2 : ¬ (n2:Int) = 0 := by omega
    by_cases hz : neg = true ∧ xs = []
    ·obtain ⟨rfl, hx⟩ := hz
     have hn1 : n1 = 0 := by rw [← hl1, hx]; rfl
     subst hn1
     have HR := hide (show MayR true xs ys = false from by simp [MayR, hx])
     clear K1 K2 h1 h2 hT m1 m2 bel
     unfold ratV
     go_enter Tryz.func90, Tryz.ntmps90
     go_wp2_with fail
     refine (unhide K1').mono ?_
     rintro _ _ ⟨rfl, hw⟩
     obtain rfl := hw.symm
     clear hw
     go_wp2_with fail
     refine (unhide K2').mono ?_
     rintro _ _ ⟨rfl, hw⟩
     obtain rfl := hw.symm
     clear hw
     go_wp2_with fail
     go_ret
     rw [unhide HR]
     exact ⟨rfl, unhide HB⟩
    ·have hz2 : neg = false ∨ ¬ xs = [] := by
      cases neg
      ·exact .inl rfl
      ·right; intro e; exact hz ⟨rfl, e⟩
     obtain ⟨G, hG⟩ : ∃ G, Nat.gcd (val xs) (val ys) = G := ⟨_, rfl⟩
     have HR := hide (show MayR neg xs ys = decide (G = 1) from by
      subst hG
      rcases hz2 with e | e
      ·simp [MayR, m1, m2, hy, e]
      ·simp [MayR, m1, m2, hy, e])
     have KD0 := ratDivisor_any a1 a2 n1 c1 n2 c2 xs ys wa (h1.below bel) (h2.below bel) ox oy m1 m2 (hT.below bel)
     rw [hG] at KD0
     have KD := hide KD0
     clear KD0 hG
     have hz3 : neg = false ∨ (neg = true ∧ 0 < n1) := by
      cases neg
      ·exact .inl rfl
      ·right
       refine ⟨rfl, ?_⟩
       rw [← hl1]
       exact List.length_pos_iff.2 (hz2.resolve_left (by simp))
     clear K1 K2 h1 h2 hT m1 m2 bel hz hz2
     unfold ratV
     rcases hz3 with rfl | ⟨rfl, hn1⟩
     ·go_enter Tryz.func90, Tryz.ntmps90
      go_wp2_with fail
      refine (unhide K1').mono ?_
      rintro _ _ ⟨rfl, hw⟩
      obtain rfl := hw.symm
      clear hw
      go_wp2_with fail
      refine (unhide K2').mono ?_
      rintro _ _ ⟨rfl, hw⟩
      obtain rfl := hw.symm
      clear hw
      go_wp2_with fail
      refine (unhide KD).mono ?_
      rintro _ w1 ⟨a3, m3, c3, rfl, s3, n3, b3⟩
      have KI := isOne_any a3 m3 c3 (limbs G) w1 s3 (limbs_rep G).ok
      simp only [one_is] at KI
      have KI' := hide KI
      have HB1 := hide ((unhide HB).trans (b3.mono (unhide HB).size))
      clear KI s3 n3 b3
      go_wp2_with fail
      refine (unhide KI').mono ?_
      rintro _ _ ⟨rfl, hw⟩
      obtain rfl := hw.symm
      clear hw
      go_wp2_with fail
      go_ret
      rw [unhide HR]
      exact ⟨rfl, unhide HB1⟩
     ·have t3 : ((n1:Int) == 0) = false := by simp; omega
      have t4 : ¬ (n1:Int) = 0 := by omega
      go_enter Tryz.func90, Tryz.ntmps90
      go_wp2_with fail
      refine (unhide K1').mono ?_
      rintro _ _ ⟨rfl, hw⟩
      obtain rfl := hw.symm
      clear hw
      go_wp2_with fail
      refine (unhide K2').mono ?_
      rintro _ _ ⟨rfl, hw⟩
      obtain rfl := hw.symm
      clear hw
      go_wp2_with fail
      refine (unhide KD).mono ?_
      rintro _ w1 ⟨a3, m3, c3, rfl, s3, n3, b3⟩
      have KI := isOne_any a3 m3 c3 (limbs G) w1 s3 (limbs_rep G).ok
      simp only [one_is] at KI
      have KI' := hide KI
      have HB1 := hide ((unhide HB).trans (b3.mono (unhide HB).size))
      clear KI s3 n3 b3
      go_wp2_with fail
      refine (unhide KI').mono ?_
      rintro _ _ ⟨rfl, hw⟩
      obtain rfl := hw.symm
      clear hw
      go_wp2_with fail
      go_ret
      rw [unhide HR]
      exact ⟨rfl, unhide HB1⟩
section
variable {P : Program} {w : World}
end

def NewS (w w' : World) (xs : List Nat) (e : Ending) : Prop := ∃ a m c, e = .returned (.slice a m c) ∧ Sl w' a m c xs ∧ NewAt w.heap.size a ∧ Below w.heap.size w w'
def NewR (w w' : World) (neg : Bool) (xs ys : List Nat) (v : Value) : Prop :=
 ∃ a1 m1 c1 a2 m2 c2, v = ratV neg a1 m1 c1 a2 m2 c2 ∧ Sl w' a1 m1 c1 xs ∧ Sl w' a2 m2 c2 ys ∧ NewAt w.heap.size a1 ∧ NewAt w.heap.size a2 ∧ Below w.heap.size w w'

structure Box (w wa : World) (neg : Bool) (a1 : Option Addr) (n1 c1 : Nat) (a2 : Option Addr) (n2 c2 : Nat) : Prop where
 bel : Below w.heap.size w wa
 lt : w.heap.size < wa.heap.size
 d0 : wa.cell? ⟨w.heap.size, 0, none⟩ = some (.bool neg)
 d1 : wa.cell? ⟨w.heap.size, 1, none⟩ = some (.slice a1 n1 c1)
 d2 : wa.cell? ⟨w.heap.size, 2, none⟩ = some (.slice a2 n2 c2)

theorem Box.made (w : World) (neg : Bool) (a1 : Option Addr) (n1 c1 : Nat) (a2 : Option Addr) (n2 c2 : Nat) : Box w (ratBox w neg a1 n1 c1 a2 n2 c2) neg a1 n1 c1 a2 n2 c2 :=
 ⟨(Below.refl _ _).alloc (Nat.le_refl _) _, by simp [ratBox], by simp [ratBox], by simp [ratBox], by simp [ratBox]⟩
theorem Box.keep {w wa wb : World} {neg : Bool} {a1 : Option Addr} {n1 c1 : Nat} {a2 : Option Addr} {n2 c2 : Nat} (h : Box w wa neg a1 n1 c1 a2 n2 c2) (k : Below wa.heap.size wa wb) : Box w wb neg a1 n1 c1 a2 n2 c2 := by
 have hc : ∀ i, wb.cell? ⟨w.heap.size, i, none⟩ = wa.cell? ⟨w.heap.size, i, none⟩ := fun i => by unfold World.cell?; simp only; rw [k.block _ h.lt]
 exact ⟨h.bel.trans (k.mono h.bel.size), Nat.lt_of_lt_of_le h.lt k.size, (hc 0).trans h.d0, (hc 1).trans h.d1, (hc 2).trans h.d2⟩

theorem three_set (w1 : World) (R : Nat) (v0 v1 v2 : Value) (h : ∀ i, i < 3 → ∃ v, w1.cell? ⟨R, i, none⟩ = some v) :
  (((w1.setCell ⟨R, 0, none⟩ v0).setCell ⟨R, 1, none⟩ v1).setCell ⟨R, 2, none⟩ v2).cell? ⟨R, 0, none⟩ = some v0 ∧
  (((w1.setCell ⟨R, 0, none⟩ v0).setCell ⟨R, 1, none⟩ v1).setCell ⟨R, 2, none⟩ v2).cell? ⟨R, 1, none⟩ = some v1 ∧
  (((w1.setCell ⟨R, 0, none⟩ v0).setCell ⟨R, 1, none⟩ v1).setCell ⟨R, 2, none⟩ v2).cell? ⟨R, 2, none⟩ = some v2 ∧
  Chg (fun j => j = R) w1 (((w1.setCell ⟨R, 0, none⟩ v0).setCell ⟨R, 1, none⟩ v1).setCell ⟨R, 2, none⟩ v2) := by
 obtain ⟨x0, h0⟩ := h 0 (by decide)
 obtain ⟨x1, h1⟩ := h 1 (by decide)
 obtain ⟨x2, h2⟩ := h 2 (by decide)
 have s0 : (w1.setCell ⟨R, 0, none⟩ v0).cell? ⟨R, 0, none⟩ = some v0 := World.cell?_setCell_same _ _ _ h0
 have s1 : (w1.setCell ⟨R, 0, none⟩ v0).cell? ⟨R, 1, none⟩ = some x1 := by rw [World.cell?_setCell_other _ _ _ _ (by simp)]; exact h1
 have s2 : (w1.setCell ⟨R, 0, none⟩ v0).cell? ⟨R, 2, none⟩ = some x2 := by rw [World.cell?_setCell_other _ _ _ _ (by simp)]; exact h2
 have t1 : ((w1.setCell ⟨R, 0, none⟩ v0).setCell ⟨R, 1, none⟩ v1).cell? ⟨R, 1, none⟩ = some v1 := World.cell?_setCell_same _ _ _ s1
 have t2 : ((w1.setCell ⟨R, 0, none⟩ v0).setCell ⟨R, 1, none⟩ v1).cell? ⟨R, 2, none⟩ = some x2 := by rw [World.cell?_setCell_other _ _ _ _ (by simp)]; exact s2
 refine ⟨?_, ?_, World.cell?_setCell_same _ _ _ t2, ((Chg.of_set (S := fun j => j = R) _ _ _ _ rfl).trans (Chg.of_set (S := fun j => j = R) _ _ _ _ rfl)).trans (Chg.of_set (S := fun j => j = R) _ _ _ _ rfl)⟩
 ·rw [World.cell?_setCell_other _ _ _ _ (by simp), World.cell?_setCell_other _ _ _ _ (by simp)]; exact s0
 ·rw [World.cell?_setCell_other _ _ _ _ (by simp)]; exact t1

structure Out (w : World) (R : Nat) : Prop where
 cells : ∀ i, i < 3 → ∃ v, w.cell? ⟨R, i, none⟩ = some v
 fz : ∀ i, i < 3 → w.frozen? ⟨R, i, none⟩ = false
 lt : R < w.heap.size
theorem Out.made (w : World) : Out (w.alloc (.cells #[.bool false, .slice none 0 0, .slice none 0 0] 71)) w.heap.size := by
 refine ⟨fun i hi => ?_, fun i hi => ?_, by simp⟩
 ·match i, hi with
  | 0, _ => exact ⟨.bool false, by simp⟩
  | 1, _ => exact ⟨.slice none 0 0, by simp⟩
  | 2, _ => exact ⟨.slice none 0 0, by simp⟩
 ·match i, hi with
  | 0, _ => simp
  | 1, _ => simp
  | 2, _ => simp
theorem Out.keep {w w' : World} {R : Nat} (h : Out w R) (k : Below w.heap.size w w') : Out w' R := by
 refine ⟨fun i hi => ?_, fun i hi => ?_, Nat.lt_of_lt_of_le h.lt k.size⟩
 ·obtain ⟨v, hv⟩ := h.cells i hi
  exact ⟨v, by rw [← hv]; unfold World.cell?; simp only; rw [k.block _ h.lt]⟩
 ·rw [← h.fz i hi]; unfold World.frozen?; simp only; rw [k.block _ h.lt]
end Go.Proofs.YtbbicappjicblaaGreatDoor

namespace Go.Proofs.YtbbicappjicblaaGreatDoor
open Go.RowKit Go.Deep
set_option linter.unusedVariables false

end Go.Proofs.YtbbicappjicblaaGreatDoor

namespace Go.Proofs.YtbbicappjicblaaGreatDoor
open Go.RowKit Go.Deep
set_option linter.unusedVariables false

end Go.Proofs.YtbbicappjicblaaGreatDoor

namespace Go.Proofs.YtbbicappjicblaaGreatDoor
open Go.RowKit Go.Deep
set_option linter.unusedVariables false

end Go.Proofs.YtbbicappjicblaaGreatDoor
namespace Go.Proofs.YtbbicappjicblaaGreatDoor
open Go.RowKit Go.Deep
set_option linter.unusedVariables false
structure Trimmed (ps qs : List Pc) (m : Nat) : Prop where
 le : m ≤ ps.length
 eq : qs = ps.take m
 zero : ∀ i p, m ≤ i → ps[i]? = some p → p.xs = []
 top : m = 0 ∨ ∃ p, ps[m - 1]? = some p ∧ p.xs ≠ []

theorem SlL.take {w : World} {a : Option Addr} {n c : Nat} {ps : List Pc} (h : SlL w a n c ps) {m : Nat} (hm : m ≤ n) : SlL w a m c (ps.take m) := by
 have hl := h.len
 refine ⟨by rw [List.length_take]; omega, Nat.le_trans hm h.le, ?_, fun p hp => h.each p (List.mem_of_mem_take hp)⟩
 rcases h.cells with e | ⟨b, off, e, hc⟩
 ·left; rw [e]; simp
 ·right
  refine ⟨b, off, e, fun i p hp => hc i p ?_⟩
  rw [List.getElem?_take] at hp
  split at hp
  ·exact hp
  ·cases hp
def dLimbs : Nat := 1024
def wD : Nat := 4294967296 ^ dLimbs
def wv : List Pc → Nat
 | [] => 0
 | p :: ps => val p.xs + wD * wv ps

structure Wide (w : World) (a : Option Addr) (n c : Nat) (v : Nat) (ps : List Pc) : Prop where
 sl : SlL w a n c ps
 norm : ∀ p ∈ ps, Norm p.xs
 len : ∀ p ∈ ps, p.n ≤ dLimbs
 top : ps = [] ∨ ∃ p, ps.getLast? = some p ∧ p.xs ≠ []
 val : wv ps = v

theorem Wide.below {w w' : World} {a : Option Addr} {n c v : Nat} {ps : List Pc} (h : Wide w a n c v ps) (k : Below w.heap.size w w') : Wide w' a n c v ps := ⟨h.sl.below k, h.norm, h.len, h.top, h.val⟩
end Go.Proofs.YtbbicappjicblaaGreatDoor

namespace Go.Proofs.YtbbicappjicblaaGreatDoor
open Go.RowKit Go.Deep
set_option linter.unusedVariables false

end Go.Proofs.YtbbicappjicblaaGreatDoor

namespace Go.Proofs.YtbbicappjicblaaGreatDoor
open Go.RowKit Go.Deep
set_option linter.unusedVariables false

end Go.Proofs.YtbbicappjicblaaGreatDoor
namespace Go.Proofs.YtbbicappjicblaaGreatDoor
open Go.RowKit Go.Deep
set_option linter.unusedVariables false
theorem wv_zero : ∀ (l : List Pc), (∀ p ∈ l, p.xs = []) → wv l = 0
 | [], _ => rfl
 | p :: l, h => by
  simp only [wv]
  rw [h p (by simp), wv_zero l (fun q hq => h q (by simp [hq])), Nat.mul_zero]
  rfl
theorem wv_append (l m : List Pc) : wv (l ++ m) = wv l + wD ^ l.length * wv m := by
 induction l with
 | nil => simp [wv]
 | cons q l ih =>
  simp only [List.cons_append, wv, ih, List.length_cons, Nat.pow_succ, Nat.mul_add]
  rw [Nat.add_assoc, Nat.mul_comm (wD ^ l.length) wD, Nat.mul_assoc]
theorem Trimmed.wv {ps qs : List Pc} {m : Nat} (h : Trimmed ps qs m) : wv qs = Go.Proofs.YtbbicappjicblaaGreatDoor.wv ps := by
 have e : ps = ps.take m ++ ps.drop m := (List.take_append_drop m ps).symm
 rw [h.eq]
 conv => rhs; rw [e]
 rw [wv_append, wv_zero (ps.drop m) (fun p hp => ?_), Nat.mul_zero, Nat.add_zero]
 obtain ⟨i, hi⟩ := List.mem_iff_getElem?.1 hp
 rw [List.getElem?_drop] at hi
 exact h.zero (m + i) p (by omega) hi
def slV (p : Pc) : Value := .slice p.a p.n p.c
structure Dig (w : World) (g : Nat) (p : Pc) : Prop where
 sl : Sl w p.a p.n p.c p.xs
 ok : Ok p.xs
 norm : Norm p.xs
 len : p.n ≤ dLimbs
 off : p.xs ≠ [] → ∀ x, p.a = some x → x.block ≠ g
theorem Dig.below {w w' : World} {g : Nat} {p : Pc} (h : Dig w g p) (k : Below w.heap.size w w') : Dig w' g p := ⟨h.sl.below k, h.ok, h.norm, h.len, h.off⟩
theorem chg_grownR {w w' : World} {g : Nat} (h : w.grownBy w' (some g)) : Chg (fun k => k = g) w w' :=
 ⟨h.os, h.tape, h.output, h.size, fun k hk hs => h.block k hk (fun e => hs (by simpa using e))⟩
theorem Dig.grown {w w' : World} {g : Nat} {p : Pc} (h : Dig w g p) (k : w.grownBy w' (some g)) : Dig w' g p :=
 ⟨h.sl.chg (chg_grownR k) (fun x hx hn => h.off hn x hx), h.ok, h.norm, h.len, h.off⟩
structure RowD (w wr : World) (g cap : Nat) (acc : List Pc) : Prop where
 own : wr.ownsRow w.heap.size 69 1 (.slice (some ⟨g, 0, none⟩) acc.length cap) acc.length (acc.map slV)
 each : ∀ p ∈ acc, Dig wr g p
 bel : Below w.heap.size w wr
 lt : g < wr.heap.size
 ge : w.heap.size ≤ g
theorem own_belR {w w2 : World} {B : Nat} {e : TypeId} {sz : Nat} {v : Value} {n : Nat} {xs : List Value} (h : w.ownsRow B e sz v n xs) (hb : Below w.heap.size w w2) : w2.ownsRow B e sz v n xs := by
 rcases h with ⟨h1, h2 | ⟨g, cap, cur, e1, q1, q2, q3⟩⟩
 ·exact ⟨h1, .inl h2⟩
 ·refine ⟨h1, .inr ⟨g, cap, cur, e1, q1, ?_, q3⟩⟩
  rw [hb.block g (Array.getElem?_eq_some_iff.1 q2).1]
  exact q2
theorem RowD.below {w wr w2 : World} {g cap : Nat} {acc : List Pc} (h : RowD w wr g cap acc) (hb : Below wr.heap.size wr w2) : RowD w w2 g cap acc :=
 ⟨own_belR h.own hb, fun p hp => (h.each p hp).below hb, h.bel.trans (hb.mono h.bel.size), Nat.lt_of_lt_of_le h.lt hb.size, h.ge⟩
theorem RowD.app {w wr w2 : World} {g cap : Nat} {acc : List Pc} {p : Pc} {o : Obj} (h : RowD w wr g cap acc) (hp : Dig wr g p) (hown : w2.ownsRow w.heap.size 69 1 (.slice (some ⟨g, 0, none⟩) (acc.length + 1) cap) (acc.length + 1) (acc.map slV ++ [slV p])) (hg : (wr.alloc o).grownBy w2 (some g)) : RowD w w2 g cap (acc ++ [p]) := by
 have hal := h.below ((Below.refl wr.heap.size wr).alloc (Nat.le_refl _) o)
 refine ⟨?_, fun q hq => ?_, ?_, Nat.lt_of_lt_of_le hal.lt hg.size, h.ge⟩
 ·simpa using hown
 ·rcases List.mem_append.1 hq with c | c
  ·exact (hal.each q c).grown hg
  ·rw [List.mem_singleton.1 c]
   exact (hp.below ((Below.refl wr.heap.size wr).alloc (Nat.le_refl _) o)).grown hg
 ·have hc := chg_grownR hg
  exact ⟨hc.os.trans hal.bel.os, hc.tape.trans hal.bel.tape, hc.output.trans hal.bel.output, Nat.le_trans hal.bel.size hc.size, fun k hk => by
   have hge := h.ge
   rw [hc.block k (Nat.lt_of_lt_of_le hk hal.bel.size) (by omega)]
   exact hal.bel.block k hk⟩
theorem RowD.sl {w wr : World} {g cap : Nat} {acc : List Pc} (h : RowD w wr g cap acc) : SlL wr (some ⟨g, 0, none⟩) acc.length cap acc := by
 rcases h.own.2 with ⟨e, _⟩ | ⟨g', cap', cur, e, q1, q2, q3, q4, q5, q6⟩
 ·cases e
 ·simp only [Value.slice.injEq, Option.some.injEq, Addr.mk.injEq, and_true, true_and] at e
  obtain ⟨rfl, rfl⟩ := e
  refine ⟨rfl, q3, .inr ⟨g, 0, rfl, fun i p hp => ?_⟩, fun p hp => ⟨(h.each p hp).sl, (h.each p hp).ok⟩⟩
  have hi : i < acc.length := (List.getElem?_eq_some_iff.1 hp).1
  have h2 : (acc.map slV)[i]? = some (slV p) := by rw [List.getElem?_map, hp]; rfl
  rw [← q6, Nat.mul_one, List.getElem?_take_of_lt hi] at h2
  simp only [World.cell?, q2, Nat.zero_add]
  simpa [slV] using h2
end Go.Proofs.YtbbicappjicblaaGreatDoor

namespace Go.Proofs.YtbbicappjicblaaGreatDoor
open Go.RowKit Go.Deep
set_option linter.unusedVariables false

end Go.Proofs.YtbbicappjicblaaGreatDoor

namespace Go.Proofs.YtbbicappjicblaaGreatDoor
open Go.RowKit Go.Deep
set_option linter.unusedVariables false

end Go.Proofs.YtbbicappjicblaaGreatDoor

namespace Go.Proofs.YtbbicappjicblaaGreatDoor
open Go.RowKit Go.Deep
set_option linter.unusedVariables false

end Go.Proofs.YtbbicappjicblaaGreatDoor
namespace Go.Proofs.YtbbicappjicblaaGreatDoor
open Go.RowKit Go.Deep
set_option linter.unusedVariables false
theorem RowD.put {w wr : World} {g cap i : Nat} {acc : List Pc} {p : Pc} (h : RowD w wr g cap acc) (hi : i < acc.length) (hp : Dig wr g p) : RowD w (wr.setCell ⟨g, i, none⟩ (slV p)) g cap (acc.set i p) := by
 have hc : Chg (fun k => k = g) wr (wr.setCell ⟨g, i, none⟩ (slV p)) := Chg.of_set (S := fun k => k = g) _ _ _ _ rfl
 have dk : ∀ q, Dig wr g q → Dig (wr.setCell ⟨g, i, none⟩ (slV p)) g q := fun q hq => ⟨hq.sl.chg hc (fun x hx hn => hq.off hn x hx), hq.ok, hq.norm, hq.len, hq.off⟩
 refine ⟨?_, fun q hq => ?_, h.bel.setCell (p := ⟨g, i, none⟩) h.ge _, by simpa using h.lt, h.ge⟩
 ·rcases h.own with ⟨e0, ⟨e, _⟩ | ⟨g', cap', cur, e, q1, q2, q3, q4, q5, q6⟩⟩
  ·cases e
  ·simp only [Value.slice.injEq, Option.some.injEq, Addr.mk.injEq, and_true, true_and] at e
   obtain ⟨rfl, rfl⟩ := e
   refine ⟨by simp, .inr ⟨g, cap, cur.setIfInBounds i (slV p), by simp, q1, ?_, by simpa using q3, q4, by simpa using q5, ?_⟩⟩
   ·exact heap_setCell_same _ _ _ _ _ _ q2
   ·rw [List.length_set, Array.toList_setIfInBounds, List.take_set, q6]
    simp
 ·rcases List.mem_or_eq_of_mem_set hq with c | c
  ·exact dk q (h.each q c)
  ·rw [c]; exact dk p hp
theorem RowD.at {w wr : World} {g cap i : Nat} {acc : List Pc} (h : RowD w wr g cap acc) (hi : i < acc.length) : (∃ v, wr.cell? ⟨g, i, none⟩ = some v) ∧ wr.frozen? ⟨g, i, none⟩ = false := by
 rcases h.own with ⟨e0, ⟨e, _⟩ | ⟨g', cap', cur, e, q1, q2, q3, q4, q5, q6⟩⟩
 ·cases e
 ·simp only [Value.slice.injEq, Option.some.injEq, Addr.mk.injEq, and_true, true_and] at e
  obtain ⟨rfl, rfl⟩ := e
  have hc : i < cur.size := by omega
  exact ⟨⟨cur[i], by simp [World.cell?, q2, hc]⟩, by simp [World.frozen?, q2]⟩
end Go.Proofs.YtbbicappjicblaaGreatDoor

namespace Go.Proofs.YtbbicappjicblaaGreatDoor
open Go.RowKit Go.Deep
set_option linter.unusedVariables false

end Go.Proofs.YtbbicappjicblaaGreatDoor
namespace Go.Proofs.YtbbicappjicblaaGreatDoor
open Go.RowKit Go.Deep
set_option linter.unusedVariables false
structure Ext (w0 : World) where
 w : World
 bel : Below w0.heap.size w0 w
theorem Ext.ne (w : World) : Nonempty (Ext w) := ⟨⟨w, Below.refl _ _⟩⟩
section
variable {P : Program}
theorem wp_region_ext {id : Nat} {Q : Exit → Act → World → Prop} {a : Act} {w : World} {l : List Oper} (hm : P.follows .mixedOrders = true) (hB : Region.lexB .any l.toArray = true)
  (h : wpQuiet P l.toArray (fun w' => ∃ x : Ext w, w' = x.w) (fun a' => ∀ w', (∃ x : Ext w, w' = x.w) → Q .normal a' w') l a) : (Code.region id l.toArray true).wp P Q a w :=
 wp_region_quiet (C := fun w' => ∃ x : Ext w, w' = x.w) hm hB ⟨⟨w.drew, (Below.refl _ _).drew⟩, rfl⟩ (by simpa using h)
end
theorem Ext.call {P : Program} {f : FuncId} {args : Array Value} {w : World} {x : Ext w} {v : Value} {R : Ending → World → Prop} (h : Calls P f args x.w R) (hR : ∀ e w', R e w' → e = .returned v ∧ Below x.w.heap.size x.w w') :
  Calls P f args x.w fun e w'' => e = .returned v ∧ ∃ y : Ext w, w'' = y.w :=
 h.mono fun e w' hr => ⟨(hR e w' hr).1, ⟨⟨w', x.bel.trans ((hR e w' hr).2.mono x.bel.size)⟩, rfl⟩⟩
theorem Ext.cell {w : World} (x : Ext w) {p : Addr} {v : Value} (h : w.cell? p = some v) : x.w.cell? p = some v := (x.bel.cell (p := p) (World.block_lt_of_cell? _ _ h)).trans h
end Go.Proofs.YtbbicappjicblaaGreatDoor

namespace Go.Proofs.YtbbicappjicblaaGreatDoor
open Go.RowKit Go.Deep
set_option linter.unusedVariables false

end Go.Proofs.YtbbicappjicblaaGreatDoor
namespace Go.Proofs.YtbbicappjicblaaGreatDoor
open Go.RowKit Go.Deep
set_option linter.unusedVariables false
theorem MayR.parts {g : Bool} {x y : List Nat} (h : MayR g x y = true) : MayL x = true ∧ MayL y = true ∧ y ≠ [] ∧ (g = true → x ≠ []) ∧ Nat.gcd (val x) (val y) = 1 := by
 unfold MayR at h
 simp only [Bool.and_eq_true, Bool.not_eq_true', decide_eq_false_iff_not, decide_eq_true_eq] at h
 obtain ⟨⟨⟨⟨h1, h2⟩, h3⟩, h4⟩, h5⟩ := h
 refine ⟨h1, h2, h3, fun hg hx => ?_, h5⟩
 rw [hg, hx] at h4
 simp at h4
end Go.Proofs.YtbbicappjicblaaGreatDoor

namespace Go.Proofs.YtbbicappjicblaaGreatDoor
open Go.RowKit Go.Deep
set_option linter.unusedVariables false

end Go.Proofs.YtbbicappjicblaaGreatDoor
