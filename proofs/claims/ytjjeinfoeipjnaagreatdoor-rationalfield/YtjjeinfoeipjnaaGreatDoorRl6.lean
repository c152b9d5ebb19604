/-
  rational.Inv: contract.
-/
import Derived.Test.YtjjeinfoeipjnaaGreatDoorRa8
import Derived.Test.YtjjeinfoeipjnaaGreatDoorRl5
import Derived.Test.YtjjeinfoeipjnaaGreatDoorWjc
namespace Go.Proofs.YtjjeinfoeipjnaaGreatDoor
open Go.RowKit Go.Deep
set_option linter.unusedVariables false

/-- What Inv answers. -/
def invL (neg : Bool) (xs ys : List Nat) : MkL := if MayR neg xs ys = true then (if xs = [] then ⟨false, [], [], 3⟩ else ⟨neg, ys, xs, 0⟩) else ⟨false, [], [], 40⟩

set_option maxHeartbeats 8000000 in
/-- rational.Inv. -/
theorem ratInv_any (neg : Bool) (a1 a2 : Option Addr) (n1 c1 n2 c2 : Nat) (xs ys : List Nat) (w : World) (h1 : Sl w a1 n1 c1 xs) (h2 : Sl w a2 n2 c2 ys) (ox : Ok xs) (oy : Ok ys) (hT : Tab64 w) :
    Calls Tryz.prog 11 #[ratV neg a1 n1 c1 a2 n2 c2] w fun e w' => ResR w w' (invL neg xs ys).neg (invL neg xs ys).num (invL neg xs ys).den (invL neg xs ys).er e := by
  have bx := Box.made w neg a1 n1 c1 a2 n2 c2
  obtain ⟨wa, hwa⟩ : ∃ wa, ratBox w neg a1 n1 c1 a2 n2 c2 = wa := ⟨_, rfl⟩
  rw [hwa] at bx
  unfold ratBox at hwa
  obtain ⟨wb, hwb⟩ : ∃ wb, wa.alloc (.cells #[.bool false, .slice none 0 0, .slice none 0 0] 25) = wb := ⟨_, rfl⟩
  have hbb : Below wa.heap.size wa wb := by rw [← hwb]; exact (Below.refl _ _).alloc (Nat.le_refl _) _
  have hO : Out wb wa.heap.size := by rw [← hwb]; exact Out.made wa
  have hlt := bx.lt
  have hX := bx.keep hbb
  have d0 := hX.d0
  have d1 := hX.d1
  have d2 := hX.d2
  have KM := ratMay_any neg a1 a2 n1 c1 n2 c2 xs ys wb (h1.below hX.bel) (h2.below hX.bel) ox oy (hT.below hX.bel)
  have HX := hide hX
  have HO := hide hO
  have H1 := hide h1
  have H2 := hide h2
  have HL := hide (And.intro h1.len h2.len)
  clear bx h1 h2 hT hbb hO hX
  cases hm : MayR neg xs ys
  · rw [hm] at KM
    have KM' := hide KM
    have HR := hide (show invL neg xs ys = ⟨false, [], [], 40⟩ from by simp [invL, hm])
    clear KM hm
    unfold ratV at KM' ⊢
    go_enter Tryz.func11, Tryz.ntmps11
    go_wp2_with fail
    refine (unhide KM').mono ?_
    rintro _ w1 ⟨rfl, b1⟩
    have hO1 := (unhide HO).keep b1
    obtain ⟨x0, q0⟩ := hO1.cells 0 (by decide)
    obtain ⟨x1, q1⟩ := hO1.cells 1 (by decide)
    obtain ⟨x2, q2⟩ := hO1.cells 2 (by decide)
    have r0 := hO1.fz 0 (by decide)
    have r1 := hO1.fz 1 (by decide)
    have r2 := hO1.fz 2 (by decide)
    have H4 := hide (three_set w1 wa.heap.size (.bool false) (.slice none 0 0) (.slice none 0 0) hO1.cells)
    have HB := hide ((unhide HX).bel.trans (b1.mono (unhide HX).bel.size))
    clear hO1 b1 KM'
    go_wp2_with fail
    obtain ⟨p0, p1, p2, c4⟩ := unhide H4
    generalize ((w1.setCell ⟨wa.heap.size, 0, none⟩ (.bool false)).setCell ⟨wa.heap.size, 1, none⟩ (.slice none 0 0)).setCell ⟨wa.heap.size, 2, none⟩ (.slice none 0 0) = wf at *
    refine bodyPost_ret (by simp [results, Tryz.results11, go_sem, p0, p1, p2]; try rfl) rfl ?_
    rw [unhide HR]
    exact ⟨_, rfl, none, 0, 0, none, 0, 0, rfl, sl_nil _, sl_nil _, newAt_nil _, newAt_nil _, (unhide HB).trans (c4.below (unhide HB).size (fun k hk => by omega))⟩
  · rw [hm] at KM
    have KM' := hide KM
    have hmm : MayL xs = true ∧ MayL ys = true := by
      have hm' := hm
      unfold MayR at hm'
      simp only [Bool.and_eq_true] at hm'
      exact ⟨hm'.1.1.1.1, hm'.1.1.1.2⟩
    have hn1 : n1 ≤ 1000000 := by have := MayL.len hmm.1; have := (unhide HL).1; omega
    have hn2 : n2 ≤ 1000000 := by have := MayL.len hmm.2; have := (unhide HL).2; omega
    have KZ := fun wx => isZero_any neg a1 a2 n1 c1 n2 c2 wx
    by_cases hx : xs = []
    · have HR := hide (show invL neg xs ys = ⟨false, [], [], 3⟩ from by unfold invL; rw [if_pos hm, if_pos hx])
      have hn0 : n1 = 0 := by rw [← (unhide HL).1, hx]; rfl
      subst hn0
      simp only [decide_true] at KZ
      have KZ' := hide KZ
      clear KM KZ hm hmm hx
      unfold ratV at KM' KZ' ⊢
      go_enter Tryz.func11, Tryz.ntmps11
      go_wp2_with fail
      refine (unhide KM').mono ?_
      rintro _ w1 ⟨rfl, b1⟩
      have hX1 := (unhide HX).keep b1
      have g0 := hX1.d0
      have g1 := hX1.d1
      have g2 := hX1.d2
      have HX1 := hide hX1
      have HO1 := hide ((unhide HO).keep b1)
      clear b1 hX1 KM'
      go_wp2_with fail
      refine (unhide KZ' w1).mono ?_
      rintro _ w2 ⟨rfl, b2⟩
      have hO1 := (unhide HO1).keep b2
      obtain ⟨x0, q0⟩ := hO1.cells 0 (by decide)
      obtain ⟨x1, q1⟩ := hO1.cells 1 (by decide)
      obtain ⟨x2, q2⟩ := hO1.cells 2 (by decide)
      have r0 := hO1.fz 0 (by decide)
      have r1 := hO1.fz 1 (by decide)
      have r2 := hO1.fz 2 (by decide)
      have H4 := hide (three_set w2 wa.heap.size (.bool false) (.slice none 0 0) (.slice none 0 0) hO1.cells)
      have HB := hide ((unhide HX1).bel.trans (b2.mono (unhide HX1).bel.size))
      clear hO1 b2 KZ'
      go_wp2_with fail
      obtain ⟨p0, p1, p2, c4⟩ := unhide H4
      generalize ((w2.setCell ⟨wa.heap.size, 0, none⟩ (.bool false)).setCell ⟨wa.heap.size, 1, none⟩ (.slice none 0 0)).setCell ⟨wa.heap.size, 2, none⟩ (.slice none 0 0) = wf at *
      refine bodyPost_ret (by simp [results, Tryz.results11, go_sem, p0, p1, p2]; try rfl) rfl ?_
      rw [unhide HR]
      exact ⟨_, rfl, none, 0, 0, none, 0, 0, rfl, sl_nil _, sl_nil _, newAt_nil _, newAt_nil _, (unhide HB).trans (c4.below (unhide HB).size (fun k hk => by omega))⟩
    · have HR := hide (show invL neg xs ys = ⟨neg, ys, xs, 0⟩ from by simp [invL, hm, hx])
      have hn0 : ¬ n1 = 0 := by intro e; have := (unhide HL).1; rw [e] at this; exact hx (List.eq_nil_of_length_eq_zero this)
      have KZ' := hide (fun wx => by have := KZ wx; rw [decide_eq_false hn0] at this; exact this)
      clear KM KZ hm hmm hx hn0
      unfold ratV at KM' KZ' ⊢
      go_enter Tryz.func11, Tryz.ntmps11
      go_wp2_with fail
      refine (unhide KM').mono ?_
      rintro _ w1 ⟨rfl, b1⟩
      have hX1 := (unhide HX).keep b1
      have g0 := hX1.d0
      have g1 := hX1.d1
      have g2 := hX1.d2
      have HX1 := hide hX1
      have HO1 := hide ((unhide HO).keep b1)
      clear b1 hX1 KM'
      go_wp2_with fail
      refine (unhide KZ' w1).mono ?_
      rintro _ w2 ⟨rfl, b2⟩
      have hX2 := ((unhide HX1).keep b2).keep (Below.refl w2.heap.size w2).drew
      have e0 := hX2.d0
      have e1 := hX2.d1
      have e2 := hX2.d2
      have KC1 := hide (sclone_any a2 n2 c2 ys w2.drew ((unhide H2).below hX2.bel) hn2)
      have HX2 := hide hX2
      have HO2 := hide (((unhide HO1).keep b2).keep (Below.refl w2.heap.size w2).drew)
      clear b2 hX2 KZ' g0 g1 g2 d0 d1 d2
      go_wp2_with fail
      go_region_with (first
        | (go_at_call 32
           refine (unhide KC1).mono ?_
           clear KC1
           rintro _ w3 ⟨aN, mN, cN, rfl, sN, nN, bN⟩
           have hX3 := (unhide HX2).keep bN
           have f0 := hX3.d0
           have f1 := hX3.d1
           have f2 := hX3.d2
           have KC2 := hide (sclone_any a1 n1 c1 xs w3 ((unhide H1).below hX3.bel) hn1)
           have HN := hide (And.intro sN (And.intro nN bN))
           have HX3 := hide hX3
           clear hX3 sN nN bN)
        | (go_at_call 32
           refine (unhide KC2).mono ?_
           clear KC2
           rintro _ w4 ⟨aD, mD, cD, rfl, sD, nD, bD⟩
           have hX4 := (unhide HX3).keep bD
           have k0 := hX4.d0
           have hO4 := ((unhide HO2).keep (unhide HN).2.2).keep bD
           obtain ⟨x0, q0⟩ := hO4.cells 0 (by decide)
           obtain ⟨x1, q1⟩ := hO4.cells 1 (by decide)
           obtain ⟨x2, q2⟩ := hO4.cells 2 (by decide)
           have r0 := hO4.fz 0 (by decide)
           have r1 := hO4.fz 1 (by decide)
           have r2 := hO4.fz 2 (by decide)
           have H4 := hide (three_set w4 wa.heap.size (.bool neg) (.slice aN mN cN) (.slice aD mD cD) hO4.cells)
           have HD := hide (And.intro sD (And.intro nD bD))
           clear sD nD bD hO4 hX4))
      all_goals
        go_wp2_with fail
        obtain ⟨p0, p1, p2, c4⟩ := unhide H4
        generalize ((w4.setCell ⟨wa.heap.size, 0, none⟩ (.bool neg)).setCell ⟨wa.heap.size, 1, none⟩ (.slice aN mN cN)).setCell ⟨wa.heap.size, 2, none⟩ (.slice aD mD cD) = wf at *
        refine bodyPost_ret (by simp [results, Tryz.results11, go_sem, p0, p1, p2]; try rfl) rfl ?_
        rw [unhide HR]
        obtain ⟨sN, nN, bN⟩ := unhide HN
        obtain ⟨sD, nD, bD⟩ := unhide HD
        obtain ⟨y1, y2, y3, y4, y5⟩ := ratMade_new (unhide HX2).bel (Nat.le_of_lt hlt) (unhide HO2).lt sN nN bN sD nD bD (Below.refl _ _) c4
        exact ⟨_, rfl, aN, mN, cN, aD, mD, cD, rfl, y1, y2, y3, y4, y5⟩
end Go.Proofs.YtjjeinfoeipjnaaGreatDoor

namespace Go.Proofs.YtjjeinfoeipjnaaGreatDoor
open Go.RowKit Go.Deep
set_option linter.unusedVariables false

/-- 1 or -1. -/
def eI (g : Bool) : Int := if g then -1 else 1
theorem nI_eI (g : Bool) (v : Nat) : nI g v = eI g * (v : Int) := by cases g <;> simp [nI, eI]
theorem eI_sq (g : Bool) : eI g * eI g = 1 := by cases g <;> rfl
theorem eI_two (g : Bool) (k : Nat) : eI g ^ k * eI g ^ k = 1 := by
  induction k with
  | zero => simp
  | succ k ih =>
    rw [Int.pow_succ]
    have : eI g ^ k * eI g * (eI g ^ k * eI g) = (eI g ^ k * eI g ^ k) * (eI g * eI g) := by ac_rfl
    rw [this, ih, eI_sq]
    rfl
theorem nI_pow (g : Bool) (v k : Nat) : nI (g && decide (k % 2 = 1)) (v ^ k) = nI g v ^ k := by
  rw [nI_eI g v, Int.mul_pow]
  have h : ∀ k, eI g ^ k = if g && decide (k % 2 = 1) then -1 else 1 := by
    intro k
    induction k with
    | zero => cases g <;> rfl
    | succ k ih =>
      rw [Int.pow_succ, ih]
      cases g
      · rfl
      · by_cases hk : k % 2 = 1
        · have : ¬ (k + 1) % 2 = 1 := by omega
          simp [hk, this, eI]
        · have : (k + 1) % 2 = 1 := by omega
          simp [hk, this, eI]
  rw [h k]
  unfold nI
  split <;> simp
/-- Above and below of a power, with its sign. -/
def pI (g : Bool) (X Y : Nat) (k : Int) : Int := if k < 0 then nI g Y ^ (-k).toNat else nI g X ^ k.toNat
def qN (X Y : Nat) (k : Int) : Nat := if k < 0 then X ^ (-k).toNat else Y ^ k.toNat
theorem pI_pos (g : Bool) (X Y k : Nat) : pI g X Y (k : Int) = nI g X ^ k := by unfold pI; rw [if_neg (by omega), Int.toNat_natCast]
theorem qN_pos (X Y k : Nat) : qN X Y (k : Int) = Y ^ k := by unfold qN; rw [if_neg (by omega), Int.toNat_natCast]
theorem pI_neg (g : Bool) (X Y k : Nat) : pI g X Y (-((k + 1 : Nat) : Int)) = nI g Y ^ (k + 1) := by unfold pI; rw [if_pos (by omega), Int.neg_neg, Int.toNat_natCast]
theorem qN_neg (X Y k : Nat) : qN X Y (-((k + 1 : Nat) : Int)) = X ^ (k + 1) := by unfold qN; rw [if_pos (by omega), Int.neg_neg, Int.toNat_natCast]
theorem swap_pow (g : Bool) (X Y k : Nat) : nI g X ^ k * nI g Y ^ k = (X : Int) ^ k * (Y : Int) ^ k := by
  rw [nI_eI, nI_eI, Int.mul_pow, Int.mul_pow]
  have : eI g ^ k * (X : Int) ^ k * (eI g ^ k * (Y : Int) ^ k) = (eI g ^ k * eI g ^ k) * ((X : Int) ^ k * (Y : Int) ^ k) := by ac_rfl
  rw [this, eI_two, Int.one_mul]
theorem mixed (g : Bool) (X Y : Nat) (m n : Nat) : pI g X Y ((m : Int) - (n : Int)) * ((Y : Int) ^ m * (X : Int) ^ n) = nI g X ^ m * nI g Y ^ n * (qN X Y ((m : Int) - (n : Int)) : Int) := by
  rcases Nat.lt_or_ge m n with h | h
  · obtain ⟨j, rfl⟩ : ∃ j, n = m + (j + 1) := ⟨n - m - 1, by omega⟩
    have e : (m : Int) - ((m + (j + 1) : Nat) : Int) = -((j + 1 : Nat) : Int) := by omega
    rw [e, pI_neg, qN_neg]
    push_cast
    have e1 := Int.pow_add (X : Int) m (j + 1)
    have e2 := Int.pow_add (nI g Y) m (j + 1)
    rw [e1, e2, ← Int.mul_assoc (nI g X ^ m), swap_pow]
    ac_rfl
  · obtain ⟨j, rfl⟩ : ∃ j, m = n + j := ⟨m - n, by omega⟩
    have e : ((n + j : Nat) : Int) - (n : Int) = (j : Int) := by omega
    rw [e, pI_pos, qN_pos]
    push_cast
    rw [Int.pow_add, Int.pow_add]
    have := swap_pow g X Y n
    have e2 : nI g X ^ n * nI g X ^ j * nI g Y ^ n * (Y : Int) ^ j = (nI g X ^ n * nI g Y ^ n) * (nI g X ^ j * (Y : Int) ^ j) := by ac_rfl
    rw [e2, this]
    ac_rfl
/-- Powers add up. -/
theorem pow_adds (g : Bool) (X Y : Nat) (m n : Int) : pI g X Y (m + n) * ((qN X Y m : Int) * (qN X Y n : Int)) = pI g X Y m * pI g X Y n * (qN X Y (m + n) : Int) := by
  have hm : (∃ k : Nat, m = (k : Int)) ∨ (∃ k : Nat, m = -((k + 1 : Nat) : Int)) := by
    rcases Int.lt_or_le m 0 with h | h
    · exact .inr ⟨(-m - 1).toNat, by omega⟩
    · exact .inl ⟨m.toNat, by omega⟩
  have hn : (∃ k : Nat, n = (k : Int)) ∨ (∃ k : Nat, n = -((k + 1 : Nat) : Int)) := by
    rcases Int.lt_or_le n 0 with h | h
    · exact .inr ⟨(-n - 1).toNat, by omega⟩
    · exact .inl ⟨n.toNat, by omega⟩
  rcases hm with ⟨i, rfl⟩ | ⟨i, rfl⟩ <;> rcases hn with ⟨j, rfl⟩ | ⟨j, rfl⟩
  · have e : (i : Int) + (j : Int) = ((i + j : Nat) : Int) := by omega
    rw [e, pI_pos, pI_pos, pI_pos, qN_pos, qN_pos, qN_pos]
    push_cast
    rw [Int.pow_add, Int.pow_add]
  · have k := mixed g X Y i (j + 1)
    have e : (i : Int) + -((j + 1 : Nat) : Int) = (i : Int) - ((j + 1 : Nat) : Int) := by omega
    rw [e, pI_pos, pI_neg, qN_pos, qN_neg]
    push_cast
    push_cast at k
    exact k
  · have k := mixed g X Y j (i + 1)
    have e : -((i + 1 : Nat) : Int) + (j : Int) = (j : Int) - ((i + 1 : Nat) : Int) := by omega
    rw [e, pI_pos, pI_neg, qN_pos, qN_neg]
    push_cast
    push_cast at k
    rw [Int.mul_comm (nI g Y ^ (i + 1)), ← k, Int.mul_comm ((X : Int) ^ (i + 1))]
  · have e : -((i + 1 : Nat) : Int) + -((j + 1 : Nat) : Int) = -(((i + j + 1) + 1 : Nat) : Int) := by omega
    rw [e, pI_neg, pI_neg, pI_neg, qN_neg, qN_neg, qN_neg]
    have e2 : i + j + 1 + 1 = (i + 1) + (j + 1) := by omega
    rw [e2]
    push_cast
    have e3 := Int.pow_add (X : Int) (i + 1) (j + 1)
    have e4 := Int.pow_add (nI g Y) (i + 1) (j + 1)
    rw [e3, e4]
theorem cop_pow {a b : Nat} (h : Nat.gcd a b = 1) (k : Nat) : Nat.gcd (a ^ k) (b ^ k) = 1 := Nat.Coprime.pow k k h

theorem pwF_lists {g : Bool} {X Y : List Nat} {k : Nat} : Ok (pwF g X Y k).1.2.1 ∧ Ok (pwF g X Y k).1.2.2 := by
  unfold pwF
  split
  · exact ⟨Ok.nil, Ok.nil⟩
  · exact ⟨Ok.limbs _, Ok.limbs _⟩
theorem powF_lists {g : Bool} {x y : List Nat} {k : Int} : Ok (PowF g x y k).1.2.1 ∧ Ok (PowF g x y k).1.2.2 := by
  unfold PowF
  split
  · split
    · exact ⟨Ok.nil, Ok.nil⟩
    · split
      · split
        · exact ⟨Ok.nil, Ok.nil⟩
        · exact pwF_lists
      · exact pwF_lists
  · exact ⟨Ok.nil, Ok.nil⟩
theorem invL_lists {g : Bool} {x y : List Nat} (ox : Ok x) (oy : Ok y) : Ok (invL g x y).num ∧ Ok (invL g x y).den := by
  unfold invL
  split
  · split
    · exact ⟨Ok.nil, Ok.nil⟩
    · exact ⟨oy, ox⟩
  · exact ⟨Ok.nil, Ok.nil⟩
/-- Where Pow answers: lowest terms of the power. -/
theorem powF_ok {g : Bool} {x y : List Nat} {k : Int} (h : MayR g x y = true) (h0 : (PowF g x y k).2 = 0) :
    ∃ g' N D, PowF g x y k = ((g', limbs N, limbs D), 0) ∧ MayR g' (limbs N) (limbs D) = true ∧ nI g' N = pI g (val x) (val y) k ∧ D = qN (val x) (val y) k ∧ -1024 ≤ k ∧ k ≤ 1024 ∧ (k < 0 → x ≠ []) := by
  have hp := mayR_pos h
  have hl := (MayR.parts h).2.2.2.2
  unfold PowF at h0 ⊢
  rw [if_pos h] at h0 ⊢
  split at h0
  · simp at h0
  · rename_i hk
    rw [if_neg hk]
    split at h0
    · rename_i hneg
      rw [if_pos hneg]
      split at h0
      · simp at h0
      · rename_i hx
        rw [if_neg hx]
        unfold pwF at h0 ⊢
        split at h0
        · simp at h0
        · rename_i hb
          rw [if_neg hb]
          have hb' : bigN (val y ^ (-k).toNat) = false ∧ bigN (val x ^ (-k).toNat) = false := by simpa using hb
          have hxp : 0 < val x := val_pos_of_may (MayR.parts h).1 hx
          refine ⟨_, _, _, rfl, mayR_mk hb'.1 hb'.2 (Nat.pow_pos hxp) (cop_pow (by rw [Nat.gcd_comm]; exact hl) _), ?_, ?_, by omega, by omega, fun _ => hx⟩
          · rw [nI_and, nI_pow]
            unfold pI
            rw [if_pos hneg]
          · unfold qN
            rw [if_pos hneg]
    · rename_i hneg
      rw [if_neg hneg]
      unfold pwF at h0 ⊢
      split at h0
      · simp at h0
      · rename_i hb
        rw [if_neg hb]
        have hb' : bigN (val x ^ k.toNat) = false ∧ bigN (val y ^ k.toNat) = false := by simpa using hb
        refine ⟨_, _, _, rfl, mayR_mk hb'.1 hb'.2 (Nat.pow_pos hp) (cop_pow hl _), ?_, ?_, by omega, by omega, fun hh => absurd hh hneg⟩
        · rw [nI_and, nI_pow]
          unfold pI
          rw [if_neg hneg]
        · unfold qN
          rw [if_neg hneg]
/-- Two numbers in lowest terms that are one. -/
theorem same_of {g1 g2 : Bool} {N1 D1 N2 D2 : Nat} (h1 : MayR g1 (limbs N1) (limbs D1) = true) (h2 : MayR g2 (limbs N2) (limbs D2) = true) (h : nI g1 N1 * (D2 : Int) = nI g2 N2 * (D1 : Int)) : sameR g1 (limbs N1) (limbs D1) g2 (limbs N2) (limbs D2) = true := by
  have l1 := (MayR.parts h1).2.2.2.2
  have l2 := (MayR.parts h2).2.2.2.2
  have p1 := mayR_pos h1
  have p2 := mayR_pos h2
  have z1 := mayR_neg h1
  have z2 := mayR_neg h2
  rw [(limbs_rep N1).val] at l1 z1
  rw [(limbs_rep D1).val] at l1 p1
  rw [(limbs_rep N2).val] at l2 z2
  rw [(limbs_rep D2).val] at l2 p2
  obtain ⟨r1, r2, r3⟩ := low_one l1 l2 p1 p2 z1 z2 h
  subst r1 r2 r3
  unfold sameR
  simp
theorem powers_add {g g1 g2 g3 g4 : Bool} {x y x1 y1 x2 y2 x3 y3 x4 y4 : List Nat} {m n mn : Int} (h : MayR g x y = true) (e1 : PowF g x y m = ((g1, x1, y1), 0)) (e2 : PowF g x y n = ((g2, x2, y2), 0)) (hw : -1024 ≤ m → m ≤ 1024 → -1024 ≤ n → n ≤ 1024 → mn = m + n) (e3 : PowF g x y mn = ((g3, x3, y3), 0)) (e4 : MulF g1 x1 y1 g2 x2 y2 = ((g4, x4, y4), 0)) : sameR g4 x4 y4 g3 x3 y3 = true := by
  obtain ⟨_, N1, D1, k1, m1, v1, q1, r1, s1, _⟩ := powF_ok h (by rw [e1])
  obtain ⟨_, N2, D2, k2, m2, v2, q2, r2, s2, _⟩ := powF_ok h (by rw [e2])
  obtain ⟨_, N3, D3, k3, m3, v3, q3, r3, s3, _⟩ := powF_ok h (by rw [e3])
  rw [e1] at k1
  rw [e2] at k2
  rw [e3] at k3
  cases k1
  cases k2
  cases k3
  obtain ⟨_, N4, D4, k4, m4, p4, v4⟩ := mulF_ok m1 m2 (by rw [e4])
  rw [e4] at k4
  cases k4
  refine same_of m4 m3 ?_
  obtain rfl := hw r1 s1 r2 s2
  have key := pow_adds g (val x) (val y) m n
  rw [← v1, ← v2, ← v3, ← q1, ← q2, ← q3] at key
  rw [(limbs_rep N1).val, (limbs_rep D1).val, (limbs_rep N2).val, (limbs_rep D2).val] at v4
  have pd1 : (0 : Int) < (D1 : Int) := by have := mayR_pos m1; rw [(limbs_rep D1).val] at this; omega
  have pd2 : (0 : Int) < (D2 : Int) := by have := mayR_pos m2; rw [(limbs_rep D2).val] at this; omega
  have hc : (nI g4 N4 * (D3 : Int)) * ((D1 : Int) * (D2 : Int)) = (nI g3 N3 * (D4 : Int)) * ((D1 : Int) * (D2 : Int)) := by
    have a1 : (nI g4 N4 * (D3 : Int)) * ((D1 : Int) * (D2 : Int)) = nI g4 N4 * ((D1 : Int) * (D2 : Int)) * (D3 : Int) := by ac_rfl
    have a2 : (nI g3 N3 * (D4 : Int)) * ((D1 : Int) * (D2 : Int)) = nI g3 N3 * ((D1 : Int) * (D2 : Int)) * (D4 : Int) := by ac_rfl
    rw [a1, a2, v4, key]
    ac_rfl
  exact Int.eq_of_mul_eq_mul_right (Int.ne_of_gt (Int.mul_pos pd1 pd2)) hc
theorem powers_inv {g g2 g5 : Bool} {x y x2 y2 x5 y5 : List Nat} {n nn : Int} (h : MayR g x y = true) (e2 : PowF g x y n = ((g2, x2, y2), 0)) (hw : -1024 ≤ n → n ≤ 1024 → nn = -n) (e5 : PowF g x y nn = ((g5, x5, y5), 0)) : invL g2 x2 y2 = ⟨g5, x5, y5, 0⟩ := by
  obtain ⟨_, N2, D2, k2, m2, v2, q2, r2, s2, c2⟩ := powF_ok h (by rw [e2])
  obtain ⟨_, N5, D5, k5, m5, v5, q5, r5, s5, c5⟩ := powF_ok h (by rw [e5])
  rw [e2] at k2
  rw [e5] at k5
  cases k2
  cases k5
  obtain rfl := hw r2 s2
  have pd2 : 0 < D2 := by have := mayR_pos m2; rwa [(limbs_rep D2).val] at this
  have pd5 : 0 < D5 := by have := mayR_pos m5; rwa [(limbs_rep D5).val] at this
  have hval : N5 = D2 ∧ D5 = N2 ∧ g5 = g2 := by
    have z2 := mayR_neg m2
    have z5 := mayR_neg m5
    rw [(limbs_rep N2).val] at z2
    rw [(limbs_rep N5).val] at z5
    rcases Int.lt_trichotomy n 0 with hn | hn | hn
    · have hx := c2 hn
      obtain ⟨j, rfl⟩ : ∃ j : Nat, n = -((j + 1 : Nat) : Int) := ⟨(-n - 1).toNat, by omega⟩
      rw [Int.neg_neg, pI_pos] at v5
      rw [Int.neg_neg, qN_pos] at q5
      rw [pI_neg] at v2
      rw [qN_neg] at q2
      rw [← nI_pow] at v2 v5
      obtain ⟨a1, a2⟩ := nI_inj (g := g5) (h := g && decide ((j + 1) % 2 = 1)) v5 z5 (fun hh => by
        have hxp : 0 < val x := val_pos_of_may (MayR.parts h).1 hx
        exact Nat.ne_of_gt (Nat.pow_pos hxp))
      obtain ⟨b1, b2⟩ := nI_inj (g := g2) (h := g && decide ((j + 1) % 2 = 1)) v2 z2 (fun hh => Nat.ne_of_gt (Nat.pow_pos (mayR_pos h)))
      exact ⟨a2.trans q2.symm, q5.trans b2.symm, a1.trans b1.symm⟩
    · subst hn
      have f1 : pI g (val x) (val y) 0 = 1 := by unfold pI; simp
      have f2 : qN (val x) (val y) 0 = 1 := by unfold qN; simp
      have f3 : (-0 : Int) = 0 := rfl
      rw [f3, f1] at v5
      rw [f1] at v2
      rw [f3, f2] at q5
      rw [f2] at q2
      have i1 : nI false 1 = 1 := rfl
      obtain ⟨a1, a2⟩ := nI_inj (h := false) (v := 1) (v5.trans i1.symm) z5 (fun hh => by cases hh)
      obtain ⟨b1, b2⟩ := nI_inj (h := false) (v := 1) (v2.trans i1.symm) z2 (fun hh => by cases hh)
      exact ⟨a2.trans q2.symm, q5.trans b2.symm, a1.trans b1.symm⟩
    · have hx := c5 (by omega)
      obtain ⟨j, rfl⟩ : ∃ j : Nat, n = ((j + 1 : Nat) : Int) := ⟨(n - 1).toNat, by omega⟩
      rw [pI_neg] at v5
      rw [qN_neg] at q5
      rw [pI_pos] at v2
      rw [qN_pos] at q2
      rw [← nI_pow] at v2 v5
      obtain ⟨a1, a2⟩ := nI_inj (g := g5) (h := g && decide ((j + 1) % 2 = 1)) v5 z5 (fun hh => Nat.ne_of_gt (Nat.pow_pos (mayR_pos h)))
      obtain ⟨b1, b2⟩ := nI_inj (g := g2) (h := g && decide ((j + 1) % 2 = 1)) v2 z2 (fun hh => by
        have hxp : 0 < val x := val_pos_of_may (MayR.parts h).1 hx
        exact Nat.ne_of_gt (Nat.pow_pos hxp))
      exact ⟨a2.trans q2.symm, q5.trans b2.symm, a1.trans b1.symm⟩
  obtain ⟨t1, t2, t3⟩ := hval
  subst t1 t2 t3
  unfold invL
  rw [if_pos m2, if_neg (limbs_ne pd5)]
theorem powers_one {g : Bool} {x y : List Nat} (ox : Ok x) (oy : Ok y) (h : MayR g x y = true) : PowF g x y 1 = ((g, x, y), 0) := by
  obtain ⟨a, b, c, d, l⟩ := MayR.parts h
  have ex := limbs_val ox (MayL.norm a)
  have ey := limbs_val oy (MayL.norm b)
  unfold PowF
  rw [if_pos h, if_neg (by decide), if_neg (by decide)]
  unfold pwF
  rw [show (1 : Int).toNat = 1 from rfl, Nat.pow_one, Nat.pow_one, ex, ey]
  have b1 : bigN (val x) = false := by unfold bigN; rw [ex]; have := MayL.len a; simpa using this
  have b2 : bigN (val y) = false := by unfold bigN; rw [ey]; have := MayL.len b; simpa using this
  rw [b1, b2]
  simp only [Bool.or_self, Bool.false_eq_true, if_false]
  cases g
  · rfl
  · have := mayR_neg h rfl
    simp [this]
theorem same_self (g : Bool) (x y : List Nat) : sameR g x y g x y = true := by unfold sameR; simp
end Go.Proofs.YtjjeinfoeipjnaaGreatDoor
