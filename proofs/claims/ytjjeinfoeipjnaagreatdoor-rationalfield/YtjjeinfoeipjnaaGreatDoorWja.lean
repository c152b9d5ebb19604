/-
  slopelaw2.alike: contract.
-/
import Derived.Test.YtjjeinfoeipjnaaGreatDoorRf1
import Derived.Test.YtjjeinfoeipjnaaGreatDoorWic
import Derived.Test.YtjjeinfoeipjnaaGreatDoorWij
namespace Go.Proofs.YtjjeinfoeipjnaaGreatDoor
open Go.RowKit Go.Deep
set_option linter.unusedVariables false

set_option maxHeartbeats 8000000 in
set_option maxRecDepth 100000 in
theorem didAlike_any (g1 g2 k1 k2 : Bool) (a1 b1 a2 b2 : Option Addr) (n1 c1 m1 d1 n2 c2 m2 d2 : Nat) (x1 y1 x2 y2 : List Nat) (w : World) (hx1 : Sl w a1 n1 c1 x1) (hy1 : Sl w b1 m1 d1 y1) (hx2 : Sl w a2 n2 c2 x2) (hy2 : Sl w b2 m2 d2 y2) (ox1 : Ok x1) (oy1 : Ok y1) (hT : Tab64 w) (hs : k1 = true → k2 = true → sameR g1 x1 y1 g2 x2 y2 = true ∧ MayR g1 x1 y1 = true) :
    Calls Tryz.prog 13 #[didV g1 a1 n1 c1 b1 m1 d1 k1, didV g2 a2 n2 c2 b2 m2 d2 k2] w fun e w' => e = .returned (.bool true) ∧ Below w.heap.size w w' := by
  obtain ⟨wa, hwa⟩ : ∃ z, w.alloc (.cells #[.bool g1, .slice a1 n1 c1, .slice b1 m1 d1, .bool k1] 37) = z := ⟨_, rfl⟩
  obtain ⟨wb, hwb⟩ : ∃ z, wa.alloc (.cells #[.bool g2, .slice a2 n2 c2, .slice b2 m2 d2, .bool k2] 37) = z := ⟨_, rfl⟩
  have hF0 : Fcts w w [fTab, fN a1 n1 c1 x1 b1 m1 d1 y1, fN a2 n2 c2 x2 b2 m2 d2 y2] := ⟨Below.refl _ _, fun f hf => by simp at hf; rcases hf with rfl | rfl | rfl; exact hT; exact ⟨hx1, hy1⟩; exact ⟨hx2, hy2⟩⟩
  have hF1 := hF0.quad (.bool g1) (.slice a1 n1 c1) (.slice b1 m1 d1) (.bool k1) 37
  rw [hwa] at hF1
  have hF2 := hF1.quad (.bool g2) (.slice a2 n2 c2) (.slice b2 m2 d2) (.bool k2) 37
  rw [hwb] at hF2
  have q1 := hF2.q w.heap.size (.bool g1) (.slice a1 n1 c1) (.slice b1 m1 d1) (.bool k1) (.tail _ (.head _))
  have q2 := hF2.q wa.heap.size (.bool g2) (.slice a2 n2 c2) (.slice b2 m2 d2) (.bool k2) (.head _)
  have u0 := q1.tri.c0
  have u1 := q1.tri.c1
  have u2 := q1.tri.c2
  have u6 := q1.c3
  have u3 := q2.tri.c0
  have u4 := q2.tri.c1
  have u5 := q2.tri.c2
  have u7 := q2.c3
  have HF := hide hF2
  have HS := hide hs
  unfold didV
  clear hF0 hF1 hF2 q1 q2 hx1 hy1 hx2 hy2 hT hs
  cases k1
  · clear HS
    go_enter Tryz.func13, Tryz.ntmps13
    go_wp2_with fail
    go_ret
    exact ⟨rfl, (unhide HF).bel⟩
  · cases k2
    · clear HS
      go_enter Tryz.func13, Tryz.ntmps13
      go_wp2_with fail
      go_ret
      exact ⟨rfl, (unhide HF).bel⟩
    · obtain ⟨h1, h2⟩ := unhide HS rfl rfl
      have i1 := (unhide HF).n a1 n1 c1 x1 b1 m1 d1 y1 (.tail _ (.tail _ (.tail _ (.head _))))
      have i2 := (unhide HF).n a2 n2 c2 x2 b2 m2 d2 y2 (.tail _ (.tail _ (.tail _ (.tail _ (.head _)))))
      have K := sameRat_any g1 g2 a1 b1 a2 b2 n1 c1 m1 d1 n2 c2 m2 d2 x1 y1 x2 y2 wb i1.num i1.den i2.num i2.den
      rw [h1] at K
      unfold ratV at K
      have HK := hide K
      have HM := hide h2
      clear HS h1 h2 i1 i2 K
      go_enter Tryz.func13, Tryz.ntmps13
      go_wp2_with fail
      refine (unhide HK).mono ?_
      rintro _ wc ⟨rfl, bc⟩
      have hF3 := (unhide HF).step bc
      have i1 := hF3.n a1 n1 c1 x1 b1 m1 d1 y1 (.tail _ (.tail _ (.tail _ (.head _))))
      have q1 := hF3.q w.heap.size (.bool g1) (.slice a1 n1 c1) (.slice b1 m1 d1) (.bool true) (.tail _ (.head _))
      have v0 := q1.tri.c0
      have v1 := q1.tri.c1
      have v2 := q1.tri.c2
      have K := ratMay_any g1 a1 b1 n1 c1 m1 d1 x1 y1 wc i1.num i1.den ox1 oy1 (hF3.tab (.tail _ (.tail _ (.head _))))
      rw [unhide HM] at K
      unfold ratV at K
      have HK2 := hide K
      have HF3 := hide hF3
      clear bc hF3 i1 q1 K HK HF u0 u1 u2 u3 u4 u5 u6 u7
      go_wp2_with fail
      refine (unhide HK2).mono ?_
      rintro _ wd ⟨rfl, bd⟩
      have HF4 := hide ((unhide HF3).step bd)
      clear bd HK2 HF3 v0 v1 v2
      go_wp2_with fail
      go_ret
      exact ⟨rfl, (unhide HF4).bel⟩
end Go.Proofs.YtjjeinfoeipjnaaGreatDoor

namespace Go.Proofs.YtjjeinfoeipjnaaGreatDoor
open Go.RowKit Go.Deep
set_option linter.unusedVariables false

/-- A number in lowest terms that is P / Q. -/
structure Fr (g : Bool) (x y : List Nat) (P Q : Int) : Prop where
  may : MayR g x y = true
  pos : 0 < Q
  eq : nI g (val x) * Q = P * (val y : Int)
theorem Fr.self {g : Bool} {x y : List Nat} (h : MayR g x y = true) : Fr g x y (nI g (val x)) (val y : Int) := ⟨h, posI h, rfl⟩
theorem Fr.add {g1 g2 g : Bool} {x1 y1 x2 y2 x y : List Nat} {P1 Q1 P2 Q2 : Int} (h1 : Fr g1 x1 y1 P1 Q1) (h2 : Fr g2 x2 y2 P2 Q2) (e : AddF g1 x1 y1 g2 x2 y2 = ((g, x, y), 0)) : Fr g x y (P1 * Q2 + P2 * Q1) (Q1 * Q2) := by
  obtain ⟨g', N, D, e2, m, hD, hv⟩ := addF_ok h1.may h2.may (by rw [e])
  rw [e] at e2
  cases e2
  have yp1 := posI h1.may
  have yp2 := posI h2.may
  refine ⟨m, Int.mul_pos h1.pos h2.pos, ?_⟩
  rw [(limbs_rep N).val, (limbs_rep D).val]
  have k1 := h1.eq
  have k2 := h2.eq
  refine Int.eq_of_mul_eq_mul_right (Int.ne_of_gt (Int.mul_pos yp1 yp2)) ?_
  have a1 : nI g N * (Q1 * Q2) * ((val y1 : Int) * (val y2 : Int)) = nI g N * ((val y1 : Int) * (val y2 : Int)) * (Q1 * Q2) := by ac_rfl
  rw [a1, hv]
  have a2 : (nI g1 (val x1) * (val y2 : Int) + nI g2 (val x2) * (val y1 : Int)) * (D : Int) * (Q1 * Q2) = (nI g1 (val x1) * Q1) * ((val y2 : Int) * Q2 * (D : Int)) + (nI g2 (val x2) * Q2) * ((val y1 : Int) * Q1 * (D : Int)) := by
    rw [Int.add_mul, Int.add_mul]
    congr 1
    · ac_rfl
    · ac_rfl
  rw [a2, k1, k2, Int.add_mul, Int.add_mul]
  congr 1
  · ac_rfl
  · ac_rfl
theorem Fr.mul {g1 g2 g : Bool} {x1 y1 x2 y2 x y : List Nat} {P1 Q1 P2 Q2 : Int} (h1 : Fr g1 x1 y1 P1 Q1) (h2 : Fr g2 x2 y2 P2 Q2) (e : MulF g1 x1 y1 g2 x2 y2 = ((g, x, y), 0)) : Fr g x y (P1 * P2) (Q1 * Q2) := by
  obtain ⟨g', N, D, e2, m, hD, hv⟩ := mulF_ok h1.may h2.may (by rw [e])
  rw [e] at e2
  cases e2
  have yp1 := posI h1.may
  have yp2 := posI h2.may
  refine ⟨m, Int.mul_pos h1.pos h2.pos, ?_⟩
  rw [(limbs_rep N).val, (limbs_rep D).val]
  have k1 := h1.eq
  have k2 := h2.eq
  refine Int.eq_of_mul_eq_mul_right (Int.ne_of_gt (Int.mul_pos yp1 yp2)) ?_
  have a1 : nI g N * (Q1 * Q2) * ((val y1 : Int) * (val y2 : Int)) = nI g N * ((val y1 : Int) * (val y2 : Int)) * (Q1 * Q2) := by ac_rfl
  rw [a1, hv]
  have a2 : nI g1 (val x1) * nI g2 (val x2) * (D : Int) * (Q1 * Q2) = (nI g1 (val x1) * Q1) * (nI g2 (val x2) * Q2) * (D : Int) := by ac_rfl
  rw [a2, k1, k2]
  ac_rfl
theorem Fr.same {g1 g2 : Bool} {x1 y1 x2 y2 : List Nat} {P1 Q1 P2 Q2 : Int} (ox1 : Ok x1) (oy1 : Ok y1) (ox2 : Ok x2) (oy2 : Ok y2) (h1 : Fr g1 x1 y1 P1 Q1) (h2 : Fr g2 x2 y2 P2 Q2) (h : P1 * Q2 = P2 * Q1) : sameR g1 x1 y1 g2 x2 y2 = true := by
  rw [order_same ox1 oy1 ox2 oy2 h1.may h2.may, cmpF_may h1.may h2.may]
  have yp1 := posI h1.may
  have yp2 := posI h2.may
  have k1 := h1.eq
  have k2 := h2.eq
  have : nI g1 (val x1) * (val y2 : Int) = nI g2 (val x2) * (val y1 : Int) := by
    refine Int.eq_of_mul_eq_mul_right (Int.ne_of_gt (Int.mul_pos h1.pos h2.pos)) ?_
    have a1 : nI g1 (val x1) * (val y2 : Int) * (Q1 * Q2) = (nI g1 (val x1) * Q1) * ((val y2 : Int) * Q2) := by ac_rfl
    have a2 : nI g2 (val x2) * (val y1 : Int) * (Q1 * Q2) = (nI g2 (val x2) * Q2) * ((val y1 : Int) * Q1) := by ac_rfl
    rw [a1, a2, k1, k2]
    have a3 : P1 * (val y1 : Int) * ((val y2 : Int) * Q2) = (P1 * Q2) * ((val y1 : Int) * (val y2 : Int)) := by ac_rfl
    have a4 : P2 * (val y2 : Int) * ((val y1 : Int) * Q1) = (P2 * Q1) * ((val y1 : Int) * (val y2 : Int)) := by ac_rfl
    rw [a3, a4, h]
  rw [this, Int.sub_self]
  rfl
/-- What is known of an answer, where it lies. -/
structure Vl (w : World) (g : Bool) (a : Option Addr) (n c : Nat) (x : List Nat) (b : Option Addr) (m d : Nat) (y : List Nat) (k : Bool) (P Q : Int) : Prop where
  nm : Nm w a n c x b m d y
  ox : Ok x
  oy : Ok y
  fr : k = true → Fr g x y P Q
def fV (g : Bool) (a : Option Addr) (n c : Nat) (x : List Nat) (b : Option Addr) (m d : Nat) (y : List Nat) (k : Bool) (P Q : Int) : Fct := ⟨fun w => Vl w g a n c x b m d y k P Q, fun h v => ⟨⟨v.nm.num.below h, v.nm.den.below h⟩, v.ox, v.oy, v.fr⟩⟩
theorem Fcts.v {w0 w : World} {L : List Fct} (h : Fcts w0 w L) {g : Bool} {a : Option Addr} {n c : Nat} {x : List Nat} {b : Option Addr} {m d : Nat} {y : List Nat} {k : Bool} {P Q : Int} (hm : fV g a n c x b m d y k P Q ∈ L) : Vl w g a n c x b m d y k P Q := h.all _ hm
theorem and3 {k1 k2 : Bool} {e : Int} (h : (k1 && (k2 && (e == 0))) = true) : k1 = true ∧ k2 = true ∧ e = 0 := by
  simpa using h
def VPost (w0 : World) (L : List Fct) (P Q : Int) (e : Ending) (w' : World) : Prop := ∃ g a n c x b m d y k, e = .returned (.agg #[.bool g, .slice a n c, .slice b m d, .bool k]) ∧ Fcts w0 w' (fV g a n c x b m d y k P Q :: L)
theorem vlSum {w0 W : World} {L : List Fct} (h : Fcts w0 W L) {g1 g2 k1 k2 : Bool} {a1 b1 a2 b2 : Option Addr} {n1 c1 m1 d1 n2 c2 m2 d2 : Nat} {x1 y1 x2 y2 : List Nat} {P1 Q1 P2 Q2 : Int} (h1 : fV g1 a1 n1 c1 x1 b1 m1 d1 y1 k1 P1 Q1 ∈ L) (h2 : fV g2 a2 n2 c2 x2 b2 m2 d2 y2 k2 P2 Q2 ∈ L) (hT : fTab ∈ L) :
    Calls Tryz.prog 14 #[.agg #[.bool g1, .slice a1 n1 c1, .slice b1 m1 d1, .bool k1], .agg #[.bool g2, .slice a2 n2 c2, .slice b2 m2 d2, .bool k2]] W fun e w' => VPost w0 L (P1 * Q2 + P2 * Q1) (Q1 * Q2) e w' := by
  have v1 := h.v h1
  have v2 := h.v h2
  have K := didSum_any g1 g2 k1 k2 a1 b1 a2 b2 n1 c1 m1 d1 n2 c2 m2 d2 x1 y1 x2 y2 W v1.nm.num v1.nm.den v2.nm.num v2.nm.den v1.ox v1.oy v2.ox v2.oy (h.tab hT)
  refine K.mono ?_
  rintro e w' ⟨a, n, c, b, m, d, he, sx, sy, hb⟩
  obtain ⟨⟨⟨g, x, y⟩, er⟩, hR⟩ : ∃ r, AddF g1 x1 y1 g2 x2 y2 = r := ⟨_, rfl⟩
  have ol := addF_lists (g1 := g1) (x1 := x1) (y1 := y1) (g2 := g2) (x2 := x2) (y2 := y2)
  rw [hR] at he sx sy ol
  refine ⟨g, a, n, c, x, b, m, d, y, _, he, (h.step hb).add _ ⟨⟨sx, sy⟩, ol.1, ol.2, fun hk => ?_⟩⟩
  obtain ⟨e1, e2, e3⟩ := and3 hk
  have e3' : er = 0 := e3
  subst e3'
  exact (v1.fr e1).add (v2.fr e2) hR
theorem vlTimes {w0 W : World} {L : List Fct} (h : Fcts w0 W L) {g1 g2 k1 k2 : Bool} {a1 b1 a2 b2 : Option Addr} {n1 c1 m1 d1 n2 c2 m2 d2 : Nat} {x1 y1 x2 y2 : List Nat} {P1 Q1 P2 Q2 : Int} (h1 : fV g1 a1 n1 c1 x1 b1 m1 d1 y1 k1 P1 Q1 ∈ L) (h2 : fV g2 a2 n2 c2 x2 b2 m2 d2 y2 k2 P2 Q2 ∈ L) (hT : fTab ∈ L) :
    Calls Tryz.prog 15 #[.agg #[.bool g1, .slice a1 n1 c1, .slice b1 m1 d1, .bool k1], .agg #[.bool g2, .slice a2 n2 c2, .slice b2 m2 d2, .bool k2]] W fun e w' => VPost w0 L (P1 * P2) (Q1 * Q2) e w' := by
  have v1 := h.v h1
  have v2 := h.v h2
  have K := didTimes_any g1 g2 k1 k2 a1 b1 a2 b2 n1 c1 m1 d1 n2 c2 m2 d2 x1 y1 x2 y2 W v1.nm.num v1.nm.den v2.nm.num v2.nm.den v1.ox v1.oy v2.ox v2.oy (h.tab hT)
  refine K.mono ?_
  rintro e w' ⟨a, n, c, b, m, d, he, sx, sy, hb⟩
  obtain ⟨⟨⟨g, x, y⟩, er⟩, hR⟩ : ∃ r, MulF g1 x1 y1 g2 x2 y2 = r := ⟨_, rfl⟩
  have ol := mulF_lists (g1 := g1) (x1 := x1) (y1 := y1) (g2 := g2) (x2 := x2) (y2 := y2)
  rw [hR] at he sx sy ol
  refine ⟨g, a, n, c, x, b, m, d, y, _, he, (h.step hb).add _ ⟨⟨sx, sy⟩, ol.1, ol.2, fun hk => ?_⟩⟩
  obtain ⟨e1, e2, e3⟩ := and3 hk
  have e3' : er = 0 := e3
  subst e3'
  exact (v1.fr e1).mul (v2.fr e2) hR
theorem vlAlike {w0 W : World} {L : List Fct} (h : Fcts w0 W L) {g1 g2 k1 k2 : Bool} {a1 b1 a2 b2 : Option Addr} {n1 c1 m1 d1 n2 c2 m2 d2 : Nat} {x1 y1 x2 y2 : List Nat} {P1 Q1 P2 Q2 : Int} (h1 : fV g1 a1 n1 c1 x1 b1 m1 d1 y1 k1 P1 Q1 ∈ L) (h2 : fV g2 a2 n2 c2 x2 b2 m2 d2 y2 k2 P2 Q2 ∈ L) (hT : fTab ∈ L) (he : P1 * Q2 = P2 * Q1) :
    Calls Tryz.prog 13 #[.agg #[.bool g1, .slice a1 n1 c1, .slice b1 m1 d1, .bool k1], .agg #[.bool g2, .slice a2 n2 c2, .slice b2 m2 d2, .bool k2]] W fun e w' => e = .returned (.bool true) ∧ Fcts w0 w' L := by
  have v1 := h.v h1
  have v2 := h.v h2
  refine (didAlike_any g1 g2 k1 k2 a1 b1 a2 b2 n1 c1 m1 d1 n2 c2 m2 d2 x1 y1 x2 y2 W v1.nm.num v1.nm.den v2.nm.num v2.nm.den v1.ox v1.oy (h.tab hT) (fun e1 e2 => ⟨Fr.same v1.ox v1.oy v2.ox v2.oy (v1.fr e1) (v2.fr e2) he, (v1.fr e1).may⟩)).mono ?_
  rintro e w' ⟨h3, hb⟩
  exact ⟨h3, h.step hb⟩
theorem fr_small0 : Fr false (limbs 0) [1] 0 1 := by
  rw [limbs_none]
  have v1 : val [1] = 1 := by simp [val]
  have v0 : val ([] : List Nat) = 0 := rfl
  refine ⟨?_, by decide, by rw [v0, v1]; rfl⟩
  unfold MayR
  rw [v0, v1]
  decide
theorem fr_small1 : Fr false (limbs 1) [1] 1 1 := by
  rw [limbs_small (by decide) (by decide)]
  have v1 : val [1] = 1 := by simp [val]
  refine ⟨?_, by decide, by rw [v1]; rfl⟩
  unfold MayR
  rw [v1]
  decide
theorem ident_test (P1 Q1 P2 Q2 P3 Q3 : Int) : (P1 * (P2 * Q3 + P3 * Q2)) * ((Q1 * Q2) * (Q1 * Q3)) = ((P1 * P2) * (Q1 * Q3) + (P1 * P3) * (Q1 * Q2)) * (Q1 * (Q2 * Q3)) := by grind
end Go.Proofs.YtjjeinfoeipjnaaGreatDoor

namespace Go.Proofs.YtjjeinfoeipjnaaGreatDoor
open Go.RowKit Go.Deep
set_option linter.unusedVariables false

set_option maxHeartbeats 8000000 in
set_option maxRecDepth 100000 in
/-- rational.pair: of numbers that may be, what the function answers. -/
theorem pairDiv_any (g1 g2 : Bool) (a1 b1 a2 b2 : Option Addr) (n1 c1 m1 d1 n2 c2 m2 d2 : Nat) (x1 y1 x2 y2 : List Nat) (w : World) (hx1 : Sl w a1 n1 c1 x1) (hy1 : Sl w b1 m1 d1 y1) (hx2 : Sl w a2 n2 c2 x2) (hy2 : Sl w b2 m2 d2 y2) (ox1 : Ok x1) (oy1 : Ok y1) (ox2 : Ok x2) (oy2 : Ok y2) (hT : Tab64 w) (ng : Bool) (zs us : List Nat) (er : Int)
    (hF : (MayR g1 x1 y1 && MayR g2 x2 y2) = true → ∀ W, Below w.heap.size w W → Calls Tryz.prog 36 #[ratV g1 a1 n1 c1 b1 m1 d1, ratV g2 a2 n2 c2 b2 m2 d2] W fun e w' => ResR W w' ng zs us er e) (hno : (MayR g1 x1 y1 && MayR g2 x2 y2) = false → ng = false ∧ zs = [] ∧ us = [] ∧ er = 40) :
    Calls Tryz.prog 29 #[ratV g1 a1 n1 c1 b1 m1 d1, ratV g2 a2 n2 c2 b2 m2 d2, .func (.func 36) #[] #[]] w fun e w' => ResR w w' ng zs us er e := by
  have bx := Box.made w g1 a1 n1 c1 b1 m1 d1
  obtain ⟨wa, hwa⟩ : ∃ wa, ratBox w g1 a1 n1 c1 b1 m1 d1 = wa := ⟨_, rfl⟩
  rw [hwa] at bx
  have by_ := Box.made wa g2 a2 n2 c2 b2 m2 d2
  obtain ⟨wb, hwb⟩ : ∃ wb, ratBox wa g2 a2 n2 c2 b2 m2 d2 = wb := ⟨_, rfl⟩
  rw [hwb] at by_
  obtain ⟨wo, hwo⟩ : ∃ x, wb.alloc (.cells #[.bool false, .slice none 0 0, .slice none 0 0] 25) = x := ⟨_, rfl⟩
  have hba : Below w.heap.size w wa := by rw [← hwa]; exact (Below.refl _ _).alloc (Nat.le_refl _) _
  have hbb : Below wa.heap.size wa wb := by rw [← hwb]; exact (Below.refl _ _).alloc (Nat.le_refl _) _
  have hbo : Below wb.heap.size wb wo := by rw [← hwo]; exact (Below.refl _ _).alloc (Nat.le_refl _) _
  have hO : Out wo wb.heap.size := by rw [← hwo]; exact Out.made wb
  have bx2 := (bx.keep hbb).keep hbo
  have by2 := by_.keep hbo
  have hB := (hba.trans (hbb.mono hba.size)).trans (hbo.mono (Nat.le_trans hba.size hbb.size))
  have Hwb := hide (show w.heap.size ≤ wb.heap.size from Nat.le_trans hba.size hbb.size)
  unfold ratBox at hwa hwb
  have p0 := bx2.d0
  have p1 := bx2.d1
  have p2 := bx2.d2
  have p3 := by2.d0
  have p4 := by2.d1
  have p5 := by2.d2
  have HM1 := hide (fun (W : World) (hb : Below wo.heap.size wo W) => ratMay_any g1 a1 b1 n1 c1 m1 d1 x1 y1 W ((hx1.below hB).below hb) ((hy1.below hB).below hb) ox1 oy1 ((hT.below hB).below hb))
  have HM2 := hide (fun (W : World) (hb : Below wo.heap.size wo W) => ratMay_any g2 a2 b2 n2 c2 m2 d2 x2 y2 W ((hx2.below hB).below hb) ((hy2.below hB).below hb) ox2 oy2 ((hT.below hB).below hb))
  have HFF := hide (fun hm (W : World) (hb : Below wo.heap.size wo W) => hF hm W (hB.trans (hb.mono hB.size)))
  have HBx := hide (And.intro bx2 by2)
  have HBB := hide hB
  have HO := hide hO
  have HNo := hide hno
  unfold ratV at HM1 HM2 HFF ⊢
  clear bx bx2 by_ by2 hba hbb hbo hB hO hx1 hy1 hx2 hy2 hT hF hno
  cases k1 : MayR g1 x1 y1
  · obtain ⟨rfl, rfl, rfl, rfl⟩ := unhide HNo (by rw [k1]; rfl)
    have KM := hide (unhide HM1 wo (Below.refl _ _))
    rw [k1] at KM
    clear HM1 HM2 HFF k1 HNo
    go_enter Tryz.func29, Tryz.ntmps29
    go_wp2_with fail
    refine (unhide KM).mono ?_
    rintro _ wy ⟨rfl, hby⟩
    clear KM p0 p1 p2 p3 p4 p5
    have hO3 := (unhide HO).keep hby
    obtain ⟨i0, o0⟩ := hO3.cells 0 (by decide)
    obtain ⟨i1, o1⟩ := hO3.cells 1 (by decide)
    obtain ⟨i2, o2⟩ := hO3.cells 2 (by decide)
    have f0 := hO3.fz 0 (by decide)
    have f1 := hO3.fz 1 (by decide)
    have f2 := hO3.fz 2 (by decide)
    have H4 := hide (three_set wy wb.heap.size (.bool false) (.slice none 0 0) (.slice none 0 0) hO3.cells)
    have HBy := hide hby
    clear hO3 hby
    go_wp2_with fail
    obtain ⟨t0, t1, t2, c4⟩ := unhide H4
    generalize ((wy.setCell ⟨wb.heap.size, 0, none⟩ (.bool false)).setCell ⟨wb.heap.size, 1, none⟩ (.slice none 0 0)).setCell ⟨wb.heap.size, 2, none⟩ (.slice none 0 0) = wk at *
    refine bodyPost_ret (by simp [results, Tryz.results29, go_sem, t0, t1, t2]; try rfl) rfl ?_
    have hBy : Below w.heap.size w wy := (unhide HBB).trans ((unhide HBy).mono (unhide HBB).size)
    have hBk : Below w.heap.size w wk := hBy.trans (c4.below hBy.size (fun k hk => by have := unhide Hwb; omega))
    exact ⟨_, rfl, none, 0, 0, none, 0, 0, rfl, ⟨rfl, Nat.le_refl _, Nat.zero_le _, .inl rfl⟩, ⟨rfl, Nat.le_refl _, Nat.zero_le _, .inl rfl⟩, (fun x hx => by cases hx), (fun x hx => by cases hx), hBk⟩
  · have KM := hide (unhide HM1 wo (Below.refl _ _))
    rw [k1] at KM
    cases k2 : MayR g2 x2 y2
    · obtain ⟨rfl, rfl, rfl, rfl⟩ := unhide HNo (by rw [k1, k2]; rfl)
      have HM := hide (fun W hb => (by have K := unhide HM2 W hb; rw [k2] at K; exact K : Calls Tryz.prog 5 #[.agg #[.bool g2, .slice a2 n2 c2, .slice b2 m2 d2]] W fun e w' => e = .returned (.bool false) ∧ Below W.heap.size W w'))
      clear HM1 HM2 HFF k1 k2 HNo
      go_enter Tryz.func29, Tryz.ntmps29
      go_wp2_with fail
      refine (unhide KM).mono ?_
      rintro _ wc ⟨rfl, hbc⟩
      have b2_ := (unhide HBx).2.keep hbc
      have r0 := b2_.d0
      have r1 := b2_.d1
      have r2 := b2_.d2
      have KM2 := hide (unhide HM wc hbc)
      have HBc := hide hbc
      clear hbc KM b2_ HM p0 p1 p2 p3 p4 p5
      go_wp2_with fail
      refine (unhide KM2).mono ?_
      rintro _ wy ⟨rfl, hbd⟩
      have hby := (unhide HBc).trans (hbd.mono (unhide HBc).size)
      clear KM2 r0 r1 r2 hbd
      have hO3 := (unhide HO).keep hby
      obtain ⟨i0, o0⟩ := hO3.cells 0 (by decide)
      obtain ⟨i1, o1⟩ := hO3.cells 1 (by decide)
      obtain ⟨i2, o2⟩ := hO3.cells 2 (by decide)
      have f0 := hO3.fz 0 (by decide)
      have f1 := hO3.fz 1 (by decide)
      have f2 := hO3.fz 2 (by decide)
      have H4 := hide (three_set wy wb.heap.size (.bool false) (.slice none 0 0) (.slice none 0 0) hO3.cells)
      have HBy := hide hby
      clear hO3 hby
      go_wp2_with fail
      obtain ⟨t0, t1, t2, c4⟩ := unhide H4
      generalize ((wy.setCell ⟨wb.heap.size, 0, none⟩ (.bool false)).setCell ⟨wb.heap.size, 1, none⟩ (.slice none 0 0)).setCell ⟨wb.heap.size, 2, none⟩ (.slice none 0 0) = wk at *
      refine bodyPost_ret (by simp [results, Tryz.results29, go_sem, t0, t1, t2]; try rfl) rfl ?_
      have hBy : Below w.heap.size w wy := (unhide HBB).trans ((unhide HBy).mono (unhide HBB).size)
      have hBk : Below w.heap.size w wk := hBy.trans (c4.below hBy.size (fun k hk => by have := unhide Hwb; omega))
      exact ⟨_, rfl, none, 0, 0, none, 0, 0, rfl, ⟨rfl, Nat.le_refl _, Nat.zero_le _, .inl rfl⟩, ⟨rfl, Nat.le_refl _, Nat.zero_le _, .inl rfl⟩, (fun x hx => by cases hx), (fun x hx => by cases hx), hBk⟩
    · have HM := hide (fun W hb => (by have K := unhide HM2 W hb; rw [k2] at K; exact K : Calls Tryz.prog 5 #[.agg #[.bool g2, .slice a2 n2 c2, .slice b2 m2 d2]] W fun e w' => e = .returned (.bool true) ∧ Below W.heap.size W w'))
      have HF := hide (unhide HFF (by rw [k1, k2]; rfl))
      clear HM1 HM2 HFF k1 k2 HNo
      go_enter Tryz.func29, Tryz.ntmps29
      go_wp2_with fail
      refine (unhide KM).mono ?_
      rintro _ wc ⟨rfl, hbc⟩
      have bb := And.intro ((unhide HBx).1.keep hbc) ((unhide HBx).2.keep hbc)
      have r0 := bb.2.d0
      have r1 := bb.2.d1
      have r2 := bb.2.d2
      have KM2 := hide (unhide HM wc hbc)
      have HBc := hide hbc
      have HB2 := hide bb
      clear hbc KM bb HM p0 p1 p2 p3 p4 p5
      go_wp2_with fail
      refine (unhide KM2).mono ?_
      rintro _ wd ⟨rfl, hbd⟩
      have b3 := (unhide HB2).1.keep hbd
      have b4 := (unhide HB2).2.keep hbd
      have u0 := b3.d0
      have u1 := b3.d1
      have u2 := b3.d2
      have v0 := b4.d0
      have v1 := b4.d1
      have v2 := b4.d2
      have hbd2 := (unhide HBc).trans (hbd.mono (unhide HBc).size)
      have KF := hide (unhide HF wd hbd2)
      have HD := hide hbd2
      clear hbd KM2 b3 b4 HF r0 r1 r2 hbd2
      go_wp2_with fail
      refine (unhide KF).mono ?_
      rintro _ wy ⟨v, rfl, aN, mN, cN, aM, mM, cM, rfl, sN, sM, nN, nM, bY⟩
      have hby := (unhide HD).trans (bY.mono (unhide HD).size)
      have hlt9 : wb.heap.size < wd.heap.size := Nat.lt_of_lt_of_le (unhide HO).lt (unhide HD).size
      have HX := hide (And.intro sN (And.intro sM (And.intro nN nM)))
      clear KF u0 u1 u2 v0 v1 v2 sN sM nN nM bY
      unfold ratV
      have hO3 := (unhide HO).keep hby
      obtain ⟨i0, o0⟩ := hO3.cells 0 (by decide)
      obtain ⟨i1, o1⟩ := hO3.cells 1 (by decide)
      obtain ⟨i2, o2⟩ := hO3.cells 2 (by decide)
      have f0 := hO3.fz 0 (by decide)
      have f1 := hO3.fz 1 (by decide)
      have f2 := hO3.fz 2 (by decide)
      have H4 := hide (three_set wy wb.heap.size (.bool ng) (.slice aN mN cN) (.slice aM mM cM) hO3.cells)
      have HBy := hide hby
      clear hO3 hby
      go_wp2_with fail
      obtain ⟨t0, t1, t2, c4⟩ := unhide H4
      generalize ((wy.setCell ⟨wb.heap.size, 0, none⟩ (.bool ng)).setCell ⟨wb.heap.size, 1, none⟩ (.slice aN mN cN)).setCell ⟨wb.heap.size, 2, none⟩ (.slice aM mM cM) = wk at *
      refine bodyPost_ret (by simp [results, Tryz.results29, go_sem, t0, t1, t2]; try rfl) rfl ?_
      have hBy : Below w.heap.size w wy := (unhide HBB).trans ((unhide HBy).mono (unhide HBB).size)
      have hBk : Below w.heap.size w wk := hBy.trans (c4.below hBy.size (fun k hk => by have := unhide Hwb; omega))
      have hwd : w.heap.size ≤ wd.heap.size := Nat.le_trans (unhide HBB).size (unhide HD).size
      exact ⟨_, rfl, aN, mN, cN, aM, mM, cM, rfl, (unhide HX).1.chg c4 (fun x hx _ h => by have h1 := (unhide HX).2.2.1 x hx; omega), (unhide HX).2.1.chg c4 (fun x hx _ h => by have h1 := (unhide HX).2.2.2 x hx; omega), (fun x hx => Nat.le_trans hwd ((unhide HX).2.2.1 x hx)), (fun x hx => Nat.le_trans hwd ((unhide HX).2.2.2 x hx)), hBk⟩


set_option maxHeartbeats 8000000 in
set_option maxRecDepth 100000 in
theorem ratDiv_face (g1 g2 : Bool) (a1 b1 a2 b2 : Option Addr) (n1 c1 m1 d1 n2 c2 m2 d2 : Nat) (x1 y1 x2 y2 : List Nat) (w : World) (hx1 : Sl w a1 n1 c1 x1) (hy1 : Sl w b1 m1 d1 y1) (hx2 : Sl w a2 n2 c2 x2) (hy2 : Sl w b2 m2 d2 y2) (ox1 : Ok x1) (oy1 : Ok y1) (ox2 : Ok x2) (oy2 : Ok y2) (hT : Tab64 w) (ng : Bool) (zs us : List Nat) (er : Int)
    (hF : (MayR g1 x1 y1 && MayR g2 x2 y2) = true → ∀ W, Below w.heap.size w W → Calls Tryz.prog 36 #[ratV g1 a1 n1 c1 b1 m1 d1, ratV g2 a2 n2 c2 b2 m2 d2] W fun e w' => ResR W w' ng zs us er e) (hno : (MayR g1 x1 y1 && MayR g2 x2 y2) = false → ng = false ∧ zs = [] ∧ us = [] ∧ er = 40) :
    Calls Tryz.prog 17 #[ratV g1 a1 n1 c1 b1 m1 d1, ratV g2 a2 n2 c2 b2 m2 d2] w fun e w' => ResR w w' ng zs us er e := by
  have bx := Box.made w g1 a1 n1 c1 b1 m1 d1
  obtain ⟨wa, hwa⟩ : ∃ wa, ratBox w g1 a1 n1 c1 b1 m1 d1 = wa := ⟨_, rfl⟩
  rw [hwa] at bx
  have by_ := Box.made wa g2 a2 n2 c2 b2 m2 d2
  obtain ⟨wb, hwb⟩ : ∃ wb, ratBox wa g2 a2 n2 c2 b2 m2 d2 = wb := ⟨_, rfl⟩
  rw [hwb] at by_
  obtain ⟨wo, hwo⟩ : ∃ x, wb.alloc (.cells #[.bool false, .slice none 0 0, .slice none 0 0] 25) = x := ⟨_, rfl⟩
  have hba : Below w.heap.size w wa := by rw [← hwa]; exact (Below.refl _ _).alloc (Nat.le_refl _) _
  have hbb : Below wa.heap.size wa wb := by rw [← hwb]; exact (Below.refl _ _).alloc (Nat.le_refl _) _
  have hbo : Below wb.heap.size wb wo := by rw [← hwo]; exact (Below.refl _ _).alloc (Nat.le_refl _) _
  have hO : Out wo wb.heap.size := by rw [← hwo]; exact Out.made wb
  have bx2 := (bx.keep hbb).keep hbo
  have by2 := by_.keep hbo
  have hB := (hba.trans (hbb.mono hba.size)).trans (hbo.mono (Nat.le_trans hba.size hbb.size))
  have Hwb := hide (show w.heap.size ≤ wb.heap.size from Nat.le_trans hba.size hbb.size)
  unfold ratBox at hwa hwb
  have p0 := bx2.d0
  have p1 := bx2.d1
  have p2 := bx2.d2
  have p3 := by2.d0
  have p4 := by2.d1
  have p5 := by2.d2
  have KP := pairDiv_any g1 g2 a1 b1 a2 b2 n1 c1 m1 d1 n2 c2 m2 d2 x1 y1 x2 y2 wo (hx1.below hB) (hy1.below hB) (hx2.below hB) (hy2.below hB) ox1 oy1 ox2 oy2 (hT.below hB) ng zs us er (fun hm W hb => hF hm W (hB.trans (hb.mono hB.size))) hno
  unfold ratV at KP ⊢
  have HKP := hide KP
  have HBB := hide hB
  have HO := hide hO
  clear bx bx2 by_ by2 hba hbb hbo hB hO hx1 hy1 hx2 hy2 hT KP hF hno
  go_enter Tryz.func17, Tryz.ntmps17
  go_wp2_with fail
  refine (unhide HKP).mono ?_
  rintro _ wy ⟨v, rfl, aN, mN, cN, aM, mM, cM, rfl, sN, sM, nN, nM, hby⟩
  have hlt9 : wb.heap.size < wo.heap.size := (unhide HO).lt
  have HX := hide (And.intro sN (And.intro sM (And.intro nN nM)))
  clear HKP p0 p1 p2 p3 p4 p5 sN sM nN nM
  unfold ratV
  have hO3 := (unhide HO).keep hby
  obtain ⟨i0, o0⟩ := hO3.cells 0 (by decide)
  obtain ⟨i1, o1⟩ := hO3.cells 1 (by decide)
  obtain ⟨i2, o2⟩ := hO3.cells 2 (by decide)
  have f0 := hO3.fz 0 (by decide)
  have f1 := hO3.fz 1 (by decide)
  have f2 := hO3.fz 2 (by decide)
  have H4 := hide (three_set wy wb.heap.size (.bool ng) (.slice aN mN cN) (.slice aM mM cM) hO3.cells)
  have HBy := hide hby
  clear hO3 hby
  go_wp2_with fail
  obtain ⟨t0, t1, t2, c4⟩ := unhide H4
  generalize ((wy.setCell ⟨wb.heap.size, 0, none⟩ (.bool ng)).setCell ⟨wb.heap.size, 1, none⟩ (.slice aN mN cN)).setCell ⟨wb.heap.size, 2, none⟩ (.slice aM mM cM) = wk at *
  refine bodyPost_ret (by simp [results, Tryz.results17, go_sem, t0, t1, t2]; try rfl) rfl ?_
  have hBy : Below w.heap.size w wy := (unhide HBB).trans ((unhide HBy).mono (unhide HBB).size)
  have hBk : Below w.heap.size w wk := hBy.trans (c4.below hBy.size (fun k hk => by have := unhide Hwb; omega))
  have hwd : w.heap.size ≤ wo.heap.size := (unhide HBB).size
  exact ⟨_, rfl, aN, mN, cN, aM, mM, cM, rfl, (unhide HX).1.chg c4 (fun x hx _ h => by have h1 := (unhide HX).2.2.1 x hx; omega), (unhide HX).2.1.chg c4 (fun x hx _ h => by have h1 := (unhide HX).2.2.2 x hx; omega), (fun x hx => Nat.le_trans hwd ((unhide HX).2.2.1 x hx)), (fun x hx => Nat.le_trans hwd ((unhide HX).2.2.2 x hx)), hBk⟩
end Go.Proofs.YtjjeinfoeipjnaaGreatDoor
