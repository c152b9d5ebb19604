/-
  sloperef1.Gcd, Lcm: contracts.
-/
import Derived.Test.YtlecjjcpidjmhaaDoorGg
import Derived.Test.YtlecjjcpidjmhaaDoorRd3
import Derived.Test.YtlecjjcpidjmhaaDoorRMul
import Derived.Test.YtlecjjcpidjmhaaDoorKarM
namespace Go.Proofs.YtlecjjcpidjmhaaDoor
open Go.RowKit Go.Deep
set_option linter.unusedVariables false

def gcdL (xs ys : List Nat) : List Nat × Int := if MayL xs && MayL ys then (limbs (Nat.gcd (val xs) (val ys)), 0) else ([], 20)
def lcmL (xs ys : List Nat) : List Nat × Int := if MayL xs && MayL ys then (if xs = [] ∨ ys = [] then ([], 0) else fitL (val xs / Nat.gcd (val xs) (val ys) * val ys)) else ([], 20)

theorem newRep_res2 {w w' : World} {v : Nat} {e : Ending} (h : NewRep w w' v e) : ∃ a m, e = .returned (.slice a m m) ∧ Sl w' a m m (limbs v) ∧ NewAt w.heap.size a ∧ Below w.heap.size w w' := by
  obtain ⟨a, m, ys, h1, h2, h3, h4, h5⟩ := h
  rw [h3.eq] at h2
  exact ⟨a, m, h1, h2, h4, h5⟩

set_option maxHeartbeats 2000000 in
/-- natural.Gcd. -/
theorem ngcd_any (a1 a2 : Option Addr) (n1 c1 n2 c2 : Nat) (xs ys : List Nat) (w : World) (h1 : Sl w a1 n1 c1 xs) (h2 : Sl w a2 n2 c2 ys) (ox : Ok xs) (oy : Ok ys) (hT : Tab64 w) :
    Calls Tryd.prog 7 #[.slice a1 n1 c1, .slice a2 n2 c2] w fun e w' => Res2 w w' (gcdL xs ys) e := by
  have K1 := may_any a1 n1 c1 xs w h1
  have K2 := may_any a2 n2 c2 ys w h2
  by_cases m1 : MayL xs = true
  · by_cases m2 : MayL ys = true
    · rw [m1] at K1; rw [m2] at K2
      have K1' := hide K1
      have K2' := hide K2
      have hl1 : n1 ≤ 2048 := by have := h1.len; have := MayL.len m1; omega
      have hl2 : n2 ≤ 2048 := by have := h2.len; have := MayL.len m2; omega
      have HC := hide (show gcdL xs ys = (limbs (Nat.gcd (val xs) (val ys)), 0) from by simp [gcdL, m1, m2])
      have KD := hide (divisor_any a1 a2 n1 c1 n2 c2 xs ys w h1 h2 ox oy (MayL.norm m1) (MayL.norm m2) hl1 hl2 hT)
      clear K1 K2 m1 m2 h1 h2 ox oy hT
      go_enter Tryd.func7, Tryd.ntmps7
      go_wp2_with fail
      refine (unhide K1').mono ?_
      rintro e w' ⟨rfl, hw⟩
      obtain rfl := hw.symm
      go_wp2_with fail
      refine (unhide K2').mono ?_
      rintro e w' ⟨rfl, hw⟩
      obtain rfl := hw.symm
      go_wp2_with fail
      refine (unhide KD).mono ?_
      intro e w1 hq
      obtain ⟨ag, mg, rfl, s1, q1, b1⟩ := newRep_res2 hq
      have HX := hide (And.intro s1 (And.intro q1 b1))
      clear hq s1 q1 b1 KD
      go_wp2
      go_ret2
      rw [unhide HC]
      exact ⟨ag, mg, mg, rfl, (unhide HX).1, (unhide HX).2.1, (unhide HX).2.2⟩
    · have m2' : MayL ys = false := by simpa using m2
      rw [m1] at K1; rw [m2'] at K2
      have K1' := hide K1
      have K2' := hide K2
      have HC := hide (show gcdL xs ys = ([], 20) from by simp [gcdL, m2'])
      clear K1 K2 m1 m2 m2' h1 h2 ox oy hT
      go_enter Tryd.func7, Tryd.ntmps7
      go_wp2_with fail
      refine (unhide K1').mono ?_
      rintro e w' ⟨rfl, hw⟩
      obtain rfl := hw.symm
      go_wp2_with fail
      refine (unhide K2').mono ?_
      rintro e w' ⟨rfl, hw⟩
      obtain rfl := hw.symm
      go_wp2
      go_ret2
      rw [unhide HC]
      exact ⟨none, 0, 0, rfl, sl_nil _, newAt_nil _, Below.refl _ _⟩
  · have m1' : MayL xs = false := by simpa using m1
    rw [m1'] at K1
    have K1' := hide K1
    have HC := hide (show gcdL xs ys = ([], 20) from by simp [gcdL, m1'])
    clear K1 K2 m1 m1' h1 h2 ox oy hT
    go_enter Tryd.func7, Tryd.ntmps7
    go_wp2_with fail
    refine (unhide K1').mono ?_
    rintro e w' ⟨rfl, hw⟩
    obtain rfl := hw.symm
    go_wp2
    go_ret2
    rw [unhide HC]
    exact ⟨none, 0, 0, rfl, sl_nil _, newAt_nil _, Below.refl _ _⟩

theorem may_div {xs : List Nat} (m : MayL xs = true) (ox : Ok xs) (d : Nat) : MayL (limbs (val xs / d)) = true := by
  refine MayL.mk (limbs_rep _).norm ?_
  have h1 : (limbs (val xs / d)).length ≤ xs.length := by
    refine rep_len_le (limbs_rep _) ?_
    exact Nat.lt_of_le_of_lt (Nat.div_le_self _ _) (val_lt ox)
  have := MayL.len m
  omega
theorem may_small {xs : List Nat} (m : MayL xs = true) (ox : Ok xs) {v : Nat} (h : v ≤ val xs) : MayL (limbs v) = true := by
  refine MayL.mk (limbs_rep _).norm ?_
  have h1 : (limbs v).length ≤ xs.length := rep_len_le (limbs_rep _) (Nat.lt_of_le_of_lt h (val_lt ox))
  have := MayL.len m
  omega
theorem val_pos_of_may {xs : List Nat} (m : MayL xs = true) (h : xs ≠ []) : 0 < val xs := by
  have a := val_ge_of_norm (MayL.norm m) h
  have b := pow_pos (xs.length - 1)
  omega
theorem limbs_ne {v : Nat} (h : 0 < v) : limbs v ≠ [] := by
  intro e
  have := (limbs_rep v).val
  rw [e] at this
  simp [val] at this
  omega

set_option maxHeartbeats 4000000 in
theorem nlcm_core (a1 a2 : Option Addr) (n1 c1 n2 c2 : Nat) (xs ys : List Nat) (w : World) (h1 : Sl w a1 n1 c1 xs) (h2 : Sl w a2 n2 c2 ys) (ox : Ok xs) (oy : Ok ys) (m1 : MayL xs = true) (m2 : MayL ys = true) (hx : xs ≠ []) (hy : ys ≠ []) (hT : Tab64 w) :
    Calls Tryd.prog 13 #[.slice a1 n1 c1, .slice a2 n2 c2] w fun e w' => Res2 w w' (fitL (val xs / Nat.gcd (val xs) (val ys) * val ys)) e := by
  have K1 := may_any a1 n1 c1 xs w h1
  have K2 := may_any a2 n2 c2 ys w h2
  rw [m1] at K1; rw [m2] at K2
  have K1' := hide K1
  have K2' := hide K2
  have hl1 : n1 ≤ 2048 := by have := h1.len; have := MayL.len m1; omega
  have hl2 : n2 ≤ 2048 := by have := h2.len; have := MayL.len m2; omega
  have hn1 : 0 < n1 := by rw [← h1.len]; exact List.length_pos_iff.2 hx
  have hn2 : 0 < n2 := by rw [← h2.len]; exact List.length_pos_iff.2 hy
  have t1 : ((n1:Int) == 0) = false := by simp; omega
  have t2 : ¬ (n1:Int) = 0 := by omega
  have t3 : ((n2:Int) == 0) = false := by simp; omega
  have t4 : ¬ (n2:Int) = 0 := by omega
  have KD := hide (divisor_any a1 a2 n1 c1 n2 c2 xs ys w h1 h2 ox oy (MayL.norm m1) (MayL.norm m2) hl1 hl2 hT)
  have hgp : 0 < Nat.gcd (val xs) (val ys) := Nat.gcd_pos_of_pos_left _ (val_pos_of_may m1 hx)
  have H1 := hide h1
  have H2 := hide h2
  have M1 := hide m1
  have M2 := hide m2
  clear K1 K2 h1 h2 m1 m2 hT
  generalize Nat.gcd (val xs) (val ys) = G at *
  go_enter Tryd.func13, Tryd.ntmps13
  go_wp2_with fail
  refine (unhide K1').mono ?_
  rintro e w' ⟨rfl, hw⟩
  obtain rfl := hw.symm
  go_wp2_with fail
  refine (unhide K2').mono ?_
  rintro e w' ⟨rfl, hw⟩
  obtain rfl := hw.symm
  clear K1' K2'
  go_wp2_with fail
  refine (unhide KD).mono ?_
  intro e w1 hq
  obtain ⟨ag, mg, rfl, s1, q1, b1⟩ := newRep_res2 hq
  have KV := divide_any a1 ag n1 c1 mg mg xs (limbs G) w1 ((unhide H1).below b1) s1 ox (limbs_rep G).ok (MayL.norm (unhide M1)) (limbs_rep G).norm hl1 (limbs_ne hgp)
  rw [(limbs_rep G).val] at KV
  have KV' := hide KV
  have HB1 := hide b1
  clear hq s1 q1 b1 KD KV
  go_wp2_with fail
  refine (unhide KV').mono ?_
  rintro e w2 ⟨aq, mq, zq, ar, mr, zr, rfl, s1, r1, q1, s2, r2, q2, hne, hB⟩
  rw [r1.eq] at s1
  have hB2 := (unhide HB1).trans (hB.mono (unhide HB1).size)
  have KM := nmul_any aq a2 mq mq n2 c2 _ ys w2 s1 ((unhide H2).below hB2) (limbs_rep _).ok oy
  rw [show mulL (limbs (val xs / G)) ys = fitL (val xs / G * val ys) from by simp [mulL, may_div (unhide M1) ox G, unhide M2, (limbs_rep _).val]] at KM
  have KM' := hide KM
  have HB2 := hide hB2
  clear KM hB2 s1 r1 q1 s2 r2 q2 hne hB KV'
  go_wp2_with fail
  refine (unhide KM').mono ?_
  rintro e w3 ⟨a3, m3, c3, rfl, s3, q3, b3⟩
  have H3 := hide (And.intro s3 (And.intro q3 b3))
  clear s3 q3 b3 KM'
  go_wp2
  go_ret2
  exact ⟨a3, m3, c3, rfl, (unhide H3).1, fun x hx => Nat.le_trans (unhide HB2).size ((unhide H3).2.1 x hx), (unhide HB2).trans ((unhide H3).2.2.mono (unhide HB2).size)⟩

set_option maxHeartbeats 2000000 in
/-- natural.Lcm. -/
theorem nlcm_any (a1 a2 : Option Addr) (n1 c1 n2 c2 : Nat) (xs ys : List Nat) (w : World) (h1 : Sl w a1 n1 c1 xs) (h2 : Sl w a2 n2 c2 ys) (ox : Ok xs) (oy : Ok ys) (hT : Tab64 w) :
    Calls Tryd.prog 13 #[.slice a1 n1 c1, .slice a2 n2 c2] w fun e w' => Res2 w w' (lcmL xs ys) e := by
  have K1 := may_any a1 n1 c1 xs w h1
  have K2 := may_any a2 n2 c2 ys w h2
  by_cases m1 : MayL xs = true
  · by_cases m2 : MayL ys = true
    · by_cases hx : xs = []
      · rw [m1] at K1; rw [m2] at K2
        have K1' := hide K1
        have K2' := hide K2
        have hz : n1 = 0 := by rw [← h1.len, hx]; rfl
        have HC := hide (show lcmL xs ys = ([], 0) from by unfold lcmL; rw [m1, m2]; simp [hx])
        subst hz
        clear K1 K2 m1 m2 h1 h2 ox oy hT
        go_enter Tryd.func13, Tryd.ntmps13
        go_wp2_with fail
        refine (unhide K1').mono ?_
        rintro e w' ⟨rfl, hw⟩
        obtain rfl := hw.symm
        go_wp2_with fail
        refine (unhide K2').mono ?_
        rintro e w' ⟨rfl, hw⟩
        obtain rfl := hw.symm
        go_wp2
        go_ret2
        rw [unhide HC]
        exact ⟨none, 0, 0, rfl, sl_nil _, newAt_nil _, Below.refl _ _⟩
      · by_cases hy : ys = []
        · rw [m1] at K1; rw [m2] at K2
          have K1' := hide K1
          have K2' := hide K2
          have hz : n2 = 0 := by rw [← h2.len, hy]; rfl
          have hn1 : 0 < n1 := by rw [← h1.len]; exact List.length_pos_iff.2 hx
          have t1 : ((n1:Int) == 0) = false := by simp; omega
          have t2 : ¬ (n1:Int) = 0 := by omega
          have HC := hide (show lcmL xs ys = ([], 0) from by unfold lcmL; rw [m1, m2]; simp [hy])
          subst hz
          clear K1 K2 m1 m2 h1 h2 ox oy hT
          go_enter Tryd.func13, Tryd.ntmps13
          go_wp2_with fail
          refine (unhide K1').mono ?_
          rintro e w' ⟨rfl, hw⟩
          obtain rfl := hw.symm
          go_wp2_with fail
          refine (unhide K2').mono ?_
          rintro e w' ⟨rfl, hw⟩
          obtain rfl := hw.symm
          go_wp2
          go_ret2
          rw [unhide HC]
          exact ⟨none, 0, 0, rfl, sl_nil _, newAt_nil _, Below.refl _ _⟩
        · rw [show lcmL xs ys = fitL (val xs / Nat.gcd (val xs) (val ys) * val ys) from by simp [lcmL, m1, m2, hx, hy]]
          exact nlcm_core a1 a2 n1 c1 n2 c2 xs ys w h1 h2 ox oy m1 m2 hx hy hT
    · have m2' : MayL ys = false := by simpa using m2
      rw [m1] at K1; rw [m2'] at K2
      have K1' := hide K1
      have K2' := hide K2
      have HC := hide (show lcmL xs ys = ([], 20) from by simp [lcmL, m2'])
      clear K1 K2 m1 m2 m2' h1 h2 ox oy hT
      go_enter Tryd.func13, Tryd.ntmps13
      go_wp2_with fail
      refine (unhide K1').mono ?_
      rintro e w' ⟨rfl, hw⟩
      obtain rfl := hw.symm
      go_wp2_with fail
      refine (unhide K2').mono ?_
      rintro e w' ⟨rfl, hw⟩
      obtain rfl := hw.symm
      go_wp2
      go_ret2
      rw [unhide HC]
      exact ⟨none, 0, 0, rfl, sl_nil _, newAt_nil _, Below.refl _ _⟩
  · have m1' : MayL xs = false := by simpa using m1
    rw [m1'] at K1
    have K1' := hide K1
    have HC := hide (show lcmL xs ys = ([], 20) from by simp [lcmL, m1'])
    clear K1 K2 m1 m1' h1 h2 ox oy hT
    go_enter Tryd.func13, Tryd.ntmps13
    go_wp2_with fail
    refine (unhide K1').mono ?_
    rintro e w' ⟨rfl, hw⟩
    obtain rfl := hw.symm
    go_wp2
    go_ret2
    rw [unhide HC]
    exact ⟨none, 0, 0, rfl, sl_nil _, newAt_nil _, Below.refl _ _⟩
open Go.RowKit Go.Deep
set_option linter.unusedVariables false

/-- What a round of sloperef1.Gcd leaves. -/
structure RgR (wr w : World) (G k : Nat) (ax : Option Addr) (nx cx X : Nat) (ay : Option Addr) (ny cy Y : Nat) : Prop where
  sx : Sl wr ax nx cx (limbs X)
  sy : Sl wr ay ny cy (limbs Y)
  mx : MayL (limbs X) = true
  my : MayL (limbs Y) = true
  hx : NewAt w.heap.size ax
  hy : NewAt w.heap.size ay
  gcd : Nat.gcd X Y = G
  bel : Below w.heap.size w wr
  lt : Y ≤ k

theorem divL_limbs {X Y : Nat} (mx : MayL (limbs X) = true) (my : MayL (limbs Y) = true) (hY : 0 < Y) : divL (limbs X) (limbs Y) = (limbs (X / Y), limbs (X % Y), 0) := by
  simp [divL, mx, my, limbs_ne hY, (limbs_rep X).val, (limbs_rep Y).val]

theorem RgR.step {wr w w2 : World} {G k : Nat} {ax ay : Option Addr} {nx cx X ny cy Y : Nat} (h : RgR wr w G k ax nx cx X ay ny cy Y) (hY : 0 < Y) {e : Ending} (hr : Res4w wr w2 (divL (limbs X) (limbs Y)) e) :
    ∃ aq mq cq ar mr cr, e = .returned (.tuple #[.slice aq mq cq, .slice ar mr cr, .int .i64 0]) ∧ X % Y < k ∧ RgR w2 w G (X % Y) ay ny cy Y ar mr cr (X % Y) := by
  rw [divL_limbs h.mx h.my hY] at hr
  obtain ⟨aq, mq, cq, ar, mr, cr, rfl, s1, q1, s2, q2, hB⟩ := hr
  have hml := Nat.mod_lt X hY
  refine ⟨aq, mq, cq, ar, mr, cr, rfl, by have := h.lt; omega, h.sy.below hB, s2, h.my, ?_, h.hy, fun x hx => Nat.le_trans h.bel.size (q2 x hx), ?_, h.bel.trans (hB.mono h.bel.size), Nat.le_refl _⟩
  · have := may_small h.my (limbs_rep Y).ok (v := X % Y) (by rw [(limbs_rep Y).val]; omega)
    exact this
  · rw [Nat.gcd_comm, ← Nat.gcd_rec, Nat.gcd_comm, h.gcd]

set_option maxHeartbeats 4000000 in
theorem rgcd_core (a1 a2 : Option Addr) (n1 c1 n2 c2 : Nat) (xs ys : List Nat) (w : World) (h1 : Sl w a1 n1 c1 xs) (h2 : Sl w a2 n2 c2 ys) (ox : Ok xs) (oy : Ok ys) (m1 : MayL xs = true) (m2 : MayL ys = true) :
    Calls Tryd.prog 15 #[.slice a1 n1 c1, .slice a2 n2 c2] w fun e w' => Res2 w w' (limbs (Nat.gcd (val xs) (val ys)), 0) e := by
  have K1 := rmay_any a1 n1 c1 xs w h1
  have K2 := rmay_any a2 n2 c2 ys w h2
  rw [m1] at K1; rw [m2] at K2
  have K1' := hide K1
  have K2' := hide K2
  have hl1 : n1 ≤ 2048 := by have := h1.len; have := MayL.len m1; omega
  have hl2 : n2 ≤ 2048 := by have := h2.len; have := MayL.len m2; omega
  have KT := hide (rtrim_any a1 n1 c1 xs w h1 ox (by omega))
  have H2 := hide h2
  have hM1 := hide (show MayL (limbs (val xs)) = true from may_small m1 ox (Nat.le_refl _))
  have hM2 := hide (show MayL (limbs (val ys)) = true from may_small m2 oy (Nat.le_refl _))
  obtain ⟨G, hG⟩ : ∃ G, Nat.gcd (val xs) (val ys) = G := ⟨_, rfl⟩
  rw [hG]
  have HG := hide hG
  clear K1 K2 h1 h2 m1 m2 hG
  go_enter Tryd.func15, Tryd.ntmps15
  go_wp2_with fail
  refine (unhide K1').mono ?_
  rintro e w' ⟨rfl, hw⟩
  obtain rfl := hw.symm
  go_wp2_with fail
  refine (unhide K2').mono ?_
  rintro e w' ⟨rfl, hw⟩
  obtain rfl := hw.symm
  clear K1' K2'
  go_wp2_with fail
  refine (unhide KT).mono ?_
  rintro e w1 ⟨ax, mx, zx, rfl, sx, rx, qx, bx⟩
  rw [rx.eq] at sx
  have KT2 := hide (rtrim_any a2 n2 c2 ys w1 ((unhide H2).below bx) oy (by omega))
  have HX := hide (And.intro sx (And.intro qx bx))
  clear sx rx qx bx KT
  go_wp2_with fail
  refine (unhide KT2).mono ?_
  rintro e w2 ⟨ay, my, zy, rfl, sy, ry, qy, by'⟩
  rw [ry.eq] at sy
  have HR0 := hide (show RgR w2 w G (val ys) ax mx mx (val xs) ay my my (val ys) from by
    obtain ⟨sx, qx, bx⟩ := unhide HX
    exact ⟨sx.below by', sy, unhide hM1, unhide hM2, qx, fun x hx => Nat.le_trans bx.size (qy x hx), unhide HG, bx.trans (by'.mono bx.size), Nat.le_refl _⟩)
  clear sy ry qy by' KT2 HX H2 hM1 hM2 HG
  go_wp2_with fail
  go_loopg [6, 7] (val ys) (fun k xv yv wr => ∃ ax nx cx X ay ny cy Y, xv = .slice ax nx cx ∧ yv = .slice ay ny cy ∧ RgR wr w G k ax nx cx X ay ny cy Y)
  case atStart => exact ⟨_, _, _, _, _, _, _, _, rfl, rfl, unhide HR0⟩
  case round =>
    clear HR0
    obtain ⟨ax, nx, cx, X, ay, ny, cy, Y, rfl, rfl, hR⟩ := hrel
    by_cases hz : ny = 0
    · subst hz
      have hy : limbs Y = [] := List.eq_nil_of_length_eq_zero hR.sy.len
      have hY : Y = 0 := by have := (limbs_rep Y).val; rw [hy] at this; simp [val] at this; exact this.symm
      have hg : G = X := by have := hR.gcd; rw [hY, Nat.gcd_zero_right] at this; exact this.symm
      have HN := hide (And.intro (show Sl wr ax nx cx (limbs G) from by rw [hg]; exact hR.sx) (And.intro hR.hx hR.bel))
      clear hR hy hY hg
      go_wp2_with fail
      go_ret2
      exact ⟨ax, nx, cx, rfl, (unhide HN).1, (unhide HN).2.1, (unhide HN).2.2⟩
    · have t1 : (0:Int) < (ny:Int) := by omega
      have hY : 0 < Y := by
        rcases Nat.eq_zero_or_pos Y with e | e
        · exfalso
          have := hR.sy.len
          rw [e, show limbs 0 = [] from rfl] at this
          simp at this
          omega
        · exact e
      have KD := hide (rdivmod_any ax ay nx cx ny cy (limbs X) (limbs Y) wr hR.sx hR.sy (limbs_rep X).ok (limbs_rep Y).ok)
      have HR := hide hR
      have HY := hide hY
      clear hR hY
      go_wp2_with fail
      refine (unhide KD).mono ?_
      intro e w5 hq
      obtain ⟨aq, mq, cq, ar, mr, cr, rfl, hk, hD⟩ := (unhide HR).step (unhide HY) hq
      have HD := hide hD
      have HK := hide hk
      clear hq hD hk KD HR HY
      generalize X % Y = rr at *
      go_wp2_with fail
      go_roundg rr
      case measure => exact unhide HK
      case rel => exact ⟨_, _, _, _, _, _, _, _, rfl, rfl, unhide HD⟩

set_option maxHeartbeats 2000000 in
/-- sloperef1.Gcd. -/
theorem rgcd_any (a1 a2 : Option Addr) (n1 c1 n2 c2 : Nat) (xs ys : List Nat) (w : World) (h1 : Sl w a1 n1 c1 xs) (h2 : Sl w a2 n2 c2 ys) (ox : Ok xs) (oy : Ok ys) :
    Calls Tryd.prog 15 #[.slice a1 n1 c1, .slice a2 n2 c2] w fun e w' => Res2 w w' (gcdL xs ys) e := by
  have K1 := rmay_any a1 n1 c1 xs w h1
  have K2 := rmay_any a2 n2 c2 ys w h2
  by_cases m1 : MayL xs = true
  · by_cases m2 : MayL ys = true
    · rw [show gcdL xs ys = (limbs (Nat.gcd (val xs) (val ys)), 0) from by simp [gcdL, m1, m2]]
      exact rgcd_core a1 a2 n1 c1 n2 c2 xs ys w h1 h2 ox oy m1 m2
    · have m2' : MayL ys = false := by simpa using m2
      rw [m1] at K1; rw [m2'] at K2
      have K1' := hide K1
      have K2' := hide K2
      have HC := hide (show gcdL xs ys = ([], 20) from by simp [gcdL, m2'])
      clear K1 K2 m1 m2 m2' h1 h2 ox oy
      go_enter Tryd.func15, Tryd.ntmps15
      go_wp2_with fail
      refine (unhide K1').mono ?_
      rintro e w' ⟨rfl, hw⟩
      obtain rfl := hw.symm
      go_wp2_with fail
      refine (unhide K2').mono ?_
      rintro e w' ⟨rfl, hw⟩
      obtain rfl := hw.symm
      go_wp2
      go_ret2
      rw [unhide HC]
      exact ⟨none, 0, 0, rfl, sl_nil _, newAt_nil _, Below.refl _ _⟩
  · have m1' : MayL xs = false := by simpa using m1
    rw [m1'] at K1
    have K1' := hide K1
    have HC := hide (show gcdL xs ys = ([], 20) from by simp [gcdL, m1'])
    clear K1 K2 m1 m1' h1 h2 ox oy
    go_enter Tryd.func15, Tryd.ntmps15
    go_wp2_with fail
    refine (unhide K1').mono ?_
    rintro e w' ⟨rfl, hw⟩
    obtain rfl := hw.symm
    go_wp2
    go_ret2
    rw [unhide HC]
    exact ⟨none, 0, 0, rfl, sl_nil _, newAt_nil _, Below.refl _ _⟩

set_option maxHeartbeats 4000000 in
/-- sloperef1.Lcm. -/
theorem rlcm_any (a1 a2 : Option Addr) (n1 c1 n2 c2 : Nat) (xs ys : List Nat) (w : World) (h1 : Sl w a1 n1 c1 xs) (h2 : Sl w a2 n2 c2 ys) (ox : Ok xs) (oy : Ok ys) :
    Calls Tryd.prog 16 #[.slice a1 n1 c1, .slice a2 n2 c2] w fun e w' => Res2 w w' (lcmL xs ys) e := by
  have KG := rgcd_any a1 a2 n1 c1 n2 c2 xs ys w h1 h2 ox oy
  by_cases hm : (MayL xs && MayL ys) = true
  · have m1 : MayL xs = true := by simp at hm; exact hm.1
    have m2 : MayL ys = true := by simp at hm; exact hm.2
    rw [show gcdL xs ys = (limbs (Nat.gcd (val xs) (val ys)), 0) from by simp [gcdL, m1, m2]] at KG
    have hl1 : n1 ≤ 2048 := by have := h1.len; have := MayL.len m1; omega
    have hl2 : n2 ≤ 2048 := by have := h2.len; have := MayL.len m2; omega
    by_cases hx : xs = []
    · have KG' := hide KG
      have hz : n1 = 0 := by rw [← h1.len, hx]; rfl
      have HC := hide (show lcmL xs ys = ([], 0) from by unfold lcmL; rw [m1, m2]; simp [hx])
      subst hz
      clear KG m1 m2 hm h1 h2 ox oy
      generalize Nat.gcd (val xs) (val ys) = G at *
      go_enter Tryd.func16, Tryd.ntmps16
      go_wp2_with fail
      refine (unhide KG').mono ?_
      rintro e w1 ⟨a3, m3, c3, rfl, s3, q3, b3⟩
      have H3 := hide b3
      clear s3 q3 b3 KG'
      go_wp2
      go_ret2
      rw [unhide HC]
      exact ⟨none, 0, 0, rfl, sl_nil _, newAt_nil _, unhide H3⟩
    · have hn1 : 0 < n1 := by rw [← h1.len]; exact List.length_pos_iff.2 hx
      have t1 : ((n1:Int) == 0) = false := by simp; omega
      have t2 : ¬ (n1:Int) = 0 := by omega
      by_cases hy : ys = []
      · have KG' := hide KG
        have hz : n2 = 0 := by rw [← h2.len, hy]; rfl
        have HC := hide (show lcmL xs ys = ([], 0) from by unfold lcmL; rw [m1, m2]; simp [hy])
        subst hz
        clear KG m1 m2 hm h1 h2 ox oy
        generalize Nat.gcd (val xs) (val ys) = G at *
        go_enter Tryd.func16, Tryd.ntmps16
        go_wp2_with fail
        refine (unhide KG').mono ?_
        rintro e w1 ⟨a3, m3, c3, rfl, s3, q3, b3⟩
        have H3 := hide b3
        clear s3 q3 b3 KG'
        go_wp2
        go_ret2
        rw [unhide HC]
        exact ⟨none, 0, 0, rfl, sl_nil _, newAt_nil _, unhide H3⟩
      · have hn2 : 0 < n2 := by rw [← h2.len]; exact List.length_pos_iff.2 hy
        have t3 : ((n2:Int) == 0) = false := by simp; omega
        have t4 : ¬ (n2:Int) = 0 := by omega
        have HC := hide (show lcmL xs ys = fitL (val xs / Nat.gcd (val xs) (val ys) * val ys) from by simp [lcmL, m1, m2, hx, hy])
        have hgp : 0 < Nat.gcd (val xs) (val ys) := Nat.gcd_pos_of_pos_left _ (val_pos_of_may m1 hx)
        have hgl : MayL (limbs (Nat.gcd (val xs) (val ys))) = true := may_small m1 ox (Nat.gcd_le_left _ (val_pos_of_may m1 hx))
        have KG' := hide KG
        have H1 := hide h1
        have H2 := hide h2
        have M1 := hide m1
        have M2 := hide m2
        have HGL := hide hgl
        clear KG m1 m2 hm h1 h2 hgl
        generalize Nat.gcd (val xs) (val ys) = G at *
        go_enter Tryd.func16, Tryd.ntmps16
        go_wp2_with fail
        refine (unhide KG').mono ?_
        rintro e w1 ⟨ag, mg, cg, rfl, s1, q1, b1⟩
        have KV := rdivmod_any a1 ag n1 c1 mg cg xs (limbs G) w1 ((unhide H1).below b1) s1 ox (limbs_rep G).ok
        rw [show divL xs (limbs G) = (limbs (val xs / G), limbs (val xs % G), 0) from by simp [divL, unhide M1, unhide HGL, limbs_ne hgp, (limbs_rep G).val]] at KV
        have KV' := hide KV
        have HB1 := hide b1
        clear s1 q1 b1 KV KG'
        go_wp2_with fail
        refine (unhide KV').mono ?_
        rintro e w2 ⟨aq, mq, cq, ar, mr, cr, rfl, s1, q1, s2, q2, hB⟩
        have hB2 := (unhide HB1).trans (hB.mono (unhide HB1).size)
        have KM := rmul_any aq a2 mq cq n2 c2 _ ys w2 s1 ((unhide H2).below hB2) (limbs_rep _).ok oy
        rw [show mulL (limbs (val xs / G)) ys = fitL (val xs / G * val ys) from by simp [mulL, may_div (unhide M1) ox G, unhide M2, (limbs_rep _).val]] at KM
        have KM' := hide KM
        have HB2 := hide hB2
        clear KM hB2 s1 q1 s2 q2 hB KV'
        go_wp2_with fail
        refine (unhide KM').mono ?_
        rintro e w3 ⟨a3, m3, c3, rfl, s3, q3, b3⟩
        have H3 := hide (And.intro s3 (And.intro q3 b3))
        clear s3 q3 b3 KM'
        go_wp2
        go_ret2
        rw [unhide HC]
        exact ⟨a3, m3, c3, rfl, (unhide H3).1, fun x hx => Nat.le_trans (unhide HB2).size ((unhide H3).2.1 x hx), (unhide HB2).trans ((unhide H3).2.2.mono (unhide HB2).size)⟩
  · rw [show gcdL xs ys = ([], 20) from by unfold gcdL; rw [if_neg hm]] at KG
    have KG' := hide KG
    have HC := hide (show lcmL xs ys = ([], 20) from by unfold lcmL; rw [if_neg hm])
    clear KG hm h1 h2 ox oy
    go_enter Tryd.func16, Tryd.ntmps16
    go_wp2_with fail
    refine (unhide KG').mono ?_
    rintro e w1 ⟨a3, m3, c3, rfl, s3, q3, b3⟩
    have H3 := hide b3
    clear s3 q3 b3 KG'
    go_wp2
    go_ret2
    rw [unhide HC]
    exact ⟨none, 0, 0, rfl, sl_nil _, newAt_nil _, unhide H3⟩
end Go.Proofs.YtlecjjcpidjmhaaDoor
