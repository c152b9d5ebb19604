/- Rd2 -/
import Derived.Test.YtiadccaaoenccaaDoorRd1
import Derived.Test.YtiadccaaoenccaaDoorDv7
import Derived.Test.YtiadccaaoenccaaDoorGg
import Derived.Test.YtiadccaaoenccaaDoorShl
import Derived.Test.YtiadccaaoenccaaDoorCmp
namespace Go.Proofs.YtiadccaaoenccaaDoor
open Go.RowKit Go.Deep
set_option linter.unusedVariables false
def tw (x c : Nat) : Nat := 2 * x % 4294967296 + c
theorem tw_lt {x c : Nat} (hc : c ≤ 1) : tw x c < 4294967296 := by unfold tw; omega
structure TwR (wr w : World) (b n : Nat) (f : Nat → Nat) (bit k c : Nat) (g : Nat → Nat) : Prop where
  cle : c ≤ 1
  fn : Fn wr b 0 n g
  ok : ∀ i, i < n → g i < 4294967296
  eq : ∀ i, k ≤ i → i < n → g i = f i
  val : valF g k + 4294967296 ^ k * c = 2 * valF f k + bit
  upd : Upd b 0 n w wr

theorem tw_arith {A F P c x t bit : Nat} (h : A + P * c = 2 * F + bit) (e : t + 4294967296 * (x / 2147483648) = 2 * x + c) : A + P * t + P * 4294967296 * (x / 2147483648) = 2 * (F + P * x) + bit := by
  have : P * (t + 4294967296 * (x / 2147483648)) = P * (2 * x + c) := by rw [e]
  rw [Nat.mul_add, Nat.mul_add, ← Nat.mul_assoc, ← Nat.mul_assoc P 2, Nat.mul_comm P 2, Nat.mul_assoc 2] at this
  omega

theorem TwR.step {wr w : World} {b n : Nat} {f : Nat → Nat} {bit k c : Nat} {g : Nat → Nat} (h : TwR wr w b n f bit k c g) (hk : k < n) :
    TwR (wr.setCell ⟨b, 0 + k, none⟩ (.int .u32 (tw (g k) c : Nat))) w b n f bit (k + 1) (g k / 2147483648) (fun i => if i = k then tw (g k) c else g i) := by
  have hx := h.ok k hk
  refine ⟨by omega, h.fn.set k _ hk, ?_, ?_, ?_, h.upd.set _ _ (by omega) (by omega)⟩
  · intro i hi
    by_cases e : i = k
    · simp only [e, if_true]; exact tw_lt h.cle
    · simp only [e, if_false]; exact h.ok i hi
  · intro i h1 h2
    rw [if_neg (by omega)]
    exact h.eq i (by omega) h2
  · simp only [valF, if_true]
    rw [valF_congr (g := g) (fun i hi => by rw [if_neg (by omega)]), Nat.pow_succ, ← h.eq k (Nat.le_refl _) hk]
    refine tw_arith h.val ?_
    unfold tw
    omega

theorem TwR.drewN {wr w : World} {b n : Nat} {f : Nat → Nat} {bit k c : Nat} {g : Nat → Nat} (h : TwR wr w b n f bit k c g) (j : Nat) : TwR (wr.drewN j) w b n f bit k c g := ⟨h.cle, h.fn, h.ok, h.eq, h.val, h.upd.drewN j⟩
end Go.Proofs.YtiadccaaoenccaaDoor

namespace Go.Proofs.YtiadccaaoenccaaDoor
open Go.RowKit Go.Deep
set_option linter.unusedVariables false

end Go.Proofs.YtiadccaaoenccaaDoor
namespace Go.Proofs.YtiadccaaoenccaaDoor
open Go.RowKit Go.Deep
set_option linter.unusedVariables false
theorem dm_less {V D i r : Nat} (hD : 0 < D) (hr : r = 2 * (V / 2 ^ (i + 1) % D) + bitN V i) (h : r < D) : V / 2 ^ i % D = r ∧ V / 2 ^ i / D * 2 ^ i = V / 2 ^ (i + 1) / D * 2 ^ (i + 1) := by
  have e1 : V / 2 ^ (i + 1) = V / 2 ^ i / 2 := by rw [Nat.pow_succ, Nat.div_div_eq_div_mul]
  have e2 : V / 2 ^ i = D * (2 * (V / 2 ^ (i + 1) / D)) + r := by
    have h1 := Nat.div_add_mod (V / 2 ^ i) 2
    have h2 := Nat.div_add_mod (V / 2 ^ (i + 1)) D
    have h3 : D * (2 * (V / 2 ^ (i + 1) / D)) = 2 * (D * (V / 2 ^ (i + 1) / D)) := by rw [← Nat.mul_assoc, Nat.mul_comm D 2, Nat.mul_assoc]
    rw [h3]
    unfold bitN at hr
    rw [← e1] at h1
    omega
  have e3 := (Nat.div_mod_unique hD).2 ⟨(Nat.add_comm r _).trans e2.symm, h⟩
  refine ⟨e3.2, ?_⟩
  rw [e3.1, Nat.pow_succ, Nat.mul_comm 2, Nat.mul_assoc, Nat.mul_comm 2]

theorem dm_more {V D i r : Nat} (hD : 0 < D) (hr : r + D = 2 * (V / 2 ^ (i + 1) % D) + bitN V i) : V / 2 ^ i % D = r ∧ V / 2 ^ i / D * 2 ^ i = V / 2 ^ (i + 1) / D * 2 ^ (i + 1) + 2 ^ i := by
  have e1 : V / 2 ^ (i + 1) = V / 2 ^ i / 2 := by rw [Nat.pow_succ, Nat.div_div_eq_div_mul]
  have hb := bitN_lt V i
  have hm := Nat.mod_lt (V / 2 ^ (i + 1)) hD
  have e2 : V / 2 ^ i = D * (2 * (V / 2 ^ (i + 1) / D) + 1) + r := by
    have h1 := Nat.div_add_mod (V / 2 ^ i) 2
    have h2 := Nat.div_add_mod (V / 2 ^ (i + 1)) D
    have h3 : D * (2 * (V / 2 ^ (i + 1) / D) + 1) = 2 * (D * (V / 2 ^ (i + 1) / D)) + D := by rw [Nat.mul_add, ← Nat.mul_assoc, Nat.mul_comm D 2, Nat.mul_assoc, Nat.mul_one]
    rw [h3]
    unfold bitN at hr
    rw [← e1] at h1
    omega
  have e3 := (Nat.div_mod_unique hD).2 ⟨(Nat.add_comm r _).trans e2.symm, (by omega : r < D)⟩
  refine ⟨e3.2, ?_⟩
  rw [e3.1, Nat.add_mul, Nat.one_mul, Nat.pow_succ, Nat.mul_comm 2, Nat.mul_assoc, Nat.mul_comm 2]

theorem valF_put {f : Nat → Nat} {l d : Nat} : ∀ {n : Nat}, l < n → valF (fun i => if i = l then f l + d else f i) n = valF f n + 4294967296 ^ l * d
  | 0, h => by omega
  | n + 1, h => by
    simp only [valF]
    by_cases e : n = l
    · subst e
      rw [valF_congr (g := f) (fun i hi => by rw [if_neg (by omega)])]
      simp only [if_true, Nat.mul_add]
      omega
    · rw [valF_put (n := n) (by omega), if_neg e]
      omega

theorem limb_low {f : Nat → Nat} {n l s M : Nat} (ok : ∀ i, i < n → f i < 4294967296) (hl : l < n) (hs : s < 32) (hv : valF f n = M * 2 ^ (32 * l + s + 1)) : f l % 2 ^ (s + 1) = 0 := by
  have h1 : f l = valF f n / 4294967296 ^ l % 4294967296 := by
    have := val_drop (lst_ok ok) l
    rw [lst_val] at this
    rw [← this, val_drop_step, lst_getD f n l hl]
    have := ok l hl
    omega
  rw [h1, hv, pow_limb, Nat.add_assoc, Nat.pow_add, Nat.mul_comm (2 ^ (32 * l)), ← Nat.mul_assoc, Nat.mul_div_cancel _ (Nat.two_pow_pos _), show (4294967296 : Nat) = 2 ^ (s + 1) * 2 ^ (31 - s) from by rw [← Nat.pow_add]; rw [show s + 1 + (31 - s) = 32 from by omega], Nat.mod_mul_right_mod]
  exact Nat.mul_mod_left _ _

theorem or_bit {x s : Nat} (hx : x < 4294967296) (hs : s < 32) (h : x % 2 ^ (s + 1) = 0) : bits .or .u32 (x : Int) ((2 ^ s : Nat) : Int) = ((x + 2 ^ s : Nat) : Int) ∧ x + 2 ^ s < 4294967296 := by
  have hp := (pow_s hs)
  have h2 : 2 ^ s < 4294967296 := by have := Nat.pow_lt_pow_right (a := 2) (by decide) hs; omega
  have e : x = x / 2 ^ (s + 1) * 2 ^ (s + 1) := by have := Nat.div_add_mod x (2 ^ (s + 1)); rw [h, Nat.add_zero, Nat.mul_comm] at this; exact this.symm
  have e2 : x ||| 2 ^ s = x + 2 ^ s := by
    rw [e]
    have := Nat.shiftLeft_add_eq_or_of_lt (i := s + 1) (b := 2 ^ s) (Nat.pow_lt_pow_right (by decide) (by omega)) (x / 2 ^ (s + 1))
    rw [Nat.shiftLeft_eq] at this
    exact this.symm
  refine ⟨by rw [u32_or_nat _ _ hx h2, e2], ?_⟩
  rw [← e2]
  exact Nat.or_lt_two_pow (n := 32) hx h2

structure DmR (wr w : World) (bq n1 br n2 V D i : Nat) (f g : Nat → Nat) : Prop where
  q : Fn wr bq 0 n1 f
  qok : ∀ j, j < n1 → f j < 4294967296
  qv : valF f n1 = V / 2 ^ i / D * 2 ^ i
  r : Fn wr br 0 (n2 + 1) g
  rok : ∀ j, j < n2 + 1 → g j < 4294967296
  rv : valF g (n2 + 1) = V / 2 ^ i % D
  bel : Below w.heap.size w wr

theorem twice_val {g g' : Nat → Nat} {n c V D bit : Nat} (h : valF g' (n + 1) + 4294967296 ^ (n + 1) * c = 2 * valF g (n + 1) + bit) (hg : valF g (n + 1) < D) (hD : D ≤ 4294967296 ^ n) (hb : bit < 2) : valF g' (n + 1) = 2 * valF g (n + 1) + bit := by
  rcases Nat.eq_zero_or_pos c with h0 | h0
  · rw [h0, Nat.mul_zero] at h; omega
  · have h1 : 4294967296 ^ (n + 1) * 1 ≤ 4294967296 ^ (n + 1) * c := Nat.mul_le_mul_left _ h0
    have h2 : 4294967296 ^ (n + 1) = 4294967296 ^ n * 4294967296 := Nat.pow_succ ..
    omega

theorem DmR.less {wr w w5 : World} {bq n1 br n2 V D i : Nat} {f g g' : Nat → Nat} {c : Nat} (h : DmR wr w bq n1 br n2 V D (i + 1) f g) (t : TwR w5 wr br (n2 + 1) g (bitN V i) (n2 + 1) c g') (hD : 0 < D) (hD2 : D ≤ 4294967296 ^ n2) (hne : bq ≠ br) (hbr : w.heap.size ≤ br) (hl : valF g' (n2 + 1) < D) (k : Nat) : DmR (w5.drewN k) w bq n1 br n2 V D i f g' := by
  have hv := twice_val (V := V) t.val (by rw [h.rv]; exact Nat.mod_lt _ hD) hD2 (bitN_lt _ _)
  rw [h.rv] at hv
  have e := dm_less hD hv hl
  have u := t.upd
  exact ⟨u.fn h.q (.inl hne), h.qok, by rw [h.qv, e.2], t.fn, t.ok, e.1.symm, bel_drewN (h.bel.trans (u.below hbr h.bel.size)) k⟩

theorem DmR.more {wr w w5 w6 : World} {bq n1 br n2 V D i : Nat} {f g g' g2 : Nat → Nat} {c : Nat} (h : DmR wr w bq n1 br n2 V D (i + 1) f g) (t : TwR w5 wr br (n2 + 1) g (bitN V i) (n2 + 1) c g') (hD : 0 < D) (hD2 : D ≤ 4294967296 ^ n2) (hne : bq ≠ br) (hbr : w.heap.size ≤ br) (hbq : w.heap.size ≤ bq) (f2 : Fn w6 br 0 (n2 + 1) g2) (o2 : ∀ j, j < n2 + 1 → g2 j < 4294967296) (v2 : valF g2 (n2 + 1) + D = valF g' (n2 + 1)) (u2 : Upd br 0 (n2 + 1) w5 w6) {l s : Nat} (hi : i = 32 * l + s) (hs : s < 32) (hl : l < n1) :
    f l % 2 ^ (s + 1) = 0 ∧ Fn w6 bq 0 n1 f ∧ DmR (w6.setCell ⟨bq, 0 + l, none⟩ (.int .u32 (f l + 2 ^ s : Nat))) w bq n1 br n2 V D i (fun j => if j = l then f l + 2 ^ s else f j) g2 := by
  have hv := twice_val (V := V) t.val (by rw [h.rv]; exact Nat.mod_lt _ hD) hD2 (bitN_lt _ _)
  rw [h.rv, ← v2] at hv
  have e := dm_more hD hv
  have u := t.upd.trans u2
  have h0 : f l % 2 ^ (s + 1) = 0 := limb_low h.qok hl hs (by rw [h.qv, hi])
  have hq := u.fn h.q (.inl hne)
  have hx := (or_bit (h.qok l hl) hs h0).2
  refine ⟨h0, hq, hq.set l _ hl, ?_, ?_, ?_, o2, e.1.symm, ?_⟩
  · intro j hj
    by_cases k : j = l
    · simp only [k, if_true]; exact hx
    · simp only [k, if_false]; exact h.qok j hj
  · rw [valF_put hl, h.qv, e.2, pow_limb, ← Nat.pow_add, ← hi]
  · exact ((Upd.refl bq 0 n1 w6).set (0 + l) (.int .u32 (f l + 2 ^ s : Nat)) (by omega) (by omega)).fn f2 (.inl (Ne.symm hne))
  · exact (h.bel.trans (u.below hbr h.bel.size)).trans ((((Upd.refl bq 0 n1 w6).set (0 + l) (.int .u32 (f l + 2 ^ s : Nat)) (by omega) (by omega))).below hbq (Nat.le_trans h.bel.size (u.below hbr h.bel.size).size))

def Res4w (w w' : World) (r : List Nat × List Nat × Int) (e : Ending) : Prop :=
  ∃ aq mq cq ar mr cr, e = .returned (.tuple #[.slice aq mq cq, .slice ar mr cr, .int .i64 r.2.2]) ∧ Sl w' aq mq cq r.1 ∧ NewAt w.heap.size aq ∧ Sl w' ar mr cr r.2.1 ∧ NewAt w.heap.size ar ∧ Below w.heap.size w w'
def gcdL (xs ys : List Nat) : List Nat × Int := if MayL xs && MayL ys then (limbs (Nat.gcd (val xs) (val ys)), 0) else ([], 20)
theorem newRep_res2 {w w' : World} {v : Nat} {e : Ending} (h : NewRep w w' v e) : ∃ a m, e = .returned (.slice a m m) ∧ Sl w' a m m (limbs v) ∧ NewAt w.heap.size a ∧ Below w.heap.size w w' := by
  obtain ⟨a, m, ys, h1, h2, h3, h4, h5⟩ := h
  rw [h3.eq] at h2
  exact ⟨a, m, h1, h2, h4, h5⟩

set_option maxHeartbeats 2000000 in
theorem ngcd_any (a1 a2 : Option Addr) (n1 c1 n2 c2 : Nat) (xs ys : List Nat) (w : World) (h1 : Sl w a1 n1 c1 xs) (h2 : Sl w a2 n2 c2 ys) (ox : Ok xs) (oy : Ok ys) (hT : Tab64 w) :
    Calls Tryd.prog 58 #[.slice a1 n1 c1, .slice a2 n2 c2] w fun e w' => Res2 w w' (gcdL xs ys) e := by
  have K1 := may_any a1 n1 c1 xs w h1
  have K2 := may_any a2 n2 c2 ys w h2
  by_cases m1 : MayL xs = true
  · by_cases m2 : MayL ys = true
    · rw [m1] at K1; rw [m2] at K2
      have K1' := hide K1
      have K2' := hide K2
      have hl1 : n1 ≤ 2048 := by have := h1.len; have := MayL.len m1; omega
      have hl2 : n2 ≤ 2048 := by have := h2.len; have := MayL.len m2; omega
      have HC := hide (show gcdL xs ys = (limbs (Nat.gcd (val xs) (val ys)), 0) from by simp [gcdL, m1, m2])
      have KD := hide (divisor_any a1 a2 n1 c1 n2 c2 xs ys w h1 h2 ox oy (MayL.norm m1) (MayL.norm m2) hl1 hl2 hT)
      clear K1 K2 m1 m2 h1 h2 ox oy hT
      go_enter Tryd.func58, Tryd.ntmps58
      go_wp2_with fail
      refine (unhide K1').mono ?_
      rintro e w' ⟨rfl, hw⟩
      obtain rfl := hw.symm
      go_wp2_with fail
      refine (unhide K2').mono ?_
      rintro e w' ⟨rfl, hw⟩
      obtain rfl := hw.symm
      go_wp2_with fail
      refine (unhide KD).mono ?_
      intro e w1 hq
      obtain ⟨ag, mg, rfl, s1, q1, b1⟩ := newRep_res2 hq
      have HX := hide (And.intro s1 (And.intro q1 b1))
      clear hq s1 q1 b1 KD
      go_wp2
      go_ret2
      rw [unhide HC]
      exact ⟨ag, mg, mg, rfl, (unhide HX).1, (unhide HX).2.1, (unhide HX).2.2⟩
    · have m2' : MayL ys = false := by simpa using m2
      rw [m1] at K1; rw [m2'] at K2
      have K1' := hide K1
      have K2' := hide K2
      have HC := hide (show gcdL xs ys = ([], 20) from by simp [gcdL, m2'])
      clear K1 K2 m1 m2 m2' h1 h2 ox oy hT
      go_enter Tryd.func58, Tryd.ntmps58
      go_wp2_with fail
      refine (unhide K1').mono ?_
      rintro e w' ⟨rfl, hw⟩
      obtain rfl := hw.symm
      go_wp2_with fail
      refine (unhide K2').mono ?_
      rintro e w' ⟨rfl, hw⟩
      obtain rfl := hw.symm
      go_wp2
      go_ret2
      rw [unhide HC]
      exact ⟨none, 0, 0, rfl, sl_nil _, newAt_nil _, Below.refl _ _⟩
  · have m1' : MayL xs = false := by simpa using m1
    rw [m1'] at K1
    have K1' := hide K1
    have HC := hide (show gcdL xs ys = ([], 20) from by simp [gcdL, m1'])
    clear K1 K2 m1 m1' h1 h2 ox oy hT
    go_enter Tryd.func58, Tryd.ntmps58
    go_wp2_with fail
    refine (unhide K1').mono ?_
    rintro e w' ⟨rfl, hw⟩
    obtain rfl := hw.symm
    go_wp2
    go_ret2
    rw [unhide HC]
    exact ⟨none, 0, 0, rfl, sl_nil _, newAt_nil _, Below.refl _ _⟩

theorem may_small {xs : List Nat} (m : MayL xs = true) (ox : Ok xs) {v : Nat} (h : v ≤ val xs) : MayL (limbs v) = true := by
  refine MayL.mk (limbs_rep _).norm ?_
  have h1 : (limbs v).length ≤ xs.length := rep_len_le (limbs_rep _) (Nat.lt_of_le_of_lt h (val_lt ox))
  have := MayL.len m
  omega
theorem limbs_ne {v : Nat} (h : 0 < v) : limbs v ≠ [] := by
  intro e
  have := (limbs_rep v).val
  rw [e] at this
  simp [val] at this
  omega

open Go.RowKit Go.Deep
set_option linter.unusedVariables false

structure RgR (wr w : World) (G k : Nat) (ax : Option Addr) (nx cx X : Nat) (ay : Option Addr) (ny cy Y : Nat) : Prop where
  sx : Sl wr ax nx cx (limbs X)
  sy : Sl wr ay ny cy (limbs Y)
  mx : MayL (limbs X) = true
  my : MayL (limbs Y) = true
  hx : NewAt w.heap.size ax
  hy : NewAt w.heap.size ay
  gcd : Nat.gcd X Y = G
  bel : Below w.heap.size w wr
  lt : Y ≤ k

theorem divL_limbs {X Y : Nat} (mx : MayL (limbs X) = true) (my : MayL (limbs Y) = true) (hY : 0 < Y) : divL (limbs X) (limbs Y) = (limbs (X / Y), limbs (X % Y), 0) := by
  simp [divL, mx, my, limbs_ne hY, (limbs_rep X).val, (limbs_rep Y).val]

theorem RgR.step {wr w w2 : World} {G k : Nat} {ax ay : Option Addr} {nx cx X ny cy Y : Nat} (h : RgR wr w G k ax nx cx X ay ny cy Y) (hY : 0 < Y) {e : Ending} (hr : Res4w wr w2 (divL (limbs X) (limbs Y)) e) :
    ∃ aq mq cq ar mr cr, e = .returned (.tuple #[.slice aq mq cq, .slice ar mr cr, .int .i64 0]) ∧ X % Y < k ∧ RgR w2 w G (X % Y) ay ny cy Y ar mr cr (X % Y) := by
  rw [divL_limbs h.mx h.my hY] at hr
  obtain ⟨aq, mq, cq, ar, mr, cr, rfl, s1, q1, s2, q2, hB⟩ := hr
  have hml := Nat.mod_lt X hY
  refine ⟨aq, mq, cq, ar, mr, cr, rfl, by have := h.lt; omega, h.sy.below hB, s2, h.my, ?_, h.hy, fun x hx => Nat.le_trans h.bel.size (q2 x hx), ?_, h.bel.trans (hB.mono h.bel.size), Nat.le_refl _⟩
  · have := may_small h.my (limbs_rep Y).ok (v := X % Y) (by rw [(limbs_rep Y).val]; omega)
    exact this
  · rw [Nat.gcd_comm, ← Nat.gcd_rec, Nat.gcd_comm, h.gcd]
set_option maxHeartbeats 4000000 in
theorem isOne_any (a : Option Addr) (n c : Nat) (xs : List Nat) (w : World) (h : Sl w a n c xs) (ok : Ok xs) :
    Calls Tryd.prog 51 #[.slice a n c] w fun e w' => e = .returned (.bool (decide (xs = [1]))) ∧ w' = w := by
  have hl := h.len
  by_cases h1 : n = 1
  · subst h1
    obtain ⟨x, rfl⟩ : ∃ x, xs = [x] := by
      match xs, hl with
      | [x], _ => exact ⟨x, rfl⟩
    obtain ⟨b, off, rfl, hc⟩ := h.cells.resolve_left (by simp)
    have c0 := hc 0 (by simp)
    have hx := ok.head
    simp only [List.getD, List.getElem?_cons_zero, Option.getD_some] at c0
    rw [Nat.add_zero] at c0
    clear hc h
    by_cases hx1 : x = 1
    · subst hx1
      go_enter Tryd.func51, Tryd.ntmps51
      go_wp2_with fail
      go_ret
      exact ⟨by simp, rfl⟩
    · have t1 : ((x:Int) == 1) = false := by simp; omega
      have t2 : ¬ (x:Int) = 1 := by omega
      go_enter Tryd.func51, Tryd.ntmps51
      go_wp2_with fail
      go_ret
      exact ⟨by simp [hx1], rfl⟩
  · have t1 : ((n:Int) == 1) = false := by simp; omega
    have t2 : ¬ (n:Int) = 1 := by omega
    have hne : ¬ xs = [1] := by intro e; rw [e] at hl; simp at hl; omega
    have HN := hide hne
    clear h hne
    go_enter Tryd.func51, Tryd.ntmps51
    go_wp2_with fail
    go_ret
    exact ⟨by simp [unhide HN], rfl⟩

set_option maxHeartbeats 4000000 in
theorem ratOne_any (w : World) :
    Calls Tryd.prog 56 #[] w fun e w' => ∃ a m, e = .returned (.slice a m m) ∧ Sl w' a m m [1] ∧ NewAt w.heap.size a ∧ Below w.heap.size w w' := by
  have K := hide (from_any 1 w (by decide))
  go_enter Tryd.func56, Tryd.ntmps56
  go_wp2_with fail
  refine (unhide K).mono ?_
  rintro _ w1 ⟨a1, m1, y1, rfl, s1, r1, n1, b1⟩
  have e1 : y1 = [1] := r1.unique ⟨Ok.cons (by decide) Ok.nil, .inr (by decide), by simp [val]⟩
  subst e1
  have H := hide (And.intro s1 (And.intro n1 b1))
  clear s1 r1 n1 b1 K
  go_wp2_with fail
  go_ret
  exact ⟨a1, m1, rfl, (unhide H).1, (unhide H).2.1, (unhide H).2.2⟩

theorem sure_any (v : Value) (e : Int) (w : World) : Calls Tryd.prog 57 #[v, .int .i64 e] w fun x w' => x = .returned v ∧ w' = w := by
  go_enter Tryd.func57, Tryd.ntmps57
  go_wp2
  go_ret
  exact ⟨rfl, rfl⟩

def NewN (w w' : World) (v : Nat) (e : Ending) : Prop := ∃ a m c, e = .returned (.slice a m c) ∧ Sl w' a m c (limbs v) ∧ NewAt w.heap.size a ∧ Below w.heap.size w w'

theorem limbs_1 : limbs 1 = [1] := by decide

set_option maxHeartbeats 4000000 in
theorem ratDivisor_any (a1 a2 : Option Addr) (n1 c1 n2 c2 : Nat) (xs ys : List Nat) (w : World) (h1 : Sl w a1 n1 c1 xs) (h2 : Sl w a2 n2 c2 ys) (ox : Ok xs) (oy : Ok ys) (m1 : MayL xs = true) (m2 : MayL ys = true) (hT : Tab64 w) :
    Calls Tryd.prog 52 #[.slice a1 n1 c1, .slice a2 n2 c2] w fun e w' => NewN w w' (Nat.gcd (val xs) (val ys)) e := by
  have K1 := isOne_any a1 n1 c1 xs w h1 ox
  have K2 := isOne_any a2 n2 c2 ys w h2 oy
  have KG := ngcd_any a1 a2 n1 c1 n2 c2 xs ys w h1 h2 ox oy hT
  rw [show gcdL xs ys = (limbs (Nat.gcd (val xs) (val ys)), 0) from by simp [gcdL, m1, m2]] at KG
  have KO := hide (ratOne_any w)
  have KG' := hide KG
  clear KG h1 h2 ox oy m1 m2 hT
  by_cases e1 : xs = [1]
  · rw [decide_eq_true e1] at K1
    have HV := hide (show Nat.gcd (val xs) (val ys) = 1 from by rw [e1]; simp [val])
    have K1' := hide K1
    clear K1 K2 e1 KG'
    go_enter Tryd.func52, Tryd.ntmps52
    go_wp2_with fail
    refine (unhide K1').mono ?_
    rintro _ _ ⟨rfl, hw⟩
    obtain rfl := hw.symm
    clear hw
    go_wp2_with fail
    refine (unhide KO).mono ?_
    rintro _ w1 ⟨a3, m3, rfl, s3, n3, b3⟩
    have H := hide (And.intro s3 (And.intro n3 b3))
    clear s3 n3 b3
    go_wp2_with fail
    go_ret
    rw [unhide HV]
    exact ⟨a3, m3, m3, rfl, by rw [limbs_1]; exact (unhide H).1, (unhide H).2.1, (unhide H).2.2⟩
  · rw [decide_eq_false e1] at K1
    by_cases e2 : ys = [1]
    · rw [decide_eq_true e2] at K2
      have HV := hide (show Nat.gcd (val xs) (val ys) = 1 from by rw [e2]; simp [val])
      have K1' := hide K1
      have K2' := hide K2
      clear K1 K2 e1 e2 KG'
      go_enter Tryd.func52, Tryd.ntmps52
      go_wp2_with fail
      refine (unhide K1').mono ?_
      rintro _ _ ⟨rfl, hw⟩
      obtain rfl := hw.symm
      clear hw
      go_wp2_with fail
      refine (unhide K2').mono ?_
      rintro _ _ ⟨rfl, hw⟩
      obtain rfl := hw.symm
      clear hw
      go_wp2_with fail
      refine (unhide KO).mono ?_
      rintro _ w1 ⟨a3, m3, rfl, s3, n3, b3⟩
      have H := hide (And.intro s3 (And.intro n3 b3))
      clear s3 n3 b3
      go_wp2_with fail
      go_ret
      rw [unhide HV]
      exact ⟨a3, m3, m3, rfl, by rw [limbs_1]; exact (unhide H).1, (unhide H).2.1, (unhide H).2.2⟩
    · rw [decide_eq_false e2] at K2
      have K1' := hide K1
      have K2' := hide K2
      clear K1 K2 e1 e2 KO
      generalize Nat.gcd (val xs) (val ys) = G at *
      go_enter Tryd.func52, Tryd.ntmps52
      go_wp2_with fail
      refine (unhide K1').mono ?_
      rintro _ _ ⟨rfl, hw⟩
      obtain rfl := hw.symm
      clear hw
      go_wp2_with fail
      refine (unhide K2').mono ?_
      rintro _ _ ⟨rfl, hw⟩
      obtain rfl := hw.symm
      clear hw
      go_wp2_with fail
      refine (unhide KG').mono ?_
      rintro _ w1 ⟨a3, m3, c3, rfl, s3, n3, b3⟩
      have H := hide (And.intro s3 (And.intro n3 b3))
      clear s3 n3 b3
      go_wp2_with fail
      refine (sure_any _ _ _).mono ?_
      rintro _ _ ⟨rfl, hw⟩
      obtain rfl := hw.symm
      clear hw
      go_wp2_with fail
      go_ret
      exact ⟨a3, m3, c3, rfl, (unhide H).1, (unhide H).2.1, (unhide H).2.2⟩
def ratV (neg : Bool) (a1 : Option Addr) (n1 c1 : Nat) (a2 : Option Addr) (n2 c2 : Nat) : Value := .agg #[.bool neg, .slice a1 n1 c1, .slice a2 n2 c2]

def MayR (neg : Bool) (xs ys : List Nat) : Bool := MayL xs && MayL ys && !decide (ys = []) && !(neg && decide (xs = [])) && decide (Nat.gcd (val xs) (val ys) = 1)

def ratBox (w : World) (neg : Bool) (a1 : Option Addr) (n1 c1 : Nat) (a2 : Option Addr) (n2 c2 : Nat) : World := w.alloc (.cells #[.bool neg, .slice a1 n1 c1, .slice a2 n2 c2] 52)

theorem one_is {v : Nat} : (limbs v = [1]) = (v = 1) := by
  apply propext
  constructor
  · intro h
    have := (limbs_rep v).val
    rw [h] at this
    simp [val] at this
    exact this.symm
  · intro h
    rw [h, limbs_1]

set_option maxHeartbeats 8000000 in
theorem ratMay_any (neg : Bool) (a1 a2 : Option Addr) (n1 c1 n2 c2 : Nat) (xs ys : List Nat) (w : World) (h1 : Sl w a1 n1 c1 xs) (h2 : Sl w a2 n2 c2 ys) (ox : Ok xs) (oy : Ok ys) (hT : Tab64 w) :
    Calls Tryd.prog 42 #[ratV neg a1 n1 c1 a2 n2 c2] w fun e w' => e = .returned (.bool (MayR neg xs ys)) ∧ Below w.heap.size w w' := by
  have bel : Below w.heap.size w (ratBox w neg a1 n1 c1 a2 n2 c2) := (Below.refl _ _).alloc (Nat.le_refl _) _
  have d0 : (ratBox w neg a1 n1 c1 a2 n2 c2).cell? ⟨w.heap.size, 0, none⟩ = some (.bool neg) := by simp [ratBox]
  have d1 : (ratBox w neg a1 n1 c1 a2 n2 c2).cell? ⟨w.heap.size, 1, none⟩ = some (.slice a1 n1 c1) := by simp [ratBox]
  have d2 : (ratBox w neg a1 n1 c1 a2 n2 c2).cell? ⟨w.heap.size, 2, none⟩ = some (.slice a2 n2 c2) := by simp [ratBox]
  obtain ⟨wa, hwa⟩ : ∃ wa, ratBox w neg a1 n1 c1 a2 n2 c2 = wa := ⟨_, rfl⟩
  rw [hwa] at bel d0 d1 d2
  unfold ratBox at hwa
  have K1 := may_any a1 n1 c1 xs wa (h1.below bel)
  have K2 := may_any a2 n2 c2 ys wa (h2.below bel)
  have hl1 := h1.len
  have hl2 := h2.len
  have HB := hide bel
  cases m1 : MayL xs
  · rw [m1] at K1
    have K1' := hide K1
    have HR := hide (show MayR neg xs ys = false from by simp [MayR, m1])
    clear K1 K2 h1 h2 hT m1 bel
    unfold ratV
    go_enter Tryd.func42, Tryd.ntmps42
    go_wp2_with fail
    refine (unhide K1').mono ?_
    rintro _ _ ⟨rfl, hw⟩
    obtain rfl := hw.symm
    clear hw
    go_wp2_with fail
    go_ret
    rw [unhide HR]
    exact ⟨rfl, unhide HB⟩
  · rw [m1] at K1
    cases m2 : MayL ys
    · rw [m2] at K2
      have K1' := hide K1
      have K2' := hide K2
      have HR := hide (show MayR neg xs ys = false from by simp [MayR, m2])
      clear K1 K2 h1 h2 hT m1 m2 bel
      unfold ratV
      go_enter Tryd.func42, Tryd.ntmps42
      go_wp2_with fail
      refine (unhide K1').mono ?_
      rintro _ _ ⟨rfl, hw⟩
      obtain rfl := hw.symm
      clear hw
      go_wp2_with fail
      refine (unhide K2').mono ?_
      rintro _ _ ⟨rfl, hw⟩
      obtain rfl := hw.symm
      clear hw
      go_wp2_with fail
      go_ret
      rw [unhide HR]
      exact ⟨rfl, unhide HB⟩
    · rw [m2] at K2
      have K1' := hide K1
      have K2' := hide K2
      by_cases hy : ys = []
      · have HR := hide (show MayR neg xs ys = false from by simp [MayR, hy])
        have hn2 : n2 = 0 := by rw [← hl2, hy]; rfl
        subst hn2
        clear K1 K2 h1 h2 hT m1 m2 bel
        unfold ratV
        go_enter Tryd.func42, Tryd.ntmps42
        go_wp2_with fail
        refine (unhide K1').mono ?_
        rintro _ _ ⟨rfl, hw⟩
        obtain rfl := hw.symm
        clear hw
        go_wp2_with fail
        refine (unhide K2').mono ?_
        rintro _ _ ⟨rfl, hw⟩
        obtain rfl := hw.symm
        clear hw
        go_wp2_with fail
        go_ret
        rw [unhide HR]
        exact ⟨rfl, unhide HB⟩
      · have hn2 : 0 < n2 := by rw [← hl2]; exact List.length_pos_iff.2 hy
        have t1 : ((n2:Int) == 0) = false := by simp; omega
        have t2 : ¬ (n2:Int) = 0 := by omega
        by_cases hz : neg = true ∧ xs = []
        · obtain ⟨rfl, hx⟩ := hz
          have hn1 : n1 = 0 := by rw [← hl1, hx]; rfl
          subst hn1
          have HR := hide (show MayR true xs ys = false from by simp [MayR, hx])
          clear K1 K2 h1 h2 hT m1 m2 bel
          unfold ratV
          go_enter Tryd.func42, Tryd.ntmps42
          go_wp2_with fail
          refine (unhide K1').mono ?_
          rintro _ _ ⟨rfl, hw⟩
          obtain rfl := hw.symm
          clear hw
          go_wp2_with fail
          refine (unhide K2').mono ?_
          rintro _ _ ⟨rfl, hw⟩
          obtain rfl := hw.symm
          clear hw
          go_wp2_with fail
          go_ret
          rw [unhide HR]
          exact ⟨rfl, unhide HB⟩
        · have hz2 : neg = false ∨ ¬ xs = [] := by
            cases neg
            · exact .inl rfl
            · right; intro e; exact hz ⟨rfl, e⟩
          obtain ⟨G, hG⟩ : ∃ G, Nat.gcd (val xs) (val ys) = G := ⟨_, rfl⟩
          have HR := hide (show MayR neg xs ys = decide (G = 1) from by
            subst hG
            rcases hz2 with e | e
            · simp [MayR, m1, m2, hy, e]
            · simp [MayR, m1, m2, hy, e])
          have KD0 := ratDivisor_any a1 a2 n1 c1 n2 c2 xs ys wa (h1.below bel) (h2.below bel) ox oy m1 m2 (hT.below bel)
          rw [hG] at KD0
          have KD := hide KD0
          clear KD0 hG
          have hz3 : neg = false ∨ (neg = true ∧ 0 < n1) := by
            cases neg
            · exact .inl rfl
            · right
              refine ⟨rfl, ?_⟩
              rw [← hl1]
              exact List.length_pos_iff.2 (hz2.resolve_left (by simp))
          clear K1 K2 h1 h2 hT m1 m2 bel hz hz2
          unfold ratV
          rcases hz3 with rfl | ⟨rfl, hn1⟩
          · go_enter Tryd.func42, Tryd.ntmps42
            go_wp2_with fail
            refine (unhide K1').mono ?_
            rintro _ _ ⟨rfl, hw⟩
            obtain rfl := hw.symm
            clear hw
            go_wp2_with fail
            refine (unhide K2').mono ?_
            rintro _ _ ⟨rfl, hw⟩
            obtain rfl := hw.symm
            clear hw
            go_wp2_with fail
            refine (unhide KD).mono ?_
            rintro _ w1 ⟨a3, m3, c3, rfl, s3, n3, b3⟩
            have KI := isOne_any a3 m3 c3 (limbs G) w1 s3 (limbs_rep G).ok
            simp only [one_is] at KI
            have KI' := hide KI
            have HB1 := hide ((unhide HB).trans (b3.mono (unhide HB).size))
            clear KI s3 n3 b3
            go_wp2_with fail
            refine (unhide KI').mono ?_
            rintro _ _ ⟨rfl, hw⟩
            obtain rfl := hw.symm
            clear hw
            go_wp2_with fail
            go_ret
            rw [unhide HR]
            exact ⟨rfl, unhide HB1⟩
          · have t3 : ((n1:Int) == 0) = false := by simp; omega
            have t4 : ¬ (n1:Int) = 0 := by omega
            go_enter Tryd.func42, Tryd.ntmps42
            go_wp2_with fail
            refine (unhide K1').mono ?_
            rintro _ _ ⟨rfl, hw⟩
            obtain rfl := hw.symm
            clear hw
            go_wp2_with fail
            refine (unhide K2').mono ?_
            rintro _ _ ⟨rfl, hw⟩
            obtain rfl := hw.symm
            clear hw
            go_wp2_with fail
            refine (unhide KD).mono ?_
            rintro _ w1 ⟨a3, m3, c3, rfl, s3, n3, b3⟩
            have KI := isOne_any a3 m3 c3 (limbs G) w1 s3 (limbs_rep G).ok
            simp only [one_is] at KI
            have KI' := hide KI
            have HB1 := hide ((unhide HB).trans (b3.mono (unhide HB).size))
            clear KI s3 n3 b3
            go_wp2_with fail
            refine (unhide KI').mono ?_
            rintro _ _ ⟨rfl, hw⟩
            obtain rfl := hw.symm
            clear hw
            go_wp2_with fail
            go_ret
            rw [unhide HR]
            exact ⟨rfl, unhide HB1⟩
end Go.Proofs.YtiadccaaoenccaaDoor
