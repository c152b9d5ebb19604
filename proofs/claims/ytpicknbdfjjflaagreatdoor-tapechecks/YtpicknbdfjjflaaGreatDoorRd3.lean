/- Rd2 -/
import Derived.Test.YtpicknbdfjjflaaGreatDoorRd1
import Derived.Test.YtpicknbdfjjflaaGreatDoorDv7
namespace Go.Proofs.YtpicknbdfjjflaaGreatDoor
open Go.RowKit Go.Deep
set_option linter.unusedVariables false
def tw (x c : Nat) : Nat := 2 * x % 4294967296 + c
theorem tw_lt {x c : Nat} (hc : c ≤ 1) : tw x c < 4294967296 := by unfold tw; omega
structure TwR (wr w : World) (b n : Nat) (f : Nat → Nat) (bit k c : Nat) (g : Nat → Nat) : Prop where
  cle : c ≤ 1
  fn : Fn wr b 0 n g
  ok : ∀ i, i < n → g i < 4294967296
  eq : ∀ i, k ≤ i → i < n → g i = f i
  val : valF g k + 4294967296 ^ k * c = 2 * valF f k + bit
  upd : Upd b 0 n w wr

theorem tw_arith {A F P c x t bit : Nat} (h : A + P * c = 2 * F + bit) (e : t + 4294967296 * (x / 2147483648) = 2 * x + c) : A + P * t + P * 4294967296 * (x / 2147483648) = 2 * (F + P * x) + bit := by
  have : P * (t + 4294967296 * (x / 2147483648)) = P * (2 * x + c) := by rw [e]
  rw [Nat.mul_add, Nat.mul_add, ← Nat.mul_assoc, ← Nat.mul_assoc P 2, Nat.mul_comm P 2, Nat.mul_assoc 2] at this
  omega

theorem TwR.step {wr w : World} {b n : Nat} {f : Nat → Nat} {bit k c : Nat} {g : Nat → Nat} (h : TwR wr w b n f bit k c g) (hk : k < n) :
    TwR (wr.setCell ⟨b, 0 + k, none⟩ (.int .u32 (tw (g k) c : Nat))) w b n f bit (k + 1) (g k / 2147483648) (fun i => if i = k then tw (g k) c else g i) := by
  have hx := h.ok k hk
  refine ⟨by omega, h.fn.set k _ hk, ?_, ?_, ?_, h.upd.set _ _ (by omega) (by omega)⟩
  · intro i hi
    by_cases e : i = k
    · simp only [e, if_true]; exact tw_lt h.cle
    · simp only [e, if_false]; exact h.ok i hi
  · intro i h1 h2
    rw [if_neg (by omega)]
    exact h.eq i (by omega) h2
  · simp only [valF, if_true]
    rw [valF_congr (g := g) (fun i hi => by rw [if_neg (by omega)]), Nat.pow_succ, ← h.eq k (Nat.le_refl _) hk]
    refine tw_arith h.val ?_
    unfold tw
    omega

theorem TwR.drewN {wr w : World} {b n : Nat} {f : Nat → Nat} {bit k c : Nat} {g : Nat → Nat} (h : TwR wr w b n f bit k c g) (j : Nat) : TwR (wr.drewN j) w b n f bit k c g := ⟨h.cle, h.fn, h.ok, h.eq, h.val, h.upd.drewN j⟩

theorem dm_less {V D i r : Nat} (hD : 0 < D) (hr : r = 2 * (V / 2 ^ (i + 1) % D) + bitN V i) (h : r < D) : V / 2 ^ i % D = r ∧ V / 2 ^ i / D * 2 ^ i = V / 2 ^ (i + 1) / D * 2 ^ (i + 1) := by
  have e1 : V / 2 ^ (i + 1) = V / 2 ^ i / 2 := by rw [Nat.pow_succ, Nat.div_div_eq_div_mul]
  have e2 : V / 2 ^ i = D * (2 * (V / 2 ^ (i + 1) / D)) + r := by
    have h1 := Nat.div_add_mod (V / 2 ^ i) 2
    have h2 := Nat.div_add_mod (V / 2 ^ (i + 1)) D
    have h3 : D * (2 * (V / 2 ^ (i + 1) / D)) = 2 * (D * (V / 2 ^ (i + 1) / D)) := by rw [← Nat.mul_assoc, Nat.mul_comm D 2, Nat.mul_assoc]
    rw [h3]
    unfold bitN at hr
    rw [← e1] at h1
    omega
  have e3 := (Nat.div_mod_unique hD).2 ⟨(Nat.add_comm r _).trans e2.symm, h⟩
  refine ⟨e3.2, ?_⟩
  rw [e3.1, Nat.pow_succ, Nat.mul_comm 2, Nat.mul_assoc, Nat.mul_comm 2]

theorem dm_more {V D i r : Nat} (hD : 0 < D) (hr : r + D = 2 * (V / 2 ^ (i + 1) % D) + bitN V i) : V / 2 ^ i % D = r ∧ V / 2 ^ i / D * 2 ^ i = V / 2 ^ (i + 1) / D * 2 ^ (i + 1) + 2 ^ i := by
  have e1 : V / 2 ^ (i + 1) = V / 2 ^ i / 2 := by rw [Nat.pow_succ, Nat.div_div_eq_div_mul]
  have hb := bitN_lt V i
  have hm := Nat.mod_lt (V / 2 ^ (i + 1)) hD
  have e2 : V / 2 ^ i = D * (2 * (V / 2 ^ (i + 1) / D) + 1) + r := by
    have h1 := Nat.div_add_mod (V / 2 ^ i) 2
    have h2 := Nat.div_add_mod (V / 2 ^ (i + 1)) D
    have h3 : D * (2 * (V / 2 ^ (i + 1) / D) + 1) = 2 * (D * (V / 2 ^ (i + 1) / D)) + D := by rw [Nat.mul_add, ← Nat.mul_assoc, Nat.mul_comm D 2, Nat.mul_assoc, Nat.mul_one]
    rw [h3]
    unfold bitN at hr
    rw [← e1] at h1
    omega
  have e3 := (Nat.div_mod_unique hD).2 ⟨(Nat.add_comm r _).trans e2.symm, (by omega : r < D)⟩
  refine ⟨e3.2, ?_⟩
  rw [e3.1, Nat.add_mul, Nat.one_mul, Nat.pow_succ, Nat.mul_comm 2, Nat.mul_assoc, Nat.mul_comm 2]

theorem valF_put {f : Nat → Nat} {l d : Nat} : ∀ {n : Nat}, l < n → valF (fun i => if i = l then f l + d else f i) n = valF f n + 4294967296 ^ l * d
  | 0, h => by omega
  | n + 1, h => by
    simp only [valF]
    by_cases e : n = l
    · subst e
      rw [valF_congr (g := f) (fun i hi => by rw [if_neg (by omega)])]
      simp only [if_true, Nat.mul_add]
      omega
    · rw [valF_put (n := n) (by omega), if_neg e]
      omega

theorem limb_low {f : Nat → Nat} {n l s M : Nat} (ok : ∀ i, i < n → f i < 4294967296) (hl : l < n) (hs : s < 32) (hv : valF f n = M * 2 ^ (32 * l + s + 1)) : f l % 2 ^ (s + 1) = 0 := by
  have h1 : f l = valF f n / 4294967296 ^ l % 4294967296 := by
    have := val_drop (lst_ok ok) l
    rw [lst_val] at this
    rw [← this, val_drop_step, lst_getD f n l hl]
    have := ok l hl
    omega
  rw [h1, hv, pow_limb, Nat.add_assoc, Nat.pow_add, Nat.mul_comm (2 ^ (32 * l)), ← Nat.mul_assoc, Nat.mul_div_cancel _ (Nat.two_pow_pos _), show (4294967296 : Nat) = 2 ^ (s + 1) * 2 ^ (31 - s) from by rw [← Nat.pow_add]; rw [show s + 1 + (31 - s) = 32 from by omega], Nat.mod_mul_right_mod]
  exact Nat.mul_mod_left _ _

theorem or_bit {x s : Nat} (hx : x < 4294967296) (hs : s < 32) (h : x % 2 ^ (s + 1) = 0) : bits .or .u32 (x : Int) ((2 ^ s : Nat) : Int) = ((x + 2 ^ s : Nat) : Int) ∧ x + 2 ^ s < 4294967296 := by
  have hp := (pow_s hs)
  have h2 : 2 ^ s < 4294967296 := by have := Nat.pow_lt_pow_right (a := 2) (by decide) hs; omega
  have e : x = x / 2 ^ (s + 1) * 2 ^ (s + 1) := by have := Nat.div_add_mod x (2 ^ (s + 1)); rw [h, Nat.add_zero, Nat.mul_comm] at this; exact this.symm
  have e2 : x ||| 2 ^ s = x + 2 ^ s := by
    rw [e]
    have := Nat.shiftLeft_add_eq_or_of_lt (i := s + 1) (b := 2 ^ s) (Nat.pow_lt_pow_right (by decide) (by omega)) (x / 2 ^ (s + 1))
    rw [Nat.shiftLeft_eq] at this
    exact this.symm
  refine ⟨by rw [u32_or_nat _ _ hx h2, e2], ?_⟩
  rw [← e2]
  exact Nat.or_lt_two_pow (n := 32) hx h2

structure DmR (wr w : World) (bq n1 br n2 V D i : Nat) (f g : Nat → Nat) : Prop where
  q : Fn wr bq 0 n1 f
  qok : ∀ j, j < n1 → f j < 4294967296
  qv : valF f n1 = V / 2 ^ i / D * 2 ^ i
  r : Fn wr br 0 (n2 + 1) g
  rok : ∀ j, j < n2 + 1 → g j < 4294967296
  rv : valF g (n2 + 1) = V / 2 ^ i % D
  bel : Below w.heap.size w wr

theorem twice_val {g g' : Nat → Nat} {n c V D bit : Nat} (h : valF g' (n + 1) + 4294967296 ^ (n + 1) * c = 2 * valF g (n + 1) + bit) (hg : valF g (n + 1) < D) (hD : D ≤ 4294967296 ^ n) (hb : bit < 2) : valF g' (n + 1) = 2 * valF g (n + 1) + bit := by
  rcases Nat.eq_zero_or_pos c with h0 | h0
  · rw [h0, Nat.mul_zero] at h; omega
  · have h1 : 4294967296 ^ (n + 1) * 1 ≤ 4294967296 ^ (n + 1) * c := Nat.mul_le_mul_left _ h0
    have h2 : 4294967296 ^ (n + 1) = 4294967296 ^ n * 4294967296 := Nat.pow_succ ..
    omega

theorem DmR.less {wr w w5 : World} {bq n1 br n2 V D i : Nat} {f g g' : Nat → Nat} {c : Nat} (h : DmR wr w bq n1 br n2 V D (i + 1) f g) (t : TwR w5 wr br (n2 + 1) g (bitN V i) (n2 + 1) c g') (hD : 0 < D) (hD2 : D ≤ 4294967296 ^ n2) (hne : bq ≠ br) (hbr : w.heap.size ≤ br) (hl : valF g' (n2 + 1) < D) (k : Nat) : DmR (w5.drewN k) w bq n1 br n2 V D i f g' := by
  have hv := twice_val (V := V) t.val (by rw [h.rv]; exact Nat.mod_lt _ hD) hD2 (bitN_lt _ _)
  rw [h.rv] at hv
  have e := dm_less hD hv hl
  have u := t.upd
  exact ⟨u.fn h.q (.inl hne), h.qok, by rw [h.qv, e.2], t.fn, t.ok, e.1.symm, bel_drewN (h.bel.trans (u.below hbr h.bel.size)) k⟩

theorem DmR.more {wr w w5 w6 : World} {bq n1 br n2 V D i : Nat} {f g g' g2 : Nat → Nat} {c : Nat} (h : DmR wr w bq n1 br n2 V D (i + 1) f g) (t : TwR w5 wr br (n2 + 1) g (bitN V i) (n2 + 1) c g') (hD : 0 < D) (hD2 : D ≤ 4294967296 ^ n2) (hne : bq ≠ br) (hbr : w.heap.size ≤ br) (hbq : w.heap.size ≤ bq) (f2 : Fn w6 br 0 (n2 + 1) g2) (o2 : ∀ j, j < n2 + 1 → g2 j < 4294967296) (v2 : valF g2 (n2 + 1) + D = valF g' (n2 + 1)) (u2 : Upd br 0 (n2 + 1) w5 w6) {l s : Nat} (hi : i = 32 * l + s) (hs : s < 32) (hl : l < n1) :
    f l % 2 ^ (s + 1) = 0 ∧ Fn w6 bq 0 n1 f ∧ DmR (w6.setCell ⟨bq, 0 + l, none⟩ (.int .u32 (f l + 2 ^ s : Nat))) w bq n1 br n2 V D i (fun j => if j = l then f l + 2 ^ s else f j) g2 := by
  have hv := twice_val (V := V) t.val (by rw [h.rv]; exact Nat.mod_lt _ hD) hD2 (bitN_lt _ _)
  rw [h.rv, ← v2] at hv
  have e := dm_more hD hv
  have u := t.upd.trans u2
  have h0 : f l % 2 ^ (s + 1) = 0 := limb_low h.qok hl hs (by rw [h.qv, hi])
  have hq := u.fn h.q (.inl hne)
  have hx := (or_bit (h.qok l hl) hs h0).2
  refine ⟨h0, hq, hq.set l _ hl, ?_, ?_, ?_, o2, e.1.symm, ?_⟩
  · intro j hj
    by_cases k : j = l
    · simp only [k, if_true]; exact hx
    · simp only [k, if_false]; exact h.qok j hj
  · rw [valF_put hl, h.qv, e.2, pow_limb, ← Nat.pow_add, ← hi]
  · exact ((Upd.refl bq 0 n1 w6).set (0 + l) (.int .u32 (f l + 2 ^ s : Nat)) (by omega) (by omega)).fn f2 (.inl (Ne.symm hne))
  · exact (h.bel.trans (u.below hbr h.bel.size)).trans ((((Upd.refl bq 0 n1 w6).set (0 + l) (.int .u32 (f l + 2 ^ s : Nat)) (by omega) (by omega))).below hbq (Nat.le_trans h.bel.size (u.below hbr h.bel.size).size))

def Res4w (w w' : World) (r : List Nat × List Nat × Int) (e : Ending) : Prop :=
  ∃ aq mq cq ar mr cr, e = .returned (.tuple #[.slice aq mq cq, .slice ar mr cr, .int .i64 r.2.2]) ∧ Sl w' aq mq cq r.1 ∧ NewAt w.heap.size aq ∧ Sl w' ar mr cr r.2.1 ∧ NewAt w.heap.size ar ∧ Below w.heap.size w w'
end Go.Proofs.YtpicknbdfjjflaaGreatDoor
