/- Dv5 -/
import Derived.Test.YtiadccaaoenccaaDoorDv4
import Derived.Test.YtiadccaaoenccaaDoorBase
import Derived.Test.YtiadccaaoenccaaDoorRd1
namespace Go.Proofs.YtiadccaaoenccaaDoor
open Go.RowKit Go.Deep
set_option linter.unusedVariables false
theorem rep_len_le' {v j : Nat} {zs : List Nat} (h : Rep v zs) (hv : v < 4294967296 ^ j) : zs.length ≤ j := by
  rcases Nat.lt_or_ge j zs.length with hlt | hge
  · exfalso
    have h1 := val_ge_of_norm h.norm (by intro e; subst e; simp at hlt)
    rw [h.val] at h1
    have h2 : 4294967296 ^ j ≤ 4294967296 ^ (zs.length - 1) := pow_mono (by omega)
    omega
  · exact hge

theorem top_split {xs : List Nat} {n : Nat} (hl : xs.length = n) (h0 : 0 < n) : val xs = val (xs.take (n - 1)) + 4294967296 ^ (n - 1) * xs.getD (n - 1) 0 := by
  rw [val_split xs (n - 1) (by omega), drop_cons (by omega), List.drop_eq_nil_of_le (by omega)]
  simp [val]

theorem norm_shift {ys zs : List Nat} {n s : Nat} (hl : ys.length = n) (h0 : 0 < n) (oy : Ok ys) (hbl : Lib.bitLen (ys.getD (n - 1) 0) + s = 32) (ht : ys.getD (n - 1) 0 ≠ 0) (hr : Rep (val ys * 2 ^ s) zs) : zs.length = n ∧ 2147483648 ≤ zs.getD (n - 1) 0 := by
  have bt := oy.getD (n - 1)
  have h1 := bl_lt _ _ (Nat.le_refl (ys.getD (n - 1) 0)) (by omega)
  have h2 := bl_ge _ _ (Nat.le_refl (ys.getD (n - 1) 0)) ht (by omega)
  have hb1 := bl_pos _ ht (by omega)
  have e := top_split hl h0
  have hlo := take_lt_pow oy (n - 1) (by omega)
  generalize ys.getD (n - 1) 0 = t at *
  generalize val (ys.take (n - 1)) = lo at *
  have p1 : 2 ^ Lib.bitLen t * 2 ^ s = 4294967296 := by rw [← Nat.pow_add, hbl]
  have p2 : 2 ^ (Lib.bitLen t - 1) * 2 ^ s = 2147483648 := by rw [← Nat.pow_add, show Lib.bitLen t - 1 + s = 31 from by omega]
  generalize 2 ^ Lib.bitLen t = T at *
  generalize 2 ^ (Lib.bitLen t - 1) = T' at *
  generalize 2 ^ s = S at *
  have q1 : (t + 1) * S ≤ 4294967296 := by rw [← p1]; exact Nat.mul_le_mul_right _ h1
  have q2 : 2147483648 ≤ t * S := by rw [← p2]; exact Nat.mul_le_mul_right _ h2
  have hpow : 4294967296 ^ n = 4294967296 ^ (n - 1) * 4294967296 := by rw [← Nat.pow_succ]; congr 1; omega
  generalize hP : 4294967296 ^ (n - 1) = P at *
  have hup : val ys * S < 4294967296 ^ n := by
    rw [e, hpow]
    have a1 : (lo + P * t) * S < (P * (t + 1)) * S ∨ S = 0 := by
      rcases Nat.eq_zero_or_pos S with k | k
      · exact .inr k
      · refine .inl (Nat.mul_lt_mul_of_pos_right ?_ k)
        rw [Nat.mul_add]; omega
    rcases a1 with a1 | a1
    · rw [Nat.mul_assoc] at a1
      exact Nat.lt_of_lt_of_le a1 (Nat.mul_le_mul_left _ q1)
    · rw [a1] at q2; omega
  have hdn : P * 2147483648 ≤ val ys * S := by
    rw [e, Nat.add_mul, Nat.mul_assoc]
    exact Nat.le_trans (Nat.mul_le_mul_left P q2) (Nat.le_add_left _ _)
  have hP0 : 0 < P := by rw [← hP]; exact pow_pos _
  have hlen : zs.length = n := by
    have a := rep_len_le' hr hup
    rcases Nat.lt_or_ge zs.length n with k | k
    · exfalso
      have b := val_lt hr.ok
      rw [hr.val] at b
      have c : 4294967296 ^ zs.length ≤ P := by rw [← hP]; exact pow_mono (by omega)
      omega
    · omega
  refine ⟨hlen, ?_⟩
  have ez := top_split hlen h0
  rw [hr.val, hP] at ez
  have hz := take_lt_pow hr.ok (n - 1) (by omega)
  rw [hP] at hz
  generalize zs.getD (n - 1) 0 = z at *
  rcases Nat.lt_or_ge z 2147483648 with k | k
  · exfalso
    have : P * (z + 1) ≤ P * 2147483648 := Nat.mul_le_mul_left _ k
    rw [Nat.mul_add] at this
    omega
  · exact k

structure LgR (wr w0 : World) (bu bq bv ov n1 n2 m : Nat) (vs : List Nat) (A V k : Nat) (f g : Nat → Nat) : Prop where
  fn : Fn wr bu 0 (n1 + 1) f
  ok : ∀ i, i < n1 + 1 → f i < 4294967296
  qn : Fn wr bq 0 m g
  qk : ∀ i, i < m → g i < 4294967296
  tot : valF f (n1 + 1) + 4294967296 ^ k * (valF (fun i => g (k + i)) (m - k) * V) = A
  lt : valF f (n1 + 1) < V * 4294967296 ^ k
  vc : Cells wr bv ov vs
  bel : Below w0.heap.size w0 wr

theorem mul_cancel {P a b : Nat} (hP : 0 < P) (h : P * a < P * b) : a < b := Nat.lt_of_mul_lt_mul_left h

theorem lg_win {W rest lo P V Q t : Nat} (hP : 0 < P) (h : t = lo + P * (W + Q * rest)) (hlt : t < V * (P * 4294967296)) (hV : V * 4294967296 ≤ Q) (hQ : 0 < Q) : W < V * 4294967296 ∧ rest = 0 := by
  have h1 : P * (W + Q * rest) < P * (V * 4294967296) := by
    have : V * (P * 4294967296) = P * (V * 4294967296) := by rw [Nat.mul_left_comm]
    omega
  have h2 := mul_cancel hP h1
  refine ⟨by omega, ?_⟩
  rcases Nat.eq_zero_or_pos rest with k | k
  · exact k
  · exfalso
    have : Q * 1 ≤ Q * rest := Nat.mul_le_mul_left _ k
    omega

theorem lg_tot {t t' P W W' q V G : Nat} {A : Nat} (h : t + P * 4294967296 * (G * V) = A) (hw : W' + q * V = W) (h1 : t' + P * W = t + P * W') : t' + P * ((q + 4294967296 * G) * V) = A := by
  subst hw
  subst h
  rw [Nat.add_mul, Nat.mul_add P, Nat.mul_assoc 4294967296 G V, ← Nat.mul_assoc P 4294967296]
  rw [Nat.mul_add] at h1
  omega

theorem LgR.win {wr w0 : World} {bu bq bv ov n1 n2 m : Nat} {vs : List Nat} {A V k : Nat} {f g : Nat → Nat} (h : LgR wr w0 bu bq bv ov n1 n2 m vs A V (k + 1) f g) (hm : m + n2 = n1 + 1) (hk : k < m) (hV : V < 4294967296 ^ n2) :
    valF (fun i => f (k + i)) (n2 + 1) < V * 4294967296 ∧ valF (fun i => f (k + (n2 + 1 + i))) (n1 + 1 - k - (n2 + 1)) = 0 := by
  have e1 := valF_add f k (n1 + 1 - k)
  rw [show k + (n1 + 1 - k) = n1 + 1 from by omega] at e1
  have e2 := valF_add (fun i => f (k + i)) (n2 + 1) (n1 + 1 - k - (n2 + 1))
  rw [show n2 + 1 + (n1 + 1 - k - (n2 + 1)) = n1 + 1 - k from by omega] at e2
  rw [e2] at e1
  have hl := h.lt
  rw [Nat.pow_succ] at hl
  refine lg_win (pow_pos k) e1 hl ?_ (pow_pos (n2 + 1))
  rw [Nat.pow_succ]
  exact Nat.mul_le_mul_right _ (Nat.le_of_lt hV)

def putWin (f f' : Nat → Nat) (k n : Nat) : Nat → Nat := fun i => if i < k then f i else if i < k + n then f' (i - k) else f i

theorem putWin_fn {w w' : World} {b N k n : Nat} {f f' : Nat → Nat} (h : Fn w b 0 N f) (u : Upd b k (k + n) w w') (h' : Fn w' b k n f') (hk : k + n ≤ N) : Fn w' b 0 N (putWin f f' k n) := by
  intro i hi
  unfold putWin
  by_cases e1 : i < k
  · simp only [e1, if_true, Nat.zero_add]
    have := h i hi
    rw [Nat.zero_add] at this
    exact ⟨(u.cell i (.inl e1)).trans this.1, (u.froz i).trans this.2⟩
  · by_cases e2 : i < k + n
    · simp only [e1, e2, if_true, if_false, Nat.zero_add]
      have := h' (i - k) (by omega)
      rw [show k + (i - k) = i from by omega] at this
      exact this
    · simp only [e1, e2, if_false, Nat.zero_add]
      have := h i hi
      rw [Nat.zero_add] at this
      exact ⟨(u.cell i (.inr (by omega))).trans this.1, (u.froz i).trans this.2⟩

theorem putWin_val (f f' : Nat → Nat) (k n m : Nat) : valF (putWin f f' k n) (k + (n + m)) + 4294967296 ^ k * valF (fun i => f (k + i)) n = valF f (k + (n + m)) + 4294967296 ^ k * valF f' n := by
  have c1 := valF_add (putWin f f' k n) k (n + m)
  have c2 := valF_add f k (n + m)
  have c3 := valF_add (fun i => putWin f f' k n (k + i)) n m
  have c4 := valF_add (fun i => f (k + i)) n m
  rw [c3] at c1
  rw [c4] at c2
  rw [c1, c2]
  have a1 : valF (putWin f f' k n) k = valF f k := valF_congr (fun i hi => by simp [putWin, hi])
  have a2 : valF (fun i => putWin f f' k n (k + i)) n = valF f' n := valF_congr (fun i hi => by
    unfold putWin
    rw [if_neg (by omega), if_pos (by omega), Nat.add_sub_cancel_left])
  have a3 : valF (fun i => putWin f f' k n (k + (n + i))) m = valF (fun i => f (k + (n + i))) m := valF_congr (fun i hi => by
    unfold putWin
    rw [if_neg (by omega), if_neg (by omega)])
  rw [a1, a2, a3, Nat.mul_add, Nat.mul_add]
  omega

theorem putWin_ok {f f' : Nat → Nat} {k n N : Nat} (h : ∀ i, i < N → f i < 4294967296) (h' : ∀ i, i < n → f' i < 4294967296) : ∀ i, i < N → putWin f f' k n i < 4294967296 := by
  intro i hi
  unfold putWin
  split
  · exact h i hi
  · split
    · exact h' _ (by omega)
    · exact h i hi

theorem LgR.step {wr w1 w0 : World} {bu bq bv ov n1 n2 m : Nat} {vs : List Nat} {A V k : Nat} {f g : Nat → Nat} (h : LgR wr w0 bu bq bv ov n1 n2 m vs A V (k + 1) f g) (hm : m + n2 = n1 + 1) (hk : k < m) (hV : V < 4294967296 ^ n2) (hb1 : bq ≠ bu) (hb2 : bv ≠ bu) (hb3 : bv ≠ bq) (hu : w0.heap.size ≤ bu) (hq : w0.heap.size ≤ bq)
    {q : Nat} {f' : Nat → Nat} (hqb : q < 4294967296) (hF : Fn w1 bu k (n2 + 1) f') (hok : ∀ i, i < n2 + 1 → f' i < 4294967296) (hval : valF f' (n2 + 1) + q * V = valF (fun i => f (k + i)) (n2 + 1)) (hlt : valF f' (n2 + 1) < V) (u : Upd bu k (k + (n2 + 1)) wr w1) :
    LgR (w1.setCell ⟨bq, 0 + k, none⟩ (.int .u32 (q : Nat))) w0 bu bq bv ov n1 n2 m vs A V k (putWin f f' k (n2 + 1)) (fun i => if i = k then q else g i) := by
  have ⟨hw, hz⟩ := h.win hm hk hV
  have uq : Upd bq (0 + k) (0 + k + 1) w1 (w1.setCell ⟨bq, 0 + k, none⟩ (.int .u32 (q : Nat))) := (Upd.refl _ _ _ w1).set _ _ (Nat.le_refl _) (by omega)
  have qn1 : Fn w1 bq 0 m g := u.fn h.qn (.inl hb1)
  have eN : n1 + 1 = k + (n2 + 1 + (n1 + 1 - k - (n2 + 1))) := by omega
  have hpv := putWin_val f f' k (n2 + 1) (n1 + 1 - k - (n2 + 1))
  rw [← eN] at hpv
  have heg : valF (fun i => (fun i => if i = k then q else g i) (k + i)) (m - k) = q + 4294967296 * valF (fun i => g (k + 1 + i)) (m - (k + 1)) := by
    rw [valF_head (fun i => if i = k then q else g i) k m hk]
    simp only [if_true]
    congr 2
    exact valF_congr (fun i _ => by rw [if_neg (by omega)])
  refine ⟨uq.fn (putWin_fn h.fn u hF (by omega)) (.inl hb1.symm), putWin_ok h.ok hok, qn1.set k q hk, ?_, ?_, ?_, uq.cells (u.cells h.vc (.inl hb2)) (.inl hb3), ?_⟩
  · intro i hi
    by_cases e : i = k
    · simp only [e, if_true]; exact hqb
    · simp only [e, if_false]; exact h.qk i hi
  · rw [heg]
    have ht := h.tot
    rw [Nat.pow_succ] at ht
    exact lg_tot ht hval hpv
  · have e1 := valF_add (putWin f f' k (n2 + 1)) k (n2 + 1 + (n1 + 1 - k - (n2 + 1)))
    have e2 := valF_add (fun i => putWin f f' k (n2 + 1) (k + i)) (n2 + 1) (n1 + 1 - k - (n2 + 1))
    have a2 : valF (fun i => putWin f f' k (n2 + 1) (k + i)) (n2 + 1) = valF f' (n2 + 1) := valF_congr (fun i hi => by
      unfold putWin
      rw [if_neg (by omega), if_pos (by omega), Nat.add_sub_cancel_left])
    have a3 : valF (fun i => putWin f f' k (n2 + 1) (k + (n2 + 1 + i))) (n1 + 1 - k - (n2 + 1)) = 0 := by
      rw [← hz]
      exact valF_congr (fun i hi => by
        unfold putWin
        rw [if_neg (by omega), if_neg (by omega)])
    have a1 : valF (putWin f f' k (n2 + 1)) k < 4294967296 ^ k := valF_lt (fun i hi => putWin_ok h.ok hok i (by omega))
    rw [a2, a3, Nat.mul_zero, Nat.add_zero] at e2
    rw [← eN, e2] at e1
    rw [e1, Nat.mul_comm V]
    exact low_lt a1 hlt
  · exact h.bel.trans ((u.below hu h.bel.size).trans (uq.below hq (Nat.le_trans h.bel.size u.size)))

theorem LgR.drewN {wr w0 : World} {bu bq bv ov n1 n2 m : Nat} {vs : List Nat} {A V k : Nat} {f g : Nat → Nat} (h : LgR wr w0 bu bq bv ov n1 n2 m vs A V k f g) (j : Nat) : LgR (wr.drewN j) w0 bu bq bv ov n1 n2 m vs A V k f g := ⟨h.fn, h.ok, h.qn, h.qk, h.tot, h.lt, h.vc, bel_drewN h.bel j⟩
end Go.Proofs.YtiadccaaoenccaaDoor
namespace Go.Proofs.YtiadccaaoenccaaDoor
set_option linter.unusedVariables false
def Dif (o : Bool) (p q A B r : Nat) : Prop := if o then r + q * B = p * A else r + p * A = q * B
theorem dif_true {p q A B r : Nat} : Dif true p q A B r ↔ r + q * B = p * A := Iff.rfl
theorem dif_false {p q A B r : Nat} : Dif false p q A B r ↔ r + p * A = q * B := by simp [Dif]

theorem top_mul (K p X α : Nat) : p * (K * X + α) = K * (p * X) + p * α := by rw [Nat.mul_add, ← Nat.mul_assoc, Nat.mul_comm p K, Nat.mul_assoc]

theorem dif_top {o : Bool} {p q X Y r A B K α β : Nat} (h : Dif o p q X Y r) (hA : A = K * X + α) (hB : B = K * Y + β) (ha : α < K) (hb : β < K) (hpq : p ≤ q) (hq : q ≤ r) : ∃ R, Dif o p q A B R ∧ (1 ≤ q → 1 ≤ R) := by
  have h1 : K * q ≤ K * r := Nat.mul_le_mul_left K hq
  have h2 : p * α ≤ q * α := Nat.mul_le_mul_right α hpq
  have h3 : q * α ≤ q * K := Nat.mul_le_mul_left q (Nat.le_of_lt ha)
  have h4 : q * β ≤ q * K := Nat.mul_le_mul_left q (Nat.le_of_lt hb)
  have h5 : q * K = K * q := Nat.mul_comm _ _
  have h6 : 1 ≤ q → q * α < q * K := fun h => Nat.mul_lt_mul_of_pos_left ha h
  have h7 : 1 ≤ q → q * β < q * K := fun h => Nat.mul_lt_mul_of_pos_left hb h
  subst hA hB
  cases o
  · rw [dif_false] at h
    have e : K * r + K * (p * X) = K * (q * Y) := by rw [← Nat.mul_add, h]
    refine ⟨K * r + q * β - p * α, ?_, ?_⟩
    · rw [dif_false, top_mul, top_mul]; omega
    · intro h0; have := h6 h0; omega
  · rw [dif_true] at h
    have e : K * r + K * (q * Y) = K * (p * X) := by rw [← Nat.mul_add, h]
    refine ⟨K * r + p * α - q * β, ?_, ?_⟩
    · rw [dif_true, top_mul, top_mul]; omega
    · intro h0; have := h7 h0; omega

theorem dif_sub {o : Bool} {u1 v1 u2 v2 A B r s d : Nat} (h1 : Dif o u1 v1 A B r) (h2 : Dif (!o) u2 v2 A B s) : Dif o (u1 + u2) (v1 + v2) A B d ↔ d + s = r := by
  cases o
  · rw [dif_false] at *
    rw [show (!false) = true from rfl, dif_true] at h2
    rw [Nat.add_mul, Nat.add_mul]
    omega
  · rw [dif_true] at *
    rw [show (!true) = false from rfl, dif_false] at h2
    rw [Nat.add_mul, Nat.add_mul]
    omega

theorem dif_step {o : Bool} {u1 v1 u2 v2 A B x y q z : Nat} (h1 : Dif o u1 v1 A B x) (h2 : Dif (!o) u2 v2 A B y) (hz : z + q * y = x) : Dif o (u1 + q * u2) (v1 + q * v2) A B z := by
  have e : ∀ (p C : Nat), (q * p) * C = q * (p * C) := fun p C => Nat.mul_assoc _ _ _
  cases o
  · rw [dif_false] at *
    rw [show (!false) = true from rfl, dif_true] at h2
    have e2 : q * y + q * (v2 * B) = q * (u2 * A) := by rw [← Nat.mul_add, h2]
    rw [Nat.add_mul, Nat.add_mul, e, e]
    omega
  · rw [dif_true] at *
    rw [show (!true) = false from rfl, dif_false] at h2
    have e2 : q * y + q * (u2 * A) = q * (v2 * B) := by rw [← Nat.mul_add, h2]
    rw [Nat.add_mul, Nat.add_mul, e, e]
    omega

structure Whole (A B : Nat) (o : Bool) (u0 u1 u2 v0 v1 v2 R0 R1 q : Nat) : Prop where
  d0 : Dif (!o) u0 v0 A B R0
  d1 : Dif o u1 v1 A B R1
  lt : R1 < R0
  gcd : Nat.gcd R0 R1 = Nat.gcd A B
  leB : R1 ≤ B
  le0 : v0 ≠ 0 → R0 ≤ B
  u2e : u2 = u0 + q * u1
  v2e : v2 = v0 + q * v1

structure Leh (A B X Y : Nat) (o : Bool) (u0 u1 u2 v0 v1 v2 x y : Nat) : Prop where
  hx : Dif o u1 v1 X Y x
  hy : Dif (!o) u2 v2 X Y y
  le1 : u1 + u2 ≤ v1 + v2
  le2 : u2 ≤ v2
  pos : 1 ≤ v2
  idn : x * v2 + y * v1 = X
  yx : y ≤ x
  bu0 : u0 < 4294967296
  bu1 : u1 < 4294967296
  bv0 : v0 < 4294967296
  bv1 : v1 < 4294967296
  st : (v1 = 0 ∧ v0 = 0 ∧ o = true ∧ u1 = 1 ∧ u2 = 0 ∧ v2 = 1) ∨ (1 ≤ v1 ∧ ∃ R0 R1 q, Whole A B o u0 u1 u2 v0 v1 v2 R0 R1 q)

theorem Leh.start {A B X Y : Nat} (h : Y ≤ X) : Leh A B X Y true 0 1 0 0 0 1 X Y :=
  ⟨by rw [dif_true]; simp, by rw [show (!true) = false from rfl, dif_false]; simp, by omega, by omega, by omega, by simp, h, by decide, by decide, by decide, by decide, .inl ⟨rfl, rfl, rfl, rfl, rfl, rfl⟩⟩

theorem sq_lt {v x X : Nat} (h1 : v < x) (h2 : x * v ≤ X) (h3 : X < 18446744073709551616) : v < 4294967296 := by
  rcases Nat.lt_or_ge v 4294967296 with h | h
  · exact h
  · exfalso
    have : 4294967296 * 4294967296 ≤ x * v := Nat.mul_le_mul (by omega) h
    omega

theorem gcd_step {a b c q : Nat} (h : c + q * b = a) : Nat.gcd b c = Nat.gcd a b := by
  rw [← h, Nat.gcd_comm (c + q * b) b, Nat.mul_comm q b, Nat.gcd_add_mul_left_right]

theorem Leh.step {A B X Y K α β : Nat} {o : Bool} {u0 u1 u2 v0 v1 v2 x y : Nat} (h : Leh A B X Y o u0 u1 u2 v0 v1 v2 x y) (hA : A = K * X + α) (hB : B = K * Y + β) (ha : α < K) (hb : β < K) (hX : X < 18446744073709551616) (hBA : B ≤ A)
    (c1 : v2 ≤ y) (c2 : v1 + v2 ≤ x - y) : Leh A B X Y (!o) u1 u2 (u1 + x / y * u2) v1 v2 (v1 + x / y * v2) y (x - x / y * y) := by
  have hy1 : 1 ≤ y := Nat.le_trans h.pos c1
  have hxy : y < x := by have := h.pos; omega
  have hdm := Nat.div_add_mod x y
  have hml := Nat.mod_lt x hy1
  rw [Nat.mul_comm] at hdm
  have hq1 : 1 ≤ x / y := (Nat.le_div_iff_mul_le hy1).2 (by omega)
  have hxv : x * v2 ≤ X := by have := h.idn; omega
  have hv2 : v2 < 4294967296 := sq_lt (v := v2) (x := x) (by omega) hxv hX
  generalize x / y = q at *
  have hz : (x - q * y) + q * y = x := by omega
  obtain ⟨R2, hR2, hR2p⟩ := dif_top h.hy hA hB ha hb h.le2 c1
  have hdxy : Dif o (u1 + u2) (v1 + v2) X Y (x - y) := (dif_sub h.hx h.hy).2 (by omega)
  obtain ⟨Rd, hRd, hRdp⟩ := dif_top hdxy hA hB ha hb h.le1 c2
  have hRdp' := hRdp (by have := h.pos; omega)
  have hqv : q * v2 = v2 + (q - 1) * v2 := by
    rw [Nat.sub_mul, Nat.one_mul]
    have : 1 * v2 ≤ q * v2 := Nat.mul_le_mul_right v2 hq1
    omega
  have hqu : q * u2 = u2 + (q - 1) * u2 := by
    rw [Nat.sub_mul, Nat.one_mul]
    have : 1 * u2 ≤ q * u2 := Nat.mul_le_mul_right u2 hq1
    omega
  have hquv : (q - 1) * u2 ≤ (q - 1) * v2 := Nat.mul_le_mul_left _ h.le2
  refine ⟨h.hy, by rw [Bool.not_not]; exact dif_step h.hx h.hy hz, ?_, ?_, ?_, ?_, by omega, h.bu1, by have := h.le2; omega, h.bv1, hv2, ?_⟩
  · have := h.le1; have := h.le2; omega
  · have := h.le1; have := h.le2; omega
  · have := h.pos; omega
  · have e1 : y * (v1 + q * v2) + (x - q * y) * v2 = X := by
      rw [Nat.mul_add, Nat.sub_mul, ← Nat.mul_assoc y q, Nat.mul_comm y q]
      have hle : q * y * v2 ≤ x * v2 := Nat.mul_le_mul_right v2 (by omega)
      have := h.idn
      omega
    exact e1
  · right
    refine ⟨h.pos, ?_⟩
    rcases h.st with ⟨s1, s2, s3, s4, s5, s6⟩ | ⟨s1, R0, R1, q0, W⟩
    · subst s1 s2 s3 s4 s5 s6
      have hRB : R2 = B := by rw [show (!true) = false from rfl, dif_false] at hR2; omega
      subst hRB
      have hRA : Dif true 1 0 A R2 A := by rw [dif_true]; simp
      have hlt := (dif_sub hRA hR2).1 hRd
      exact ⟨A, R2, q, by rw [Bool.not_not]; exact hRA, hR2, by omega, rfl, Nat.le_refl _, by simp, rfl, rfl⟩
    · have hlt := (dif_sub W.d1 hR2).1 hRd
      have hR : R2 + q0 * R1 = R0 := by
        have hz2 : ∃ z, z + q0 * R1 = R0 ∨ R0 + z = q0 * R1 := by
          rcases Nat.le_total (q0 * R1) R0 with k | k
          · exact ⟨R0 - q0 * R1, .inl (by omega)⟩
          · exact ⟨q0 * R1 - R0, .inr (by omega)⟩
        have e : ∀ (p C : Nat), (q0 * p) * C = q0 * (p * C) := fun p C => Nat.mul_assoc _ _ _
        have d0 := W.d0
        have d1 := W.d1
        rw [W.u2e, W.v2e] at hR2
        cases o
        · rw [show (!false) = true from rfl, dif_true] at d0 hR2
          rw [dif_false] at d1
          have e2 : q0 * R1 + q0 * (u1 * A) = q0 * (v1 * B) := by rw [← Nat.mul_add, d1]
          rw [Nat.add_mul, Nat.add_mul, e, e] at hR2
          omega
        · rw [show (!true) = false from rfl, dif_false] at d0 hR2
          rw [dif_true] at d1
          have e2 : q0 * R1 + q0 * (v1 * B) = q0 * (u1 * A) := by rw [← Nat.mul_add, d1]
          rw [Nat.add_mul, Nat.add_mul, e, e] at hR2
          omega
      exact ⟨R1, R2, q, by rw [Bool.not_not]; exact W.d1, hR2, by omega, (gcd_step hR).trans W.gcd, by have := W.leB; omega, fun _ => W.leB, rfl, rfl⟩
open Go.RowKit Go.Deep
set_option linter.unusedVariables false

def topN (xs : List Nat) (n s : Nat) : Nat := (xs.getD (n - 2) 0 + 4294967296 * xs.getD (n - 1) 0) * 2 ^ s + xs.getD (n - 3) 0 / 2 ^ (32 - s)

theorem top_arith {L P S l m t : Nat} (hPS : P * S = 4294967296) : L + (l + 4294967296 * (m + 4294967296 * t)) = P * ((m + 4294967296 * t) * S + l / P) + (L + l % P) := by
  have h1 := Nat.div_add_mod l P
  have e : P * ((m + 4294967296 * t) * S) = 4294967296 * (m + 4294967296 * t) := by rw [Nat.mul_comm (m + 4294967296 * t) S, ← Nat.mul_assoc, hPS]
  have e2 : P * ((m + 4294967296 * t) * S + l / P) = P * ((m + 4294967296 * t) * S) + P * (l / P) := Nat.mul_add _ _ _
  rw [e2, e]
  omega

theorem top_val {xs : List Nat} {n s : Nat} (ox : Ok xs) (hl : xs.length ≤ n) (hn : 3 ≤ n) (hs : s ≤ 31) :
    ∃ α, val xs = 2 ^ (32 * (n - 3) + (32 - s)) * topN xs n s + α ∧ α < 2 ^ (32 * (n - 3) + (32 - s)) := by
  have e1 := valF_add (fun i => xs.getD i 0) (n - 3) 3
  rw [show n - 3 + 3 = n from by omega, valF_ge xs n hl] at e1
  simp only [valF, Nat.pow_zero, Nat.one_mul, Nat.zero_add, Nat.pow_one, Nat.add_zero] at e1
  rw [show n - 3 + 1 = n - 2 from by omega, show n - 3 + 2 = n - 1 from by omega] at e1
  have hL := valF_lt (f := fun i => xs.getD i 0) (n := n - 3) (fun i _ => ox.getD i)
  rw [pow_limb] at e1 hL
  generalize valF (fun i => xs.getD i 0) (n - 3) = L at *
  have hP : 2 ^ (32 - s) * 2 ^ s = 4294967296 := by rw [← Nat.pow_add, show 32 - s + s = 32 from by omega]
  have hpos : 0 < 2 ^ (32 - s) := Nat.two_pow_pos _
  have hm := Nat.mod_lt (xs.getD (n - 3) 0) hpos
  have hA := top_arith (L := 0) (l := xs.getD (n - 3) 0) (m := xs.getD (n - 2) 0) (t := xs.getD (n - 1) 0) hP
  unfold topN
  rw [Nat.pow_add]
  generalize 2 ^ (32 * (n - 3)) = Q at *
  generalize 2 ^ (32 - s) = P at *
  generalize xs.getD (n - 3) 0 = l at *
  generalize xs.getD (n - 2) 0 = m at *
  generalize xs.getD (n - 1) 0 = t at *
  refine ⟨L + Q * (l % P), ?_, ?_⟩
  · rw [e1, show (l + 4294967296 * m + 4294967296 ^ 2 * t) = 0 + (l + 4294967296 * (m + 4294967296 * t)) from by omega, hA, Nat.mul_add, Nat.zero_add, ← Nat.mul_assoc]
    omega
  · have : Q * (l % P) + Q ≤ Q * P := by
      rw [← Nat.mul_succ]
      exact Nat.mul_le_mul_left Q hm
    omega

theorem top_lt {xs : List Nat} {n s : Nat} (ox : Ok xs) (hs : s ≤ 31) (ht : xs.getD (n - 1) 0 * 2 ^ s < 4294967296) : topN xs n s < 18446744073709551616 ∧ (xs.getD (n - 2) 0 + 4294967296 * xs.getD (n - 1) 0) * 2 ^ s + 2 ^ s ≤ 18446744073709551616 ∧ xs.getD (n - 3) 0 / 2 ^ (32 - s) < 2 ^ s := by
  have hP : 2 ^ (32 - s) * 2 ^ s = 4294967296 := by rw [← Nat.pow_add, show 32 - s + s = 32 from by omega]
  have h1 := ox.getD (n - 2)
  have h3 := ox.getD (n - 3)
  have hS : 0 < 2 ^ s := Nat.two_pow_pos _
  have hd : xs.getD (n - 3) 0 / 2 ^ (32 - s) < 2 ^ s := by
    rw [Nat.div_lt_iff_lt_mul (Nat.two_pow_pos _), Nat.mul_comm, hP]
    exact h3
  unfold topN
  generalize xs.getD (n - 3) 0 / 2 ^ (32 - s) = d at *
  generalize xs.getD (n - 2) 0 = m at *
  generalize xs.getD (n - 1) 0 = t at *
  generalize 2 ^ (32 - s) = P at *
  generalize 2 ^ s = S at *
  -- t S < 2^32 and S divides 2^32: t S + S <= 2^32
  have hk : t * S + S ≤ 4294967296 := by
    rw [← hP, ← Nat.succ_mul]
    rw [← hP] at ht
    exact Nat.mul_le_mul_right S (Nat.lt_of_mul_lt_mul_right ht)
  have hm : m * S + S ≤ 4294967296 * S := by
    rw [← Nat.succ_mul]
    exact Nat.mul_le_mul_right S h1
  have e : (m + 4294967296 * t) * S = m * S + 4294967296 * (t * S) := by rw [Nat.add_mul, Nat.mul_assoc]
  rw [e]
  exact ⟨by omega, by omega, hd⟩

theorem or_low {h S d : Nat} {s : Nat} (hS : S = 2 ^ s) (hd : d < S) (hb : h * S + S ≤ 18446744073709551616) : bits .or .u64 ((h * S : Nat) : Int) (d : Int) = ((h * S + d : Nat) : Int) := by
  have h1 : h * S < 18446744073709551616 := by omega
  have h2 : d < 18446744073709551616 := by omega
  rw [u64_or_nat _ _ h1 h2]
  congr 1
  have := Nat.shiftLeft_add_eq_or_of_lt (i := s) (b := d) (by rw [← hS]; exact hd) h
  rw [Nat.shiftLeft_eq, ← hS] at this
  exact this.symm

set_option maxHeartbeats 4000000 in
theorem topWord_any (a : Option Addr) (m c : Nat) (xs : List Nat) (n s : Nat) (w : World) (h : Sl w a m c xs) (ox : Ok xs) (hn : 3 ≤ n) (hn2 : n ≤ 1000000) (hs : s ≤ 31) (ht : xs.getD (n - 1) 0 * 2 ^ s < 4294967296) :
    Calls Tryd.prog 84 #[.slice a m c, .int .i64 (n : Nat), .int .i64 (s : Nat)] w fun e w' => e = .returned (.int .u64 (topN xs n s : Nat)) ∧ ∃ k, w' = w.drewN k := by
  have K1 := limbAt_any a m c xs ((n:Int) - 1) w h (by omega)
  have K2 := limbAt_any a m c xs ((n:Int) - 2) w h (by omega)
  have K3 := fun j => limbAt_any a m c xs ((n:Int) - 3) (w.drewN j) (h.drewN j) (by omega)
  rw [show ((n:Int) - 1).toNat = n - 1 from by omega] at K1
  rw [show ((n:Int) - 2).toNat = n - 2 from by omega] at K2
  rw [show ((n:Int) - 3).toNat = n - 3 from by omega] at K3
  have hT := top_lt ox hs ht
  have b1 := ox.getD (n - 1)
  have b2 := ox.getD (n - 2)
  have b3 := ox.getD (n - 3)
  unfold topN at hT ⊢
  generalize xs.getD (n - 1) 0 = t at *
  generalize xs.getD (n - 2) 0 = m' at *
  generalize xs.getD (n - 3) 0 = l at *
  have e1 := or_halves t m' b1 b2
  have e2 : (((m' + 4294967296 * t : Nat) : Int)) * 2 ^ s = (((m' + 4294967296 * t) * 2 ^ s : Nat) : Int) := by rw [Int.natCast_mul, Int.natCast_pow]; rfl
  have e3 : (32:Int) - (s:Int) = ((32 - s : Nat) : Int) := by omega
  have e4 : (l:Int) / 2 ^ (32 - s) = ((l / 2 ^ (32 - s) : Nat) : Int) := by rw [Int.natCast_ediv, Int.natCast_pow]; rfl
  have e5 := or_low (h := m' + 4294967296 * t) (s := s) rfl hT.2.2 hT.2.1
  have hd := hT.2.2
  have hb := hT.2.1
  have hr := hT.1
  have hhb : m' + 4294967296 * t < 18446744073709551616 := by omega
  generalize hh : m' + 4294967296 * t = hd0 at *
  have hle : hd0 * 2 ^ s < 18446744073709551616 := by have := Nat.two_pow_pos s; omega
  generalize hh2 : hd0 * 2 ^ s = hs0 at *
  have hl2 : l / 2 ^ (32 - s) < 4294967296 := Nat.lt_of_le_of_lt (Nat.div_le_self _ _) b3
  generalize l / 2 ^ (32 - s) = d at *
  generalize hh3 : 32 - s = r at *
  have K1' := hide K1
  have K2' := hide K2
  have K3' := hide K3
  clear K1 K2 K3 h hT ht hh hh2 hh3
  go_enter Tryd.func84, Tryd.ntmps84
  go_wp2_with fail
  refine (unhide K1').mono ?_
  rintro e w' ⟨rfl, hw⟩
  obtain rfl := hw.symm
  go_wp2_with fail
  refine (unhide K2').mono ?_
  rintro e w' ⟨rfl, hw⟩
  obtain rfl := hw.symm
  go_wp2_with fail
  go_quiet ((go_at_call 82; exact Calls.quiet_of_same (unhide K3' _)))
  go_wp2
  go_ret
  exact ⟨rfl, _, rfl⟩
end Go.Proofs.YtiadccaaoenccaaDoor
