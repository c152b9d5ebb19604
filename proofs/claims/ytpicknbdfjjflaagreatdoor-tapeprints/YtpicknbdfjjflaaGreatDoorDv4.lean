/- Dv2 -/
import Derived.Test.YtpicknbdfjjflaaGreatDoorRd1
namespace Go.Proofs.YtpicknbdfjjflaaGreatDoor
open Go.RowKit Go.Deep
set_option linter.unusedVariables false
theorem dv_div_lt {lo hi y : Nat} (h1 : lo < 4294967296) (h2 : hi < y) : dv lo hi / y < 4294967296 := by
  unfold dv
  rw [Nat.div_lt_iff_lt_mul (by omega)]
  have : 4294967296 * (hi + 1) ≤ 4294967296 * y := Nat.mul_le_mul_left _ h2
  omega

set_option maxHeartbeats 1000000 in
theorem div32_any (hi lo y : Nat) (w : World) (h1 : lo < 4294967296) (h2 : hi < y) (h3 : y < 4294967296) :
    Calls Tryz.prog 142 #[.int .u32 (hi : Nat), .int .u32 (lo : Nat), .int .u32 (y : Nat)] w fun e w' => e = .returned (.tuple #[.int .u32 (dv lo hi / y : Nat), .int .u32 (dv lo hi % y : Nat)]) ∧ ∃ k, w' = w.drewN k := by
  have t1 : ¬ (y:Int) ≤ (hi:Int) := by omega
  have t2 : ((y:Int) != 0) = true := by rw [bne_iff_ne]; omega
  have t3 : ((y:Int) == 0) = false := by simp; omega
  have t4 : ¬ (y:Int) = 0 := by omega
  have e0 := dv_int h1 (show hi < 4294967296 by omega)
  have hd := dv_lt h1 (show hi < 4294967296 by omega)
  have hq := dv_div_lt h1 h2
  have hr : dv lo hi % y < 4294967296 := Nat.lt_trans (Nat.mod_lt _ (by omega)) h3
  generalize dv lo hi = z at *
  have e1 : ((z : Nat) : Int).tdiv (y : Int) = ((z / y : Nat) : Int) := by rw [Int.tdiv_eq_ediv_of_nonneg (by omega)]; exact (Int.natCast_ediv _ _).symm
  have e2 : ((z : Nat) : Int).tmod (y : Int) = ((z % y : Nat) : Int) := by rw [Int.tmod_eq_emod_of_nonneg (by omega)]; exact (Int.natCast_emod _ _).symm
  have e3 : ((z : Nat) : Int) / (y : Int) = ((z / y : Nat) : Int) := (Int.natCast_ediv _ _).symm
  have e4 : ((z : Nat) : Int) % (y : Int) = ((z % y : Nat) : Int) := (Int.natCast_emod _ _).symm
  generalize z / y = q at *
  generalize z % y = r at *
  go_enter Tryz.func142, Tryz.ntmps142
  go_wp2_with fail
  go_quiet (fail)
  go_wp2
  go_ret2
  exact ⟨rfl, _, rfl⟩

set_option maxHeartbeats 1000000 in
theorem lz32_any (x : Nat) (w : World) (hx : x < 4294967296) :
    Calls Tryz.prog 132 #[.int .u32 (x : Nat)] w fun e w' => e = .returned (.int .i64 (32 - (Lib.bitLen x : Int))) ∧ w' = w := by
  have K := hide (len32_any x w hx)
  have hl : Lib.bitLen x ≤ 64 := Lib.bitLen_le x 64 (by omega) (by omega)
  generalize Lib.bitLen x = u at *
  go_enter Tryz.func132, Tryz.ntmps132
  go_wp2_with fail
  refine (unhide K).mono ?_
  rintro e w' ⟨rfl, hw⟩
  obtain rfl := hw.symm
  go_wp2
  go_ret
  exact ⟨rfl, rfl⟩

structure DlR (wr w : World) (b off n : Nat) (f : Nat → Nat) (d k r : Nat) (g : Nat → Nat) : Prop where
  fn : Fn wr b off n g
  ok : ∀ i, i < n → g i < 4294967296
  eq : ∀ i, i < k → g i = f i
  rlt : r < d
  val : valF (fun i => f (k + i)) (n - k) = valF (fun i => g (k + i)) (n - k) * d + r
  upd : Upd b off (off + n) w wr

theorem valF_head (f : Nat → Nat) (k n : Nat) (h : k < n) : valF (fun i => f (k + i)) (n - k) = f k + 4294967296 * valF (fun i => f (k + 1 + i)) (n - (k + 1)) := by
  have e : n - k = 1 + (n - (k + 1)) := by omega
  rw [e, valF_add]
  simp only [valF, Nat.add_zero, Nat.pow_zero, Nat.pow_one, Nat.one_mul, Nat.zero_add]
  congr 2
  exact valF_congr (fun i _ => by rw [Nat.add_assoc])

theorem dl_arith {F S Q r d q r' : Nat} (h : S = Q * d + r) (e : F + 4294967296 * r = d * q + r') : F + 4294967296 * S = (q + 4294967296 * Q) * d + r' := by
  subst h
  rw [Nat.add_mul, Nat.mul_add, Nat.mul_comm q d, Nat.mul_assoc]
  omega

theorem DlR.step {wr w : World} {b off n : Nat} {f : Nat → Nat} {d k r : Nat} {g : Nat → Nat} (h : DlR wr w b off n f d (k + 1) r g) (hk : k < n) (hd : d < 4294967296) :
    DlR (wr.setCell ⟨b, off + k, none⟩ (.int .u32 (dv (g k) r / d : Nat))) w b off n f d k (dv (g k) r % d) (fun i => if i = k then dv (g k) r / d else g i) := by
  have hq := dv_div_lt (h.ok k hk) h.rlt
  refine ⟨h.fn.set k _ hk, ?_, ?_, Nat.mod_lt _ (by have := h.rlt; omega), ?_, h.upd.set _ _ (by omega) (by omega)⟩
  · intro i hi
    by_cases e : i = k
    · simp only [e, if_true]; exact hq
    · simp only [e, if_false]; exact h.ok i hi
  · intro i hi
    rw [if_neg (by omega)]
    exact h.eq i (by omega)
  · rw [valF_head f k n hk, valF_head (fun i => if i = k then dv (g k) r / d else g i) k n hk]
    simp only [if_true]
    have e0 : valF (fun i => if k + 1 + i = k then dv (g k) r / d else g (k + 1 + i)) (n - (k + 1)) = valF (fun i => g (k + 1 + i)) (n - (k + 1)) := valF_congr (fun i _ => by rw [if_neg (by omega)])
    rw [e0, ← h.eq k (by omega)]
    refine dl_arith h.val ?_
    have := Nat.div_add_mod (dv (g k) r) d
    unfold dv at *
    omega

theorem DlR.drew {wr w : World} {b off n : Nat} {f : Nat → Nat} {d k r : Nat} {g : Nat → Nat} (h : DlR wr w b off n f d k r g) : DlR wr.drew w b off n f d k r g := ⟨h.fn, h.ok, h.eq, h.rlt, h.val, h.upd.drew⟩

theorem DlR.drewN {wr w : World} {b off n : Nat} {f : Nat → Nat} {d k r : Nat} {g : Nat → Nat} (h : DlR wr w b off n f d k r g) (j : Nat) : DlR (wr.drewN j) w b off n f d k r g := ⟨h.fn, h.ok, h.eq, h.rlt, h.val, h.upd.drewN j⟩

def DlPost (w : World) (b off n : Nat) (f : Nat → Nat) (d : Nat) (e : Ending) (w' : World) : Prop :=
  ∃ (r : Nat) (g : Nat → Nat), e = .returned (.int .u32 (r : Nat)) ∧ r < d ∧ Fn w' b off n g ∧ (∀ i, i < n → g i < 4294967296) ∧ valF f n = valF g n * d + r ∧ Upd b off (off + n) w w'

set_option maxHeartbeats 2000000 in
theorem divideLimb_any (b off n c d : Nat) (f : Nat → Nat) (w : World) (h : Fn w b off n f) (ok : ∀ i, i < n → f i < 4294967296) (hn : n ≤ 1000000000) (hd0 : 0 < d) (hd : d < 4294967296) :
    Calls Tryz.prog 135 #[.slice (some ⟨b, off, none⟩) n c, .int .u32 (d : Nat)] w fun e w' => DlPost w b off n f d e w' := by
  have hR0 : DlR w w b off n f d n 0 f := ⟨h, ok, fun _ _ => rfl, hd0, by simp [valF], Upd.refl _ _ _ _⟩
  have HR0 := hide hR0
  clear hR0 h ok
  go_enter Tryz.func135, Tryz.ntmps135
  go_wp2
  go_loopw [5, 6] (fun rv i wr => ∃ k r : Nat, ∃ g : Nat → Nat, k ≤ n ∧ i = .int .i64 ((k : Int) - 1) ∧ rv = .int .u32 (r : Nat) ∧ DlR wr w b off n f d k r g) (fun _ i _ => (intOf i + 1).toNat)
  case atStart => exact ⟨n, 0, _, Nat.le_refl _, rfl, rfl, unhide HR0⟩
  case round =>
    clear HR0
    obtain ⟨k, r, g, hk, rfl, rfl, hR⟩ := hrel
    rcases k with _ | k
    · have t1 : ¬ (0:Int) ≤ ((0:Nat):Int) - 1 := by omega
      have HR := hide hR
      clear hR
      go_wp2
      go_ret
      have hv := (unhide HR).val
      simp only [Nat.zero_add, Nat.sub_zero] at hv
      exact ⟨r, g, rfl, (unhide HR).rlt, (unhide HR).fn, (unhide HR).ok, hv, (unhide HR).upd⟩
    · have t0 : ((k + 1 : Nat) : Int) - 1 = (k : Int) := by omega
      rw [t0]
      have t1 : (k:Int) < (n:Int) := by omega
      have g1 := (hR.fn k (by omega)).1
      have g2 := (hR.fn k (by omega)).2
      have hkn : k < n := by omega
      have KD := hide (fun w => div32_any r (g k) d w (hR.ok k (by omega)) hR.rlt hd)
      have HR0 := hide hR
      clear hR
      go_wp2_with fail
      refine (unhide KD _).mono ?_
      rintro e w' ⟨rfl, kk, hw⟩
      have hR2 : DlR w' w b off n f d (k + 1) r g := by rw [hw]; exact (unhide HR0).drewN kk
      have g3 := (hR2.fn k hkn).1
      have g4 := (hR2.fn k hkn).2
      have HR := hide (hR2.step hkn hd)
      clear hw hR2 KD HR0
      go_wp2
      exact ⟨⟨k, _, _, by omega, by go_num, rfl, unhide HR⟩, by simp [intOf]⟩
open Go.RowKit Go.Deep
set_option linter.unusedVariables false

structure Gs (P u2 u1 u0 ul top next vl : Nat) : Prop where
  hP : 0 < P
  h2 : u2 < 4294967296
  h1 : u1 < 4294967296
  h0 : u0 < 4294967296
  hl : ul < P
  ht : top < 4294967296
  hb : 2147483648 ≤ top
  hn : next < 4294967296
  hv : vl < P
  lt : ul + P * (u0 + 4294967296 * (u1 + 4294967296 * u2)) < (vl + P * (next + 4294967296 * top)) * 4294967296

theorem low_lt {P ul S X : Nat} (h : ul < P) (k : S < X) : ul + P * S < P * X := by
  have : P * (S + 1) ≤ P * X := Nat.mul_le_mul_left _ k
  rw [Nat.mul_add, Nat.mul_one] at this
  omega

theorem mul_high {g P vl T : Nat} : P * (g * T) ≤ g * (vl + P * T) := by
  rw [Nat.mul_add, Nat.mul_left_comm g P T]
  exact Nat.le_add_left _ _

theorem Gs.top_le {P u2 u1 u0 ul top next vl : Nat} (s : Gs P u2 u1 u0 ul top next vl) : u2 ≤ top := by
  have h := s.lt
  rcases Nat.lt_or_ge top u2 with k | k
  · exfalso
    have h3 : vl + P * (next + 4294967296 * top) < P * (4294967296 * u2) := low_lt s.hv (by have := s.hn; omega)
    have h4 : P * (4294967296 * u2) * 4294967296 ≤ P * (u0 + 4294967296 * (u1 + 4294967296 * u2)) := by
      rw [Nat.mul_assoc]
      exact Nat.mul_le_mul_left _ (by omega)
    have h5 := Nat.mul_lt_mul_of_pos_right h3 (show 0 < 4294967296 by decide)
    omega
  · exact k

theorem Gs.start {P u2 u1 u0 ul top next vl : Nat} (s : Gs P u2 u1 u0 ul top next vl) : ul + P * (u0 + 4294967296 * (u1 + 4294967296 * u2)) < ((u1 + 4294967296 * u2) / top + 1) * (vl + P * (next + 4294967296 * top)) := by
  have ht := s.hb
  generalize u1 + 4294967296 * u2 = hd
  have h1 : hd < (hd / top + 1) * top := by
    have e1 := Nat.div_add_mod hd top
    have e2 := Nat.mod_lt hd (show top > 0 by omega)
    rw [Nat.add_mul, Nat.one_mul, Nat.mul_comm (hd / top)]
    omega
  generalize hd / top + 1 = g at *
  have h2 : u0 + 4294967296 * hd < g * (next + 4294967296 * top) := by
    rw [Nat.mul_add, Nat.mul_left_comm]
    have := s.h0
    omega
  exact Nat.lt_of_lt_of_le (low_lt s.hl h2) mul_high

theorem Gs.big {P u2 u1 u0 ul top next vl g : Nat} (s : Gs P u2 u1 u0 ul top next vl) (hg : 4294967296 ≤ g) : ul + P * (u0 + 4294967296 * (u1 + 4294967296 * u2)) < g * (vl + P * (next + 4294967296 * top)) := by
  refine Nat.lt_of_lt_of_le s.lt ?_
  rw [Nat.mul_comm]
  exact Nat.mul_le_mul_right _ hg

theorem Gs.more {P u2 u1 u0 ul top next vl g r : Nat} (s : Gs P u2 u1 u0 ul top next vl) (he : g * top + r = u1 + 4294967296 * u2) (hc : r * 4294967296 + u0 < g * next) : ul + P * (u0 + 4294967296 * (u1 + 4294967296 * u2)) < g * (vl + P * (next + 4294967296 * top)) := by
  refine Nat.lt_of_lt_of_le (low_lt s.hl ?_) (mul_high (vl := vl))
  rw [Nat.mul_add g, Nat.mul_left_comm g]
  omega

theorem Gs.less {P u2 u1 u0 ul top next vl g r : Nat} (s : Gs P u2 u1 u0 ul top next vl) (he : g * top + r = u1 + 4294967296 * u2) (hg : g < 4294967296) (hc : g * next ≤ r * 4294967296 + u0) : g * (vl + P * (next + 4294967296 * top)) < ul + P * (u0 + 4294967296 * (u1 + 4294967296 * u2)) + (vl + P * (next + 4294967296 * top)) := by
  have h1 : g * (next + 4294967296 * top) ≤ u0 + 4294967296 * (u1 + 4294967296 * u2) := by
    rw [Nat.mul_add, Nat.mul_left_comm]
    omega
  have h2 : P * (g * (next + 4294967296 * top)) ≤ P * (u0 + 4294967296 * (u1 + 4294967296 * u2)) := Nat.mul_le_mul_left _ h1
  have h3 : g * vl < 4294967296 * P := Nat.mul_lt_mul'' hg s.hv
  have h4 : P * 4294967296 ≤ P * (next + 4294967296 * top) := Nat.mul_le_mul_left _ (by have := s.hb; omega)
  rw [Nat.mul_add g, Nat.mul_left_comm g P]
  omega

theorem Gs.off {P u2 u1 u0 ul top next vl g r : Nat} (s : Gs P u2 u1 u0 ul top next vl) (he : g * top + r = u1 + 4294967296 * u2) (hr : 4294967296 ≤ r) : g < 4294967296 := by
  rcases Nat.lt_or_ge g 4294967296 with k | k
  · exact k
  · exfalso
    have h1 := s.top_le
    have h2 : 4294967296 * top ≤ g * top := Nat.mul_le_mul_right _ k
    have := s.h1
    omega

theorem Gs.less2 {P u2 u1 u0 ul top next vl g r : Nat} (s : Gs P u2 u1 u0 ul top next vl) (he : g * top + r = u1 + 4294967296 * u2) (hr : 4294967296 ≤ r) : g * (vl + P * (next + 4294967296 * top)) < ul + P * (u0 + 4294967296 * (u1 + 4294967296 * u2)) + (vl + P * (next + 4294967296 * top)) := by
  have hg := s.off he hr
  refine s.less he hg ?_
  have h1 : g * next ≤ 4294967296 * 4294967296 := Nat.mul_le_mul (by omega) (by have := s.hn; omega)
  have h2 : 4294967296 * 4294967296 ≤ r * 4294967296 := Nat.mul_le_mul_right _ hr
  omega

structure GR (P u2 u1 u0 ul top next vl g r : Nat) : Prop where
  rlt : r < 4294967296
  eq : g * top + r = u1 + 4294967296 * u2
  gle : g < 18446744073709551616
  lt : ul + P * (u0 + 4294967296 * (u1 + 4294967296 * u2)) < (g + 1) * (vl + P * (next + 4294967296 * top))

theorem GR.down {P u2 u1 u0 ul top next vl g r : Nat} (h : GR P u2 u1 u0 ul top next vl g r) (hg : 1 ≤ g) : (g - 1) * top + (r + top) = u1 + 4294967296 * u2 := by
  have e := h.eq
  obtain ⟨k, rfl⟩ : ∃ k, g = k + 1 := ⟨g - 1, by omega⟩
  rw [Nat.add_mul, Nat.one_mul] at e
  simp only [Nat.add_sub_cancel]
  omega

def GuessPost (U V : Nat) (e : Ending) : Prop := ∃ g : Nat, e = .returned (.int .u32 (g : Nat)) ∧ g < 4294967296 ∧ U < (g + 1) * V ∧ g * V < U + V

set_option maxHeartbeats 4000000 in
theorem guess_any (bu ou n cu bv ov cv : Nat) (P u2 u1 u0 ul top next vl : Nat) (w : World) (s : Gs P u2 u1 u0 ul top next vl) (hn : 2 ≤ n) (hm : n ≤ 1000000000)
    (k2 : w.cell? ⟨bu, ou + n, none⟩ = some (.int .u32 (u2 : Nat))) (k1 : w.cell? ⟨bu, ou + (n - 1), none⟩ = some (.int .u32 (u1 : Nat))) (k0 : w.cell? ⟨bu, ou + (n - 2), none⟩ = some (.int .u32 (u0 : Nat)))
    (l1 : w.cell? ⟨bv, ov + (n - 1), none⟩ = some (.int .u32 (top : Nat))) (l0 : w.cell? ⟨bv, ov + (n - 2), none⟩ = some (.int .u32 (next : Nat))) :
    Calls Tryz.prog 147 #[.slice (some ⟨bu, ou, none⟩) (n + 1) cu, .slice (some ⟨bv, ov, none⟩) n cv] w fun e w' => GuessPost (ul + P * (u0 + 4294967296 * (u1 + 4294967296 * u2))) (vl + P * (next + 4294967296 * top)) e ∧ ∃ k, w' = w.drewN k := by
  have S := hide s
  have b2 := s.h2
  have b1 := s.h1
  have b0 := s.h0
  have bt := s.ht
  have bb := s.hb
  have bn := s.hn
  have ht := s.top_le
  have i1 : ((n:Int) - 1).toNat = n - 1 := by omega
  have i2 : ((n:Int) - 2).toNat = n - 2 := by omega
  have j1 : (n:Int) - 1 < (n:Int) := by omega
  have e0 := dv_int b1 b2
  have hd := dv_lt b1 b2
  have ed : dv u1 u2 = u1 + 4294967296 * u2 := rfl
  have HE := hide ed
  have t3 : ((top:Int) == 0) = false := by simp; omega
  have t4 : ¬ (top:Int) = 0 := by omega
  clear ed s
  generalize dv u1 u2 = z at *
  have e1 : ((z : Nat) : Int).tdiv (top : Int) = ((z / top : Nat) : Int) := by rw [Int.tdiv_eq_ediv_of_nonneg (by omega)]; exact (Int.natCast_ediv _ _).symm
  have e2 : ((z : Nat) : Int).tmod (top : Int) = ((z % top : Nat) : Int) := by rw [Int.tmod_eq_emod_of_nonneg (by omega)]; exact (Int.natCast_emod _ _).symm
  have e3 : ((z : Nat) : Int) / (top : Int) = ((z / top : Nat) : Int) := (Int.natCast_ediv _ _).symm
  have e4 : ((z : Nat) : Int) % (top : Int) = ((z % top : Nat) : Int) := (Int.natCast_emod _ _).symm
  have HZ := hide (Nat.div_add_mod z top)
  have hz1 : z % top < 4294967296 := Nat.lt_trans (Nat.mod_lt _ (by omega)) bt
  have hz2 : z / top ≤ z := Nat.div_le_self _ _
  have HS := hide ((unhide S).start)
  rw [← unhide HE] at HS
  generalize z / top = g0 at *
  generalize z % top = r0 at *
  go_enter Tryz.func147, Tryz.ntmps147
  go_wp2_with fail
  go_quiet (fail)
  go_wp2_with fail
  go_quiet (fail)
  go_wp2_with fail
  go_quiet (fail)
  go_wp2_with fail
  go_loopw [9, 10] (fun gv rv wr => ∃ g r k : Nat, gv = .int .u64 (g : Nat) ∧ rv = .int .u64 (r : Nat) ∧ wr = w.drewN k ∧ GR P u2 u1 u0 ul top next vl g r) (fun gv _ _ => (intOf gv).toNat)
  case atStart =>
    have h1 := unhide HZ
    have h2 := unhide HS
    rw [unhide HE] at h1 h2
    rw [Nat.mul_comm] at h1
    exact ⟨g0, r0, _, rfl, rfl, drewN_add3 _ _ _ _, ⟨hz1, h1, by omega, h2⟩⟩
  case round =>
    obtain ⟨g, r, k, rfl, rfl, rfl, hG⟩ := hrel
    have hr := hG.rlt
    have hg := hG.gle
    have HG := hide hG
    clear hG HS HZ hz1 hz2 hd e0 e1 e2 e3 e4 t3 t4
    have E1 : ((g:Int) / 4294967296 != 0) = decide (4294967296 ≤ g) := by
      by_cases h : 4294967296 ≤ g
      · rw [decide_eq_true h, bne_iff_ne]; omega
      · rw [decide_eq_false h]; have : (g:Int) / 4294967296 = 0 := by omega
        rw [this]; rfl
    have E2 : (((r:Int) + (top:Int)) / 4294967296 != 0) = decide (4294967296 ≤ r + top) := by
      by_cases h : 4294967296 ≤ r + top
      · rw [decide_eq_true h, bne_iff_ne]; omega
      · rw [decide_eq_false h]; have : ((r:Int) + (top:Int)) / 4294967296 = 0 := by omega
        rw [this]; rfl
    by_cases hbig : 4294967296 ≤ g
    · rw [decide_eq_true hbig] at E1
      have HN := hide ((unhide S).big hbig)
      have g1 : 1 ≤ g := by omega
      by_cases hr2 : 4294967296 ≤ r + top
      · rw [decide_eq_true hr2] at E2
        go_wp2
        go_ret
        have hd := (unhide HG).down g1
        refine ⟨⟨g - 1, ?_, (unhide S).off hd hr2, ?_, (unhide S).less2 hd hr2⟩, _, rfl⟩
        · have := (unhide S).off hd hr2
          show Ending.returned (Value.int IntKind.u32 (((g:Int) - 1) % 4294967296)) = _
          rw [show ((g:Int) - 1) % 4294967296 = ((g - 1 : Nat) : Int) from by omega]
        · rw [Nat.sub_add_cancel g1]; exact unhide HN
      · rw [decide_eq_false hr2] at E2
        go_wp2
        have hd := (unhide HG).down g1
        refine ⟨⟨g - 1, r + top, k, ?_, by go_num, rfl, ⟨by omega, hd, by omega, ?_⟩⟩, ?_⟩
        · rw [show (g:Int) - 1 = ((g - 1 : Nat) : Int) from by omega]
        · rw [Nat.sub_add_cancel g1]; exact unhide HN
        · simp [intOf]; omega
    · rw [decide_eq_false hbig] at E1
      have mb : ((g : Nat) : Int) * ((next : Nat) : Int) ≤ 18446744065119617025 := by
        have := mul_bound (show g < 4294967296 by omega) bn
        rw [← Int.natCast_mul]; omega
      have mb0 : 0 ≤ ((g : Nat) : Int) * ((next : Nat) : Int) := Int.mul_nonneg (by omega) (by omega)
      have eo := dv_int b0 hr
      have eo2 := dv_lt b0 hr
      have HD := hide (show dv u0 r = u0 + 4294967296 * r from rfl)
      generalize dv u0 r = y at *
      have em : ((g : Nat) : Int) * ((next : Nat) : Int) = ((g * next : Nat) : Int) := (Int.natCast_mul _ _).symm
      generalize hx : g * next = x at em
      have HX := hide hx
      rw [em] at mb mb0
      clear hx
      by_cases hmore : y < x
      · have hm' : (y:Int) < (x:Int) := by omega
        have HN := hide ((unhide S).more (unhide HG).eq (by rw [unhide HX]; have := unhide HD; omega))
        have g1 : 1 ≤ g := by
          rcases Nat.eq_zero_or_pos g with e | e
          · exfalso; have := unhide HX; rw [e, Nat.zero_mul] at this; omega
          · exact e
        by_cases hr2 : 4294967296 ≤ r + top
        · rw [decide_eq_true hr2] at E2
          go_wp2
          go_ret
          have hd := (unhide HG).down g1
          refine ⟨⟨g - 1, ?_, (unhide S).off hd hr2, ?_, (unhide S).less2 hd hr2⟩, _, rfl⟩
          · have := (unhide S).off hd hr2
            show Ending.returned (Value.int IntKind.u32 ((g:Int) - 1)) = _
            rw [show (g:Int) - 1 = ((g - 1 : Nat) : Int) from by omega]
          · rw [Nat.sub_add_cancel g1]; exact unhide HN
        · rw [decide_eq_false hr2] at E2
          go_wp2
          have hd := (unhide HG).down g1
          refine ⟨⟨g - 1, r + top, k, ?_, by go_num, rfl, ⟨by omega, hd, by omega, ?_⟩⟩, ?_⟩
          · rw [show (g:Int) - 1 = ((g - 1 : Nat) : Int) from by omega]
          · rw [Nat.sub_add_cancel g1]; exact unhide HN
          · simp [intOf]; omega
      · have hm' : ¬ (y:Int) < (x:Int) := by omega
        have HL := hide ((unhide S).less (unhide HG).eq (by omega) (by rw [unhide HX]; have := unhide HD; omega))
        go_wp2
        go_ret
        exact ⟨⟨g, rfl, by omega, (unhide HG).lt, unhide HL⟩, _, rfl⟩
def pl (x y c : Nat) : Nat := (x * y + c) % 4294967296
def ph (x y c : Nat) : Nat := (x * y + c) / 4294967296
theorem pl_lt (x y c : Nat) : pl x y c < 4294967296 := by unfold pl; exact Nat.mod_lt _ (by decide)
theorem pl_eq (x y c : Nat) : pl x y c + 4294967296 * ph x y c = x * y + c := by unfold pl ph; exact Nat.mod_add_div _ _
theorem pl_int (x y c : Nat) : ((x : Int) * y + c) % 4294967296 = ((pl x y c : Nat) : Int) := by unfold pl; rw [Int.natCast_emod, Int.natCast_add, Int.natCast_mul]; rfl
theorem ph_int (x y c : Nat) : ((x : Int) * y + c) / 4294967296 = ((ph x y c : Nat) : Int) := by unfold ph; rw [Int.natCast_ediv, Int.natCast_add, Int.natCast_mul]; rfl
theorem ph_lt {x y c u : Nat} (hx : x < 4294967296) (hy : y < 4294967296) (hc : c < 4294967296) (hu : u < 4294967296) : ph x y c + bor u (pl x y c) < 4294967296 := by
  have e := pl_eq x y c
  have h1 : x * y ≤ 4294967295 * 4294967295 := Nat.mul_le_mul (by omega) (by omega)
  unfold bor
  split <;> omega

structure StR (wr w : World) (bz oz n : Nat) (f : Nat → Nat) (g : Nat) (ys : List Nat) (k c : Nat) (h : Nat → Nat) : Prop where
  cle : c < 4294967296
  fn : Fn wr bz oz n h
  ok : ∀ i, i < n → h i < 4294967296
  eq : ∀ i, k ≤ i → i < n → h i = f i
  val : valF h k + g * valF (fun i => ys.getD i 0) k = valF f k + 4294967296 ^ k * c
  upd : Upd bz oz (oz + n) w wr

theorem st_arith {A G Y F P c h' y g f c' : Nat} (e : A + g * Y = F + P * c) (s : h' + (y * g + c) = f + 4294967296 * c') : A + P * h' + g * (Y + P * y) = F + P * f + P * 4294967296 * c' := by
  have : P * (h' + (y * g + c)) = P * (f + 4294967296 * c') := by rw [s]
  rw [Nat.mul_add, Nat.mul_add, Nat.mul_add, ← Nat.mul_assoc P 4294967296] at this
  rw [Nat.mul_add g, Nat.mul_left_comm g P y, Nat.mul_comm g y]
  omega

theorem StR.step {wr w : World} {bz oz n : Nat} {f : Nat → Nat} {g : Nat} {ys : List Nat} {k c : Nat} {h : Nat → Nat} (s : StR wr w bz oz n f g ys k c h) (hk : k < n) (hg : g < 4294967296) (hy : ys.getD k 0 < 4294967296) :
    StR (wr.setCell ⟨bz, oz + k, none⟩ (.int .u32 (lim (h k) (pl (ys.getD k 0) g c) 0 : Nat))) w bz oz n f g ys (k + 1) (ph (ys.getD k 0) g c + bor (h k) (pl (ys.getD k 0) g c)) (fun i => if i = k then lim (h k) (pl (ys.getD k 0) g c) 0 else h i) := by
  have e1 := pl_eq (ys.getD k 0) g c
  have e2 := lim_eq (h k) (pl (ys.getD k 0) g c) 0 (s.ok k hk) (pl_lt _ _ _) (by decide)
  refine ⟨ph_lt hy hg s.cle (s.ok k hk), s.fn.set k _ hk, ?_, ?_, ?_, s.upd.set _ _ (by omega) (by omega)⟩
  · intro i hi
    by_cases e : i = k
    · simp only [e, if_true]; exact lim_lt _ _ _
    · simp only [e, if_false]; exact s.ok i hi
  · intro i h1 h2
    rw [if_neg (by omega)]
    exact s.eq i (by omega) h2
  · simp only [valF, if_true]
    rw [valF_congr (g := h) (fun i hi => by rw [if_neg (by omega)]), Nat.pow_succ]
    refine st_arith (G := 0) s.val ?_
    rw [← s.eq k (Nat.le_refl _) hk]
    simp only [Nat.add_zero] at e2
    omega

theorem StR.drewN {wr w : World} {bz oz n : Nat} {f : Nat → Nat} {g : Nat} {ys : List Nat} {k c : Nat} {h : Nat → Nat} (s : StR wr w bz oz n f g ys k c h) (j : Nat) : StR (wr.drewN j) w bz oz n f g ys k c h := ⟨s.cle, s.fn, s.ok, s.eq, s.val, s.upd.drewN j⟩

def StPost (w : World) (bz oz n : Nat) (f : Nat → Nat) (g : Nat) (ys : List Nat) (e : Ending) (w' : World) : Prop :=
  ∃ (c : Nat) (h : Nat → Nat), e = .returned (.int .u32 (c : Nat)) ∧ c < 4294967296 ∧ Fn w' bz oz n h ∧ (∀ i, i < n → h i < 4294967296) ∧ valF h n + g * val ys = valF f n + 4294967296 ^ n * c ∧ Upd bz oz (oz + n) w w'

set_option maxHeartbeats 2000000 in
theorem subTimes_any (bz oz n cz bv ov cv g : Nat) (f : Nat → Nat) (ys : List Nat) (w : World) (hn : n ≤ 1000000000) (hl : ys.length = n) (oy : Ok ys) (ok : ∀ i, i < n → f i < 4294967296) (h : Fn w bz oz n f) (hy : Cells w bv ov ys) (hb : bv ≠ bz) (hg : g < 4294967296) :
    Calls Tryz.prog 148 #[.slice (some ⟨bz, oz, none⟩) n cz, .slice (some ⟨bv, ov, none⟩) n cv, .int .u32 (g : Nat)] w fun e w' => StPost w bz oz n f g ys e w' := by
  have HR0 := hide (show StR w w bz oz n f g ys 0 0 f from ⟨by decide, h, ok, fun _ _ _ => rfl, by simp [valF], Upd.refl _ _ _ _⟩)
  have HY := hide hy
  have HL := hide hl
  clear h ok hy hl
  go_enter Tryz.func148, Tryz.ntmps148
  go_wp2
  go_loopw [7, 12] (fun cv i wr => ∃ k c : Nat, ∃ h : Nat → Nat, k ≤ n ∧ i = .int .i64 k ∧ cv = .int .u64 (c : Nat) ∧ StR wr w bz oz n f g ys k c h) (fun _ i _ => n - (intOf i).toNat)
  case atStart => exact ⟨0, 0, f, Nat.zero_le _, rfl, rfl, unhide HR0⟩
  case round =>
    clear HR0
    obtain ⟨k, c, h, hk, rfl, rfl, hR⟩ := hrel
    by_cases hlt : k < n
    · have hlt' : (k:Int) < (n:Int) := by omega
      have g1 := (hR.fn k hlt).1
      have g2 := (hR.fn k hlt).2
      have g3 := hR.upd.cells (unhide HY) (.inl hb) k (by rw [unhide HL]; exact hlt)
      have by' := oy.getD k
      have br := hR.ok k hlt
      have hc := hR.cle
      have HS := hide (hR.step hlt hg by')
      have mb : ((ys.getD k 0 : Nat) : Int) * ((g : Nat) : Int) ≤ 18446744065119617025 := by
        have := mul_bound by' hg
        rw [← Int.natCast_mul]; omega
      have mb0 : 0 ≤ ((ys.getD k 0 : Nat) : Int) * ((g : Nat) : Int) := Int.mul_nonneg (by omega) (by omega)
      have e1 := pl_int (ys.getD k 0) g c
      have e2 := ph_int (ys.getD k 0) g c
      have bp := pl_lt (ys.getD k 0) g c
      have bh := ph_lt by' hg hc br
      have e3 : ((h k : Nat) : Int) - ((pl (ys.getD k 0) g c : Nat) : Int) = ((h k : Nat) : Int) - ((pl (ys.getD k 0) g c : Nat) : Int) - ((0 : Nat) : Int) := by omega
      have e4 := sub_mod (h k) (pl (ys.getD k 0) g c) 0 br bp (by decide)
      rw [← e3] at e4
      clear e3
      generalize ys.getD k 0 = y at *
      generalize pl y g c = p at *
      generalize ph y g c = q at *
      generalize hrr : h k = r at *
      have HQ := hide hrr
      clear hR hrr
      by_cases hs : r < p
      · have hs' : (r:Int) < (p:Int) := by omega
        have eb : bor r p = 1 := by unfold bor; rw [if_pos hs]
        rw [eb] at HS bh
        clear eb
        go_wp2_with fail
        exact ⟨⟨k + 1, _, _, by omega, by go_num, by go_num, unhide HS⟩, by simp [intOf]; omega⟩
      · have hs' : ¬ (r:Int) < (p:Int) := by omega
        have eb : bor r p = 0 := by unfold bor; rw [if_neg hs]
        have e5 : ((lim r p 0 : Nat) : Int) = (r:Int) - (p:Int) := by rw [← e4]; omega
        rw [eb, e5] at HS
        rw [eb] at bh
        clear eb e5
        go_wp2_with fail
        exact ⟨⟨k + 1, _, _, by omega, by go_num, by go_num, unhide HS⟩, by simp [intOf]; omega⟩
    · have hkn : k = n := by omega
      have hc := hR.cle
      have hv : valF h n + g * val ys = valF f n + 4294967296 ^ n * c := by
        have hv := hR.val
        rw [hkn] at hv
        rw [← unhide HL, valF_list, unhide HL] at hv
        exact hv
      have HR := hide (And.intro hR hv)
      clear hR hv hkn
      go_wp2
      go_ret
      exact ⟨c, h, rfl, hc, (unhide HR).1.fn, (unhide HR).1.ok, (unhide HR).2, (unhide HR).1.upd⟩
theorem three_top (f : Nat → Nat) (n : Nat) (hn : 2 ≤ n) : valF f (n + 1) = valF f (n - 2) + 4294967296 ^ (n - 2) * (f (n - 2) + 4294967296 * (f (n - 1) + 4294967296 * f n)) := by
  obtain ⟨m, rfl⟩ : ∃ m, n = m + 2 := ⟨n - 2, by omega⟩
  simp only [valF, Nat.add_sub_cancel]
  rw [show m + 2 - 1 = m + 1 from by omega, Nat.pow_succ 4294967296 (m + 1), Nat.pow_succ 4294967296 m]
  generalize 4294967296 ^ m = P
  simp only [Nat.mul_add, Nat.mul_assoc]
  omega

theorem two_top (f : Nat → Nat) (n : Nat) (hn : 2 ≤ n) : valF f n = valF f (n - 2) + 4294967296 ^ (n - 2) * (f (n - 2) + 4294967296 * f (n - 1)) := by
  obtain ⟨m, rfl⟩ : ∃ m, n = m + 2 := ⟨n - 2, by omega⟩
  simp only [valF, Nat.add_sub_cancel]
  rw [show m + 2 - 1 = m + 1 from by omega, Nat.pow_succ]
  generalize 4294967296 ^ m = P
  rw [Nat.mul_add, Nat.mul_assoc]
  omega

theorem gs_of {n : Nat} {f : Nat → Nat} {ys : List Nat} (hn : 2 ≤ n) (hl : ys.length = n) (oy : Ok ys) (ok : ∀ i, i < n + 1 → f i < 4294967296) (ht : 2147483648 ≤ ys.getD (n - 1) 0) (hu : valF f (n + 1) < val ys * 4294967296) :
    Gs (4294967296 ^ (n - 2)) (f n) (f (n - 1)) (f (n - 2)) (valF f (n - 2)) (ys.getD (n - 1) 0) (ys.getD (n - 2) 0) (valF (fun i => ys.getD i 0) (n - 2)) := by
  refine ⟨pow_pos _, ok n (by omega), ok _ (by omega), ok _ (by omega), valF_lt (fun i hi => ok i (by omega)), oy.getD _, ht, oy.getD _, valF_lt (fun i hi => oy.getD _), ?_⟩
  rw [← three_top f n hn]
  have := two_top (fun i => ys.getD i 0) n hn
  rw [← this]
  rw [← hl, valF_list, hl]
  exact hu

theorem tq_right {P X F t c gV U V g : Nat} (h1 : X + g * V = F + P * c) (hU : U = F + P * t) (h : c ≤ t) : X + P * (t - c) + g * V = U := by
  subst hU
  have : P * t = P * (t - c) + P * c := by rw [← Nat.mul_add, Nat.sub_add_cancel h]
  omega

theorem tq_short {P X X2 F t c d U V g : Nat} (h1 : X + g * V = F + P * c) (h2 : X2 + P * d = X + V) (hU : U = F + P * t) (h : t < c) (hd : d ≤ 1) (hX : X < P) (hX2 : X2 < P) (hg : g * V < U + V) : c = t + 1 ∧ d = 1 ∧ 1 ≤ g ∧ X2 + (g - 1) * V = U ∧ X2 < V := by
  subst hU
  have hc1 : P * c = P * t + P * (c - t) := by rw [← Nat.mul_add]; congr 1; omega
  have hc2 : P * 1 ≤ P * (c - t) := Nat.mul_le_mul_left _ (by omega)
  have hd1 : d = 1 := by
    rcases Nat.lt_or_ge d 1 with k | k
    · exfalso
      have : d = 0 := by omega
      subst this
      simp at h2
      omega
    · omega
  subst hd1
  have hc3 : c = t + 1 := by
    rcases Nat.lt_or_ge (c - t) 2 with k | k
    · omega
    · exfalso
      have : P * 2 ≤ P * (c - t) := Nat.mul_le_mul_left _ k
      omega
  subst hc3
  rw [Nat.mul_add] at h1
  have hg1 : 1 ≤ g := by
    rcases Nat.eq_zero_or_pos g with k | k
    · exfalso; subst k; simp at h1; omega
    · exact k
  have e : (g - 1) * V + V = g * V := by
    obtain ⟨k, rfl⟩ : ∃ k, g = k + 1 := ⟨g - 1, by omega⟩
    rw [Nat.add_sub_cancel, Nat.add_mul, Nat.one_mul]
  exact ⟨rfl, rfl, hg1, by omega, by omega⟩

def TqPost (w : World) (bu ou n : Nat) (f : Nat → Nat) (V : Nat) (e : Ending) (w' : World) : Prop :=
  ∃ (q : Nat) (f' : Nat → Nat), e = .returned (.int .u32 (q : Nat)) ∧ q < 4294967296 ∧ Fn w' bu ou (n + 1) f' ∧ (∀ i, i < n + 1 → f' i < 4294967296) ∧ valF f' (n + 1) + q * V = valF f (n + 1) ∧ valF f' (n + 1) < V ∧ Upd bu ou (ou + (n + 1)) w w'

theorem Fn.low {w : World} {b off n : Nat} {f : Nat → Nat} (h : Fn w b off (n + 1) f) : Fn w b off n f := fun i hi => h i (by omega)

theorem Fn.top {w : World} {b off n v : Nat} {g : Nat → Nat} (h : Fn w b off n g) (k : w.cell? ⟨b, off + n, none⟩ = some (.int .u32 (v : Nat))) (kf : w.frozen? ⟨b, off + n, none⟩ = false) : Fn w b off (n + 1) (fun i => if i = n then v else g i) := by
  intro i hi
  by_cases e : i = n
  · subst e; simp only [if_true]; exact ⟨k, kf⟩
  · simp only [e, if_false]; exact h i (by omega)

theorem valF_top (n v : Nat) (g : Nat → Nat) : valF (fun i => if i = n then v else g i) (n + 1) = valF g n + 4294967296 ^ n * v := by
  simp only [valF, if_true]
  rw [valF_congr (g := g) (fun i hi => by rw [if_neg (by omega)])]

theorem Upd.setTop {b off n : Nat} {w w' : World} (u : Upd b off (off + n) w w') (v : Value) : Upd b off (off + (n + 1)) w (w'.setCell ⟨b, off + n, none⟩ v) :=
  (u.mono (Nat.le_refl _) (by omega)).set _ _ (by omega) (by omega)

theorem setTop_fn {b off n : Nat} {w : World} {g : Nat → Nat} {v x : Nat} (h : Fn w b off n g) (k : w.cell? ⟨b, off + n, none⟩ = some (.int .u32 (x : Nat))) (kf : w.frozen? ⟨b, off + n, none⟩ = false) : Fn (w.setCell ⟨b, off + n, none⟩ (.int .u32 (v : Nat))) b off n g ∧ (w.setCell ⟨b, off + n, none⟩ (.int .u32 (v : Nat))).cell? ⟨b, off + n, none⟩ = some (.int .u32 (v : Nat)) ∧ (w.setCell ⟨b, off + n, none⟩ (.int .u32 (v : Nat))).frozen? ⟨b, off + n, none⟩ = false := by
  refine ⟨?_, World.cell?_setCell_same _ _ _ k, by rw [World.frozen?_setCell]; exact kf⟩
  intro i hi
  rw [World.cell?_setCell_other _ _ _ _ (by intro h; injection h with h1 h2; omega), World.frozen?_setCell]
  exact h i hi

theorem fn_drew {w : World} {b off n : Nat} {f : Nat → Nat} (h : Fn w b off n f) : Fn w.drew b off n f := h
theorem cells_drew {w : World} {b off : Nat} {ys : List Nat} (h : Cells w b off ys) : Cells w.drew b off ys := h

set_option maxHeartbeats 4000000 in
theorem takeQ_any (bu ou n bv ov cv : Nat) (f : Nat → Nat) (ys : List Nat) (w : World) (hn : 2 ≤ n) (hm : n ≤ 1000000) (hl : ys.length = n) (hcv : n ≤ cv) (hcm : cv ≤ maxLen) (oy : Ok ys) (ok : ∀ i, i < n + 1 → f i < 4294967296) (ht : 2147483648 ≤ ys.getD (n - 1) 0) (hu : valF f (n + 1) < val ys * 4294967296)
    (h : Fn w bu ou (n + 1) f) (hy : Cells w bv ov ys) (hb : bv ≠ bu) :
    Calls Tryz.prog 144 #[.slice (some ⟨bu, ou, none⟩) (n + 1) (n + 1), .slice (some ⟨bv, ov, none⟩) n cv] w fun e w' => TqPost w bu ou n f (val ys) e w' := by
  have gs := gs_of hn hl oy ok ht hu
  have KG := guess_any bu ou n (n + 1) bv ov cv _ _ _ _ _ _ _ _ w gs hn (by omega) (h n (by omega)).1 (h (n - 1) (by omega)).1 (h (n - 2) (by omega)).1 (hy (n - 1) (by omega)) (hy (n - 2) (by omega))
  have e2 := two_top (fun i => ys.getD i 0) n hn
  rw [← three_top f n hn, ← e2] at KG
  rw [← hl, valF_list, hl] at KG
  clear gs e2
  have HT := h n (by omega)
  have bt := ok n (by omega)
  have HL := hide hl
  have HY := hide hy
  have HF := hide h
  have HO := hide ok
  have KG' := hide KG
  clear KG hl hy h ok ht hu
  go_enter Tryz.func144, Tryz.ntmps144
  go_wp2_with fail
  refine (unhide KG').mono ?_
  rintro e w1 ⟨⟨g, rfl, hg, hlt, hgt⟩, kk, hw⟩
  have f1 : Fn w1 bu ou (n + 1) f := by rw [hw]; exact fn_drewN (unhide HF) kk
  have u1 : Upd bu ou (ou + n) w w1 := by rw [hw]; exact (Upd.refl _ _ _ _).drewN kk
  have y1 : Cells w1 bv ov ys := u1.cells (unhide HY) (.inl hb)
  have KS := hide (subTimes_any bu ou n n bv ov cv g f ys w1 (by omega) (unhide HL) oy (fun i hi => unhide HO i (by omega)) f1.low y1 hb hg)
  have HLT := hide hlt
  have HGT := hide hgt
  have U1 := hide u1
  have F1 := hide f1
  have s1 : (n:Int) ≤ (n:Int) + 1 := by omega
  have s2 : (n:Int) < (n:Int) + 1 := by omega
  clear hlt hgt hw f1 u1 y1 KG' HT
  go_wp2_with fail
  refine (unhide KS).mono ?_
  rintro e w2 ⟨c, x, rfl, hc, fx, ox, hx, u2⟩
  have k2 := (u2.cell (ou + n) (.inr (Nat.le_refl _))).trans (unhide F1 n (by omega)).1
  have k2f := (u2.froz (ou + n)).trans (unhide F1 n (by omega)).2
  have FX := hide fx
  have OX := hide ox
  have EX := hide hx
  have U2 := hide ((unhide U1).trans u2)
  have Y2 := hide (u2.cells ((unhide U1).cells (unhide HY) (.inl hb)) (.inl hb))
  generalize hft : f n = t at *
  have HFT := hide hft
  clear fx ox hx u2 KS hft
  have hUt : valF f (n + 1) = valF f n + 4294967296 ^ n * t := by rw [← unhide HFT]; rfl
  have HU := hide hUt
  clear hUt
  have XL := hide (valF_lt (unhide OX))
  by_cases hs : t < c
  · have hs' : (t:Int) < (c:Int) := by omega
    have e4 : ((t:Int) - (c:Int)) % 4294967296 = ((lim t c 0 : Nat) : Int) := by
      have := sub_mod t c 0 bt hc (by decide)
      rw [show (t:Int) - (c:Int) - ((0 : Nat) : Int) = (t:Int) - (c:Int) from by omega] at this
      exact this
    have g1 : 1 ≤ g := by
      rcases Nat.eq_zero_or_pos g with k | k
      · exfalso
        have h1 := unhide EX
        have h2 := unhide XL
        rw [k, Nat.zero_mul] at h1
        have h3 : 4294967296 ^ n * 1 ≤ 4294967296 ^ n * c := Nat.mul_le_mul_left _ (by omega)
        omega
      · exact k
    have by' := lim_lt t c 0
    have HYV := hide (show lim t c 0 = (4294967296 + t - c) % 4294967296 from by unfold lim; omega)
    generalize lim t c 0 = y at *
    have S3 := hide (setTop_fn (v := y) (unhide FX) k2 k2f)
    have Y3 := hide (((Upd.refl bu (ou + n) (ou + n + 1) w2).set (ou + n) (.int .u32 (y : Nat)) (Nat.le_refl _) (by omega)).cells (unhide Y2) (.inl hb))
    have U3 := hide ((unhide U2).setTop (.int .u32 (y : Nat)))
    have KA := hide (fun (v : World) (hF : Fn v bu ou n x) (hy : Cells v bv ov ys) => addTo_any bu ou n n n cv (some ⟨bv, ov, none⟩) x ys v ⟨unhide HL, hcv, hcm, .inr ⟨_, _, rfl, hy⟩⟩ (fun z hz _ => by cases hz; exact hb) (Nat.le_refl _) (by unfold maxLen; omega) oy (unhide OX) hF)
    go_wp2_with fail
    go_region_with (go_at_call 149; refine (unhide KA _ (fn_drew (unhide S3).1) (cells_drew (unhide Y3))).mono ?_; rintro e w4 ⟨x2, d, rfl, hd, f4, o4, v4, u4⟩; have k4 := (u4.cell (ou + n) (.inr (Nat.le_refl _))).trans (unhide S3).2.1; have k4f := (u4.froz (ou + n)).trans (unhide S3).2.2; have F4 := hide f4; have O4 := hide o4; have V4 := hide v4; have U4 := hide (((unhide U3).drew).trans (u4.mono (Nat.le_refl _) (by omega))); have eyd : ((y:Int) + (d:Int)) % 4294967296 = (((y + d) % 4294967296 : Nat) : Int) := (by omega); clear f4 o4 v4 u4 KA)
    all_goals
      generalize hsd : (y + d) % 4294967296 = sd at eyd
      have HSD := hide hsd
      clear hsd
      go_wp2
      go_ret
      obtain ⟨r1, r2, r3, r4, r5⟩ := tq_short (unhide EX) (unhide V4) (unhide HU) hs hd (unhide XL) (valF_lt (unhide O4)) (unhide HGT)
      have hz : sd = 0 := by
        have h1 := unhide HSD
        have h2 := unhide HYV
        omega
      have ewr : IntKind.u32.wrap ((y:Int) + (d:Int)) = ((sd : Nat) : Int) := by
        simp only [IntKind.wrap, IntKind.bits, IntKind.signed]
        first | (rw [← eyd]; rfl) | omega
      rw [ewr]
      have S5 := setTop_fn (v := sd) (unhide F4) k4 k4f
      refine ⟨g - 1, _, ?_, by omega, S5.1.top S5.2.1 S5.2.2, ?_, ?_, ?_, ((unhide U4).set _ _ (by omega) (by omega))⟩
      · show Ending.returned (Value.int IntKind.u32 ((g:Int) - 1)) = _
        rw [show (g:Int) - 1 = ((g - 1 : Nat) : Int) from by omega]
      · intro i hi
        by_cases e : i = n
        · simp only [e, if_true]; omega
        · simp only [e, if_false]; exact unhide O4 i (by omega)
      · rw [valF_top, hz, Nat.mul_zero, Nat.add_zero]; exact r4
      · rw [valF_top, hz, Nat.mul_zero, Nat.add_zero]; exact r5
  · have hs' : ¬ (t:Int) < (c:Int) := by omega
    have S3 := hide (setTop_fn (v := t - c) (unhide FX) k2 k2f)
    have U3 := hide ((unhide U2).setTop (.int .u32 ((t - c : Nat) : Int)))
    have etc : ((t - c : Nat) : Int) = (t:Int) - (c:Int) := by omega
    rw [etc] at S3 U3
    clear etc
    go_wp2
    go_ret
    have r := tq_right (gV := 0) (unhide EX) (unhide HU) (by omega)
    refine ⟨g, _, rfl, hg, (unhide S3).1.top (v := t - c) (by rw [(unhide S3).2.1]; congr 2; omega) (unhide S3).2.2, ?_, ?_, ?_, unhide U3⟩
    · intro i hi
      by_cases e : i = n
      · simp only [e, if_true]; omega
      · simp only [e, if_false]; exact unhide OX i (by omega)
    · rw [valF_top]; exact r
    · rw [valF_top]
      have h1 := unhide HLT
      rw [Nat.add_mul, Nat.one_mul] at h1
      omega
end Go.Proofs.YtpicknbdfjjflaaGreatDoor
