/- Dv2 -/
import Derived.Test.YtiadccaaoenccaaDoorRd1
namespace Go.Proofs.YtiadccaaoenccaaDoor
open Go.RowKit Go.Deep
set_option linter.unusedVariables false
theorem dv_div_lt {lo hi y : Nat} (h1 : lo < 4294967296) (h2 : hi < y) : dv lo hi / y < 4294967296 := by
  unfold dv
  rw [Nat.div_lt_iff_lt_mul (by omega)]
  have : 4294967296 * (hi + 1) ≤ 4294967296 * y := Nat.mul_le_mul_left _ h2
  omega

set_option maxHeartbeats 1000000 in
theorem div32_any (hi lo y : Nat) (w : World) (h1 : lo < 4294967296) (h2 : hi < y) (h3 : y < 4294967296) :
    Calls Tryd.prog 90 #[.int .u32 (hi : Nat), .int .u32 (lo : Nat), .int .u32 (y : Nat)] w fun e w' => e = .returned (.tuple #[.int .u32 (dv lo hi / y : Nat), .int .u32 (dv lo hi % y : Nat)]) ∧ ∃ k, w' = w.drewN k := by
  have t1 : ¬ (y:Int) ≤ (hi:Int) := by omega
  have t2 : ((y:Int) != 0) = true := by rw [bne_iff_ne]; omega
  have t3 : ((y:Int) == 0) = false := by simp; omega
  have t4 : ¬ (y:Int) = 0 := by omega
  have e0 := dv_int h1 (show hi < 4294967296 by omega)
  have hd := dv_lt h1 (show hi < 4294967296 by omega)
  have hq := dv_div_lt h1 h2
  have hr : dv lo hi % y < 4294967296 := Nat.lt_trans (Nat.mod_lt _ (by omega)) h3
  generalize dv lo hi = z at *
  have e1 : ((z : Nat) : Int).tdiv (y : Int) = ((z / y : Nat) : Int) := by rw [Int.tdiv_eq_ediv_of_nonneg (by omega)]; exact (Int.natCast_ediv _ _).symm
  have e2 : ((z : Nat) : Int).tmod (y : Int) = ((z % y : Nat) : Int) := by rw [Int.tmod_eq_emod_of_nonneg (by omega)]; exact (Int.natCast_emod _ _).symm
  have e3 : ((z : Nat) : Int) / (y : Int) = ((z / y : Nat) : Int) := (Int.natCast_ediv _ _).symm
  have e4 : ((z : Nat) : Int) % (y : Int) = ((z % y : Nat) : Int) := (Int.natCast_emod _ _).symm
  generalize z / y = q at *
  generalize z % y = r at *
  go_enter Tryd.func90, Tryd.ntmps90
  go_wp2_with fail
  go_quiet (fail)
  go_wp2
  go_ret2
  exact ⟨rfl, _, rfl⟩

set_option maxHeartbeats 1000000 in
theorem lz32_any (x : Nat) (w : World) (hx : x < 4294967296) :
    Calls Tryd.prog 83 #[.int .u32 (x : Nat)] w fun e w' => e = .returned (.int .i64 (32 - (Lib.bitLen x : Int))) ∧ w' = w := by
  have K := hide (len32_any x w hx)
  have hl : Lib.bitLen x ≤ 64 := Lib.bitLen_le x 64 (by omega) (by omega)
  generalize Lib.bitLen x = u at *
  go_enter Tryd.func83, Tryd.ntmps83
  go_wp2_with fail
  refine (unhide K).mono ?_
  rintro e w' ⟨rfl, hw⟩
  obtain rfl := hw.symm
  go_wp2
  go_ret
  exact ⟨rfl, rfl⟩

structure DlR (wr w : World) (b off n : Nat) (f : Nat → Nat) (d k r : Nat) (g : Nat → Nat) : Prop where
  fn : Fn wr b off n g
  ok : ∀ i, i < n → g i < 4294967296
  eq : ∀ i, i < k → g i = f i
  rlt : r < d
  val : valF (fun i => f (k + i)) (n - k) = valF (fun i => g (k + i)) (n - k) * d + r
  upd : Upd b off (off + n) w wr

theorem valF_head (f : Nat → Nat) (k n : Nat) (h : k < n) : valF (fun i => f (k + i)) (n - k) = f k + 4294967296 * valF (fun i => f (k + 1 + i)) (n - (k + 1)) := by
  have e : n - k = 1 + (n - (k + 1)) := by omega
  rw [e, valF_add]
  simp only [valF, Nat.add_zero, Nat.pow_zero, Nat.pow_one, Nat.one_mul, Nat.zero_add]
  congr 2
  exact valF_congr (fun i _ => by rw [Nat.add_assoc])

theorem dl_arith {F S Q r d q r' : Nat} (h : S = Q * d + r) (e : F + 4294967296 * r = d * q + r') : F + 4294967296 * S = (q + 4294967296 * Q) * d + r' := by
  subst h
  rw [Nat.add_mul, Nat.mul_add, Nat.mul_comm q d, Nat.mul_assoc]
  omega

theorem DlR.step {wr w : World} {b off n : Nat} {f : Nat → Nat} {d k r : Nat} {g : Nat → Nat} (h : DlR wr w b off n f d (k + 1) r g) (hk : k < n) (hd : d < 4294967296) :
    DlR (wr.setCell ⟨b, off + k, none⟩ (.int .u32 (dv (g k) r / d : Nat))) w b off n f d k (dv (g k) r % d) (fun i => if i = k then dv (g k) r / d else g i) := by
  have hq := dv_div_lt (h.ok k hk) h.rlt
  refine ⟨h.fn.set k _ hk, ?_, ?_, Nat.mod_lt _ (by have := h.rlt; omega), ?_, h.upd.set _ _ (by omega) (by omega)⟩
  · intro i hi
    by_cases e : i = k
    · simp only [e, if_true]; exact hq
    · simp only [e, if_false]; exact h.ok i hi
  · intro i hi
    rw [if_neg (by omega)]
    exact h.eq i (by omega)
  · rw [valF_head f k n hk, valF_head (fun i => if i = k then dv (g k) r / d else g i) k n hk]
    simp only [if_true]
    have e0 : valF (fun i => if k + 1 + i = k then dv (g k) r / d else g (k + 1 + i)) (n - (k + 1)) = valF (fun i => g (k + 1 + i)) (n - (k + 1)) := valF_congr (fun i _ => by rw [if_neg (by omega)])
    rw [e0, ← h.eq k (by omega)]
    refine dl_arith h.val ?_
    have := Nat.div_add_mod (dv (g k) r) d
    unfold dv at *
    omega

theorem DlR.drew {wr w : World} {b off n : Nat} {f : Nat → Nat} {d k r : Nat} {g : Nat → Nat} (h : DlR wr w b off n f d k r g) : DlR wr.drew w b off n f d k r g := ⟨h.fn, h.ok, h.eq, h.rlt, h.val, h.upd.drew⟩

theorem DlR.drewN {wr w : World} {b off n : Nat} {f : Nat → Nat} {d k r : Nat} {g : Nat → Nat} (h : DlR wr w b off n f d k r g) (j : Nat) : DlR (wr.drewN j) w b off n f d k r g := ⟨h.fn, h.ok, h.eq, h.rlt, h.val, h.upd.drewN j⟩

def DlPost (w : World) (b off n : Nat) (f : Nat → Nat) (d : Nat) (e : Ending) (w' : World) : Prop :=
  ∃ (r : Nat) (g : Nat → Nat), e = .returned (.int .u32 (r : Nat)) ∧ r < d ∧ Fn w' b off n g ∧ (∀ i, i < n → g i < 4294967296) ∧ valF f n = valF g n * d + r ∧ Upd b off (off + n) w w'

set_option maxHeartbeats 2000000 in
theorem divideLimb_any (b off n c d : Nat) (f : Nat → Nat) (w : World) (h : Fn w b off n f) (ok : ∀ i, i < n → f i < 4294967296) (hn : n ≤ 1000000000) (hd0 : 0 < d) (hd : d < 4294967296) :
    Calls Tryd.prog 86 #[.slice (some ⟨b, off, none⟩) n c, .int .u32 (d : Nat)] w fun e w' => DlPost w b off n f d e w' := by
  have hR0 : DlR w w b off n f d n 0 f := ⟨h, ok, fun _ _ => rfl, hd0, by simp [valF], Upd.refl _ _ _ _⟩
  have HR0 := hide hR0
  clear hR0 h ok
  go_enter Tryd.func86, Tryd.ntmps86
  go_wp2
  go_loopw [5, 6] (fun rv i wr => ∃ k r : Nat, ∃ g : Nat → Nat, k ≤ n ∧ i = .int .i64 ((k : Int) - 1) ∧ rv = .int .u32 (r : Nat) ∧ DlR wr w b off n f d k r g) (fun _ i _ => (intOf i + 1).toNat)
  case atStart => exact ⟨n, 0, _, Nat.le_refl _, rfl, rfl, unhide HR0⟩
  case round =>
    clear HR0
    obtain ⟨k, r, g, hk, rfl, rfl, hR⟩ := hrel
    rcases k with _ | k
    · have t1 : ¬ (0:Int) ≤ ((0:Nat):Int) - 1 := by omega
      have HR := hide hR
      clear hR
      go_wp2
      go_ret
      have hv := (unhide HR).val
      simp only [Nat.zero_add, Nat.sub_zero] at hv
      exact ⟨r, g, rfl, (unhide HR).rlt, (unhide HR).fn, (unhide HR).ok, hv, (unhide HR).upd⟩
    · have t0 : ((k + 1 : Nat) : Int) - 1 = (k : Int) := by omega
      rw [t0]
      have t1 : (k:Int) < (n:Int) := by omega
      have g1 := (hR.fn k (by omega)).1
      have g2 := (hR.fn k (by omega)).2
      have hkn : k < n := by omega
      have KD := hide (fun w => div32_any r (g k) d w (hR.ok k (by omega)) hR.rlt hd)
      have HR0 := hide hR
      clear hR
      go_wp2_with fail
      refine (unhide KD _).mono ?_
      rintro e w' ⟨rfl, kk, hw⟩
      have hR2 : DlR w' w b off n f d (k + 1) r g := by rw [hw]; exact (unhide HR0).drewN kk
      have g3 := (hR2.fn k hkn).1
      have g4 := (hR2.fn k hkn).2
      have HR := hide (hR2.step hkn hd)
      clear hw hR2 KD HR0
      go_wp2
      exact ⟨⟨k, _, _, by omega, by go_num, rfl, unhide HR⟩, by simp [intOf]⟩
open Go.RowKit Go.Deep
set_option linter.unusedVariables false

structure Gs (P u2 u1 u0 ul top next vl : Nat) : Prop where
  hP : 0 < P
  h2 : u2 < 4294967296
  h1 : u1 < 4294967296
  h0 : u0 < 4294967296
  hl : ul < P
  ht : top < 4294967296
  hb : 2147483648 ≤ top
  hn : next < 4294967296
  hv : vl < P
  lt : ul + P * (u0 + 4294967296 * (u1 + 4294967296 * u2)) < (vl + P * (next + 4294967296 * top)) * 4294967296

theorem low_lt {P ul S X : Nat} (h : ul < P) (k : S < X) : ul + P * S < P * X := by
  have : P * (S + 1) ≤ P * X := Nat.mul_le_mul_left _ k
  rw [Nat.mul_add, Nat.mul_one] at this
  omega

theorem mul_high {g P vl T : Nat} : P * (g * T) ≤ g * (vl + P * T) := by
  rw [Nat.mul_add, Nat.mul_left_comm g P T]
  exact Nat.le_add_left _ _

theorem Gs.top_le {P u2 u1 u0 ul top next vl : Nat} (s : Gs P u2 u1 u0 ul top next vl) : u2 ≤ top := by
  have h := s.lt
  rcases Nat.lt_or_ge top u2 with k | k
  · exfalso
    have h3 : vl + P * (next + 4294967296 * top) < P * (4294967296 * u2) := low_lt s.hv (by have := s.hn; omega)
    have h4 : P * (4294967296 * u2) * 4294967296 ≤ P * (u0 + 4294967296 * (u1 + 4294967296 * u2)) := by
      rw [Nat.mul_assoc]
      exact Nat.mul_le_mul_left _ (by omega)
    have h5 := Nat.mul_lt_mul_of_pos_right h3 (show 0 < 4294967296 by decide)
    omega
  · exact k

theorem Gs.start {P u2 u1 u0 ul top next vl : Nat} (s : Gs P u2 u1 u0 ul top next vl) : ul + P * (u0 + 4294967296 * (u1 + 4294967296 * u2)) < ((u1 + 4294967296 * u2) / top + 1) * (vl + P * (next + 4294967296 * top)) := by
  have ht := s.hb
  generalize u1 + 4294967296 * u2 = hd
  have h1 : hd < (hd / top + 1) * top := by
    have e1 := Nat.div_add_mod hd top
    have e2 := Nat.mod_lt hd (show top > 0 by omega)
    rw [Nat.add_mul, Nat.one_mul, Nat.mul_comm (hd / top)]
    omega
  generalize hd / top + 1 = g at *
  have h2 : u0 + 4294967296 * hd < g * (next + 4294967296 * top) := by
    rw [Nat.mul_add, Nat.mul_left_comm]
    have := s.h0
    omega
  exact Nat.lt_of_lt_of_le (low_lt s.hl h2) mul_high

theorem Gs.big {P u2 u1 u0 ul top next vl g : Nat} (s : Gs P u2 u1 u0 ul top next vl) (hg : 4294967296 ≤ g) : ul + P * (u0 + 4294967296 * (u1 + 4294967296 * u2)) < g * (vl + P * (next + 4294967296 * top)) := by
  refine Nat.lt_of_lt_of_le s.lt ?_
  rw [Nat.mul_comm]
  exact Nat.mul_le_mul_right _ hg

theorem Gs.more {P u2 u1 u0 ul top next vl g r : Nat} (s : Gs P u2 u1 u0 ul top next vl) (he : g * top + r = u1 + 4294967296 * u2) (hc : r * 4294967296 + u0 < g * next) : ul + P * (u0 + 4294967296 * (u1 + 4294967296 * u2)) < g * (vl + P * (next + 4294967296 * top)) := by
  refine Nat.lt_of_lt_of_le (low_lt s.hl ?_) (mul_high (vl := vl))
  rw [Nat.mul_add g, Nat.mul_left_comm g]
  omega

theorem Gs.less {P u2 u1 u0 ul top next vl g r : Nat} (s : Gs P u2 u1 u0 ul top next vl) (he : g * top + r = u1 + 4294967296 * u2) (hg : g < 4294967296) (hc : g * next ≤ r * 4294967296 + u0) : g * (vl + P * (next + 4294967296 * top)) < ul + P * (u0 + 4294967296 * (u1 + 4294967296 * u2)) + (vl + P * (next + 4294967296 * top)) := by
  have h1 : g * (next + 4294967296 * top) ≤ u0 + 4294967296 * (u1 + 4294967296 * u2) := by
    rw [Nat.mul_add, Nat.mul_left_comm]
    omega
  have h2 : P * (g * (next + 4294967296 * top)) ≤ P * (u0 + 4294967296 * (u1 + 4294967296 * u2)) := Nat.mul_le_mul_left _ h1
  have h3 : g * vl < 4294967296 * P := Nat.mul_lt_mul'' hg s.hv
  have h4 : P * 4294967296 ≤ P * (next + 4294967296 * top) := Nat.mul_le_mul_left _ (by have := s.hb; omega)
  rw [Nat.mul_add g, Nat.mul_left_comm g P]
  omega

theorem Gs.off {P u2 u1 u0 ul top next vl g r : Nat} (s : Gs P u2 u1 u0 ul top next vl) (he : g * top + r = u1 + 4294967296 * u2) (hr : 4294967296 ≤ r) : g < 4294967296 := by
  rcases Nat.lt_or_ge g 4294967296 with k | k
  · exact k
  · exfalso
    have h1 := s.top_le
    have h2 : 4294967296 * top ≤ g * top := Nat.mul_le_mul_right _ k
    have := s.h1
    omega

theorem Gs.less2 {P u2 u1 u0 ul top next vl g r : Nat} (s : Gs P u2 u1 u0 ul top next vl) (he : g * top + r = u1 + 4294967296 * u2) (hr : 4294967296 ≤ r) : g * (vl + P * (next + 4294967296 * top)) < ul + P * (u0 + 4294967296 * (u1 + 4294967296 * u2)) + (vl + P * (next + 4294967296 * top)) := by
  have hg := s.off he hr
  refine s.less he hg ?_
  have h1 : g * next ≤ 4294967296 * 4294967296 := Nat.mul_le_mul (by omega) (by have := s.hn; omega)
  have h2 : 4294967296 * 4294967296 ≤ r * 4294967296 := Nat.mul_le_mul_right _ hr
  omega

structure GR (P u2 u1 u0 ul top next vl g r : Nat) : Prop where
  rlt : r < 4294967296
  eq : g * top + r = u1 + 4294967296 * u2
  gle : g < 18446744073709551616
  lt : ul + P * (u0 + 4294967296 * (u1 + 4294967296 * u2)) < (g + 1) * (vl + P * (next + 4294967296 * top))

theorem GR.down {P u2 u1 u0 ul top next vl g r : Nat} (h : GR P u2 u1 u0 ul top next vl g r) (hg : 1 ≤ g) : (g - 1) * top + (r + top) = u1 + 4294967296 * u2 := by
  have e := h.eq
  obtain ⟨k, rfl⟩ : ∃ k, g = k + 1 := ⟨g - 1, by omega⟩
  rw [Nat.add_mul, Nat.one_mul] at e
  simp only [Nat.add_sub_cancel]
  omega

def GuessPost (U V : Nat) (e : Ending) : Prop := ∃ g : Nat, e = .returned (.int .u32 (g : Nat)) ∧ g < 4294967296 ∧ U < (g + 1) * V ∧ g * V < U + V

set_option maxHeartbeats 4000000 in
theorem guess_any (bu ou n cu bv ov cv : Nat) (P u2 u1 u0 ul top next vl : Nat) (w : World) (s : Gs P u2 u1 u0 ul top next vl) (hn : 2 ≤ n) (hm : n ≤ 1000000000)
    (k2 : w.cell? ⟨bu, ou + n, none⟩ = some (.int .u32 (u2 : Nat))) (k1 : w.cell? ⟨bu, ou + (n - 1), none⟩ = some (.int .u32 (u1 : Nat))) (k0 : w.cell? ⟨bu, ou + (n - 2), none⟩ = some (.int .u32 (u0 : Nat)))
    (l1 : w.cell? ⟨bv, ov + (n - 1), none⟩ = some (.int .u32 (top : Nat))) (l0 : w.cell? ⟨bv, ov + (n - 2), none⟩ = some (.int .u32 (next : Nat))) :
    Calls Tryd.prog 94 #[.slice (some ⟨bu, ou, none⟩) (n + 1) cu, .slice (some ⟨bv, ov, none⟩) n cv] w fun e w' => GuessPost (ul + P * (u0 + 4294967296 * (u1 + 4294967296 * u2))) (vl + P * (next + 4294967296 * top)) e ∧ ∃ k, w' = w.drewN k := by
  have S := hide s
  have b2 := s.h2
  have b1 := s.h1
  have b0 := s.h0
  have bt := s.ht
  have bb := s.hb
  have bn := s.hn
  have ht := s.top_le
  have i1 : ((n:Int) - 1).toNat = n - 1 := by omega
  have i2 : ((n:Int) - 2).toNat = n - 2 := by omega
  have j1 : (n:Int) - 1 < (n:Int) := by omega
  have e0 := dv_int b1 b2
  have hd := dv_lt b1 b2
  have ed : dv u1 u2 = u1 + 4294967296 * u2 := rfl
  have HE := hide ed
  have t3 : ((top:Int) == 0) = false := by simp; omega
  have t4 : ¬ (top:Int) = 0 := by omega
  clear ed s
  generalize dv u1 u2 = z at *
  have e1 : ((z : Nat) : Int).tdiv (top : Int) = ((z / top : Nat) : Int) := by rw [Int.tdiv_eq_ediv_of_nonneg (by omega)]; exact (Int.natCast_ediv _ _).symm
  have e2 : ((z : Nat) : Int).tmod (top : Int) = ((z % top : Nat) : Int) := by rw [Int.tmod_eq_emod_of_nonneg (by omega)]; exact (Int.natCast_emod _ _).symm
  have e3 : ((z : Nat) : Int) / (top : Int) = ((z / top : Nat) : Int) := (Int.natCast_ediv _ _).symm
  have e4 : ((z : Nat) : Int) % (top : Int) = ((z % top : Nat) : Int) := (Int.natCast_emod _ _).symm
  have HZ := hide (Nat.div_add_mod z top)
  have hz1 : z % top < 4294967296 := Nat.lt_trans (Nat.mod_lt _ (by omega)) bt
  have hz2 : z / top ≤ z := Nat.div_le_self _ _
  have HS := hide ((unhide S).start)
  rw [← unhide HE] at HS
  generalize z / top = g0 at *
  generalize z % top = r0 at *
  go_enter Tryd.func94, Tryd.ntmps94
  go_wp2_with fail
  go_quiet (fail)
  go_wp2_with fail
  go_quiet (fail)
  go_wp2_with fail
  go_quiet (fail)
  go_wp2_with fail
  go_loopw [9, 10] (fun gv rv wr => ∃ g r k : Nat, gv = .int .u64 (g : Nat) ∧ rv = .int .u64 (r : Nat) ∧ wr = w.drewN k ∧ GR P u2 u1 u0 ul top next vl g r) (fun gv _ _ => (intOf gv).toNat)
  case atStart =>
    have h1 := unhide HZ
    have h2 := unhide HS
    rw [unhide HE] at h1 h2
    rw [Nat.mul_comm] at h1
    exact ⟨g0, r0, _, rfl, rfl, drewN_add3 _ _ _ _, ⟨hz1, h1, by omega, h2⟩⟩
  case round =>
    obtain ⟨g, r, k, rfl, rfl, rfl, hG⟩ := hrel
    have hr := hG.rlt
    have hg := hG.gle
    have HG := hide hG
    clear hG HS HZ hz1 hz2 hd e0 e1 e2 e3 e4 t3 t4
    have E1 : ((g:Int) / 4294967296 != 0) = decide (4294967296 ≤ g) := by
      by_cases h : 4294967296 ≤ g
      · rw [decide_eq_true h, bne_iff_ne]; omega
      · rw [decide_eq_false h]; have : (g:Int) / 4294967296 = 0 := by omega
        rw [this]; rfl
    have E2 : (((r:Int) + (top:Int)) / 4294967296 != 0) = decide (4294967296 ≤ r + top) := by
      by_cases h : 4294967296 ≤ r + top
      · rw [decide_eq_true h, bne_iff_ne]; omega
      · rw [decide_eq_false h]; have : ((r:Int) + (top:Int)) / 4294967296 = 0 := by omega
        rw [this]; rfl
    by_cases hbig : 4294967296 ≤ g
    · rw [decide_eq_true hbig] at E1
      have HN := hide ((unhide S).big hbig)
      have g1 : 1 ≤ g := by omega
      by_cases hr2 : 4294967296 ≤ r + top
      · rw [decide_eq_true hr2] at E2
        go_wp2
        go_ret
        have hd := (unhide HG).down g1
        refine ⟨⟨g - 1, ?_, (unhide S).off hd hr2, ?_, (unhide S).less2 hd hr2⟩, _, rfl⟩
        · have := (unhide S).off hd hr2
          show Ending.returned (Value.int IntKind.u32 (((g:Int) - 1) % 4294967296)) = _
          rw [show ((g:Int) - 1) % 4294967296 = ((g - 1 : Nat) : Int) from by omega]
        · rw [Nat.sub_add_cancel g1]; exact unhide HN
      · rw [decide_eq_false hr2] at E2
        go_wp2
        have hd := (unhide HG).down g1
        refine ⟨⟨g - 1, r + top, k, ?_, by go_num, rfl, ⟨by omega, hd, by omega, ?_⟩⟩, ?_⟩
        · rw [show (g:Int) - 1 = ((g - 1 : Nat) : Int) from by omega]
        · rw [Nat.sub_add_cancel g1]; exact unhide HN
        · simp [intOf]; omega
    · rw [decide_eq_false hbig] at E1
      have mb : ((g : Nat) : Int) * ((next : Nat) : Int) ≤ 18446744065119617025 := by
        have := mul_bound (show g < 4294967296 by omega) bn
        rw [← Int.natCast_mul]; omega
      have mb0 : 0 ≤ ((g : Nat) : Int) * ((next : Nat) : Int) := Int.mul_nonneg (by omega) (by omega)
      have eo := dv_int b0 hr
      have eo2 := dv_lt b0 hr
      have HD := hide (show dv u0 r = u0 + 4294967296 * r from rfl)
      generalize dv u0 r = y at *
      have em : ((g : Nat) : Int) * ((next : Nat) : Int) = ((g * next : Nat) : Int) := (Int.natCast_mul _ _).symm
      generalize hx : g * next = x at em
      have HX := hide hx
      rw [em] at mb mb0
      clear hx
      by_cases hmore : y < x
      · have hm' : (y:Int) < (x:Int) := by omega
        have HN := hide ((unhide S).more (unhide HG).eq (by rw [unhide HX]; have := unhide HD; omega))
        have g1 : 1 ≤ g := by
          rcases Nat.eq_zero_or_pos g with e | e
          · exfalso; have := unhide HX; rw [e, Nat.zero_mul] at this; omega
          · exact e
        by_cases hr2 : 4294967296 ≤ r + top
        · rw [decide_eq_true hr2] at E2
          go_wp2
          go_ret
          have hd := (unhide HG).down g1
          refine ⟨⟨g - 1, ?_, (unhide S).off hd hr2, ?_, (unhide S).less2 hd hr2⟩, _, rfl⟩
          · have := (unhide S).off hd hr2
            show Ending.returned (Value.int IntKind.u32 ((g:Int) - 1)) = _
            rw [show (g:Int) - 1 = ((g - 1 : Nat) : Int) from by omega]
          · rw [Nat.sub_add_cancel g1]; exact unhide HN
        · rw [decide_eq_false hr2] at E2
          go_wp2
          have hd := (unhide HG).down g1
          refine ⟨⟨g - 1, r + top, k, ?_, by go_num, rfl, ⟨by omega, hd, by omega, ?_⟩⟩, ?_⟩
          · rw [show (g:Int) - 1 = ((g - 1 : Nat) : Int) from by omega]
          · rw [Nat.sub_add_cancel g1]; exact unhide HN
          · simp [intOf]; omega
      · have hm' : ¬ (y:Int) < (x:Int) := by omega
        have HL := hide ((unhide S).less (unhide HG).eq (by omega) (by rw [unhide HX]; have := unhide HD; omega))
        go_wp2
        go_ret
        exact ⟨⟨g, rfl, by omega, (unhide HG).lt, unhide HL⟩, _, rfl⟩
end Go.Proofs.YtiadccaaoenccaaDoor
