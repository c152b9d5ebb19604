/-
  math/bits.Div32, LeadingZeros32; natural.divideLimb: contracts.
-/
import Derived.Test.YtpnhmaenmmelnaaDoorNBits
import Derived.Test.YtpnhmaenmmelnaaDoorShr
namespace Go.Proofs.YtpnhmaenmmelnaaDoor
open Go.RowKit Go.Deep
set_option linter.unusedVariables false

theorem dv_div_lt {lo hi y : Nat} (h1 : lo < 4294967296) (h2 : hi < y) : dv lo hi / y < 4294967296 := by
  unfold dv
  rw [Nat.div_lt_iff_lt_mul (by omega)]
  have : 4294967296 * (hi + 1) ≤ 4294967296 * y := Nat.mul_le_mul_left _ h2
  omega

set_option maxHeartbeats 1000000 in
/-- math/bits.Div32. -/
theorem div32_any (hi lo y : Nat) (w : World) (h1 : lo < 4294967296) (h2 : hi < y) (h3 : y < 4294967296) :
    Calls Tryd.prog 88 #[.int .u32 (hi : Nat), .int .u32 (lo : Nat), .int .u32 (y : Nat)] w fun e w' => e = .returned (.tuple #[.int .u32 (dv lo hi / y : Nat), .int .u32 (dv lo hi % y : Nat)]) ∧ ∃ k, w' = w.drewN k := by
  have t1 : ¬ (y:Int) ≤ (hi:Int) := by omega
  have t2 : ((y:Int) != 0) = true := by rw [bne_iff_ne]; omega
  have t3 : ((y:Int) == 0) = false := by simp; omega
  have t4 : ¬ (y:Int) = 0 := by omega
  have e0 := dv_int h1 (show hi < 4294967296 by omega)
  have hd := dv_lt h1 (show hi < 4294967296 by omega)
  have hq := dv_div_lt h1 h2
  have hr : dv lo hi % y < 4294967296 := Nat.lt_trans (Nat.mod_lt _ (by omega)) h3
  generalize dv lo hi = z at *
  have e1 : ((z : Nat) : Int).tdiv (y : Int) = ((z / y : Nat) : Int) := by rw [Int.tdiv_eq_ediv_of_nonneg (by omega)]; exact (Int.natCast_ediv _ _).symm
  have e2 : ((z : Nat) : Int).tmod (y : Int) = ((z % y : Nat) : Int) := by rw [Int.tmod_eq_emod_of_nonneg (by omega)]; exact (Int.natCast_emod _ _).symm
  have e3 : ((z : Nat) : Int) / (y : Int) = ((z / y : Nat) : Int) := (Int.natCast_ediv _ _).symm
  have e4 : ((z : Nat) : Int) % (y : Int) = ((z % y : Nat) : Int) := (Int.natCast_emod _ _).symm
  generalize z / y = q at *
  generalize z % y = r at *
  go_enter Tryd.func88, Tryd.ntmps88
  go_wp2_with fail
  go_quiet (fail)
  go_wp2
  go_ret2
  exact ⟨rfl, _, rfl⟩

set_option maxHeartbeats 1000000 in
/-- math/bits.LeadingZeros32. -/
theorem lz32_any (x : Nat) (w : World) (hx : x < 4294967296) :
    Calls Tryd.prog 83 #[.int .u32 (x : Nat)] w fun e w' => e = .returned (.int .i64 (32 - (Lib.bitLen x : Int))) ∧ w' = w := by
  have K := hide (len32_any x w hx)
  have hl : Lib.bitLen x ≤ 64 := Lib.bitLen_le x 64 (by omega) (by omega)
  generalize Lib.bitLen x = u at *
  go_enter Tryd.func83, Tryd.ntmps83
  go_wp2_with fail
  refine (unhide K).mono ?_
  rintro e w' ⟨rfl, hw⟩
  obtain rfl := hw.symm
  go_wp2
  go_ret
  exact ⟨rfl, rfl⟩

/-- What a round of divideLimb leaves. -/
structure DlR (wr w : World) (b off n : Nat) (f : Nat → Nat) (d k r : Nat) (g : Nat → Nat) : Prop where
  fn : Fn wr b off n g
  ok : ∀ i, i < n → g i < 4294967296
  eq : ∀ i, i < k → g i = f i
  rlt : r < d
  val : valF (fun i => f (k + i)) (n - k) = valF (fun i => g (k + i)) (n - k) * d + r
  upd : Upd b off (off + n) w wr

theorem valF_head (f : Nat → Nat) (k n : Nat) (h : k < n) : valF (fun i => f (k + i)) (n - k) = f k + 4294967296 * valF (fun i => f (k + 1 + i)) (n - (k + 1)) := by
  have e : n - k = 1 + (n - (k + 1)) := by omega
  rw [e, valF_add]
  simp only [valF, Nat.add_zero, Nat.pow_zero, Nat.pow_one, Nat.one_mul, Nat.zero_add]
  congr 2
  exact valF_congr (fun i _ => by rw [Nat.add_assoc])

theorem dl_arith {F S Q r d q r' : Nat} (h : S = Q * d + r) (e : F + 4294967296 * r = d * q + r') : F + 4294967296 * S = (q + 4294967296 * Q) * d + r' := by
  subst h
  rw [Nat.add_mul, Nat.mul_add, Nat.mul_comm q d, Nat.mul_assoc]
  omega

theorem DlR.step {wr w : World} {b off n : Nat} {f : Nat → Nat} {d k r : Nat} {g : Nat → Nat} (h : DlR wr w b off n f d (k + 1) r g) (hk : k < n) (hd : d < 4294967296) :
    DlR (wr.setCell ⟨b, off + k, none⟩ (.int .u32 (dv (g k) r / d : Nat))) w b off n f d k (dv (g k) r % d) (fun i => if i = k then dv (g k) r / d else g i) := by
  have hq := dv_div_lt (h.ok k hk) h.rlt
  refine ⟨h.fn.set k _ hk, ?_, ?_, Nat.mod_lt _ (by have := h.rlt; omega), ?_, h.upd.set _ _ (by omega) (by omega)⟩
  · intro i hi
    by_cases e : i = k
    · simp only [e, if_true]; exact hq
    · simp only [e, if_false]; exact h.ok i hi
  · intro i hi
    rw [if_neg (by omega)]
    exact h.eq i (by omega)
  · rw [valF_head f k n hk, valF_head (fun i => if i = k then dv (g k) r / d else g i) k n hk]
    simp only [if_true]
    have e0 : valF (fun i => if k + 1 + i = k then dv (g k) r / d else g (k + 1 + i)) (n - (k + 1)) = valF (fun i => g (k + 1 + i)) (n - (k + 1)) := valF_congr (fun i _ => by rw [if_neg (by omega)])
    rw [e0, ← h.eq k (by omega)]
    refine dl_arith h.val ?_
    have := Nat.div_add_mod (dv (g k) r) d
    unfold dv at *
    omega

theorem DlR.drew {wr w : World} {b off n : Nat} {f : Nat → Nat} {d k r : Nat} {g : Nat → Nat} (h : DlR wr w b off n f d k r g) : DlR wr.drew w b off n f d k r g := ⟨h.fn, h.ok, h.eq, h.rlt, h.val, h.upd.drew⟩

theorem DlR.drewN {wr w : World} {b off n : Nat} {f : Nat → Nat} {d k r : Nat} {g : Nat → Nat} (h : DlR wr w b off n f d k r g) (j : Nat) : DlR (wr.drewN j) w b off n f d k r g := ⟨h.fn, h.ok, h.eq, h.rlt, h.val, h.upd.drewN j⟩

def DlPost (w : World) (b off n : Nat) (f : Nat → Nat) (d : Nat) (e : Ending) (w' : World) : Prop :=
  ∃ (r : Nat) (g : Nat → Nat), e = .returned (.int .u32 (r : Nat)) ∧ r < d ∧ Fn w' b off n g ∧ (∀ i, i < n → g i < 4294967296) ∧ valF f n = valF g n * d + r ∧ Upd b off (off + n) w w'

set_option maxHeartbeats 2000000 in
/-- natural.divideLimb. -/
theorem divideLimb_any (b off n c d : Nat) (f : Nat → Nat) (w : World) (h : Fn w b off n f) (ok : ∀ i, i < n → f i < 4294967296) (hn : n ≤ 1000000000) (hd0 : 0 < d) (hd : d < 4294967296) :
    Calls Tryd.prog 66 #[.slice (some ⟨b, off, none⟩) n c, .int .u32 (d : Nat)] w fun e w' => DlPost w b off n f d e w' := by
  have hR0 : DlR w w b off n f d n 0 f := ⟨h, ok, fun _ _ => rfl, hd0, by simp [valF], Upd.refl _ _ _ _⟩
  have HR0 := hide hR0
  clear hR0 h ok
  go_enter Tryd.func66, Tryd.ntmps66
  go_wp2
  go_loopw [5, 6] (fun rv i wr => ∃ k r : Nat, ∃ g : Nat → Nat, k ≤ n ∧ i = .int .i64 ((k : Int) - 1) ∧ rv = .int .u32 (r : Nat) ∧ DlR wr w b off n f d k r g) (fun _ i _ => (intOf i + 1).toNat)
  case atStart => exact ⟨n, 0, _, Nat.le_refl _, rfl, rfl, unhide HR0⟩
  case round =>
    clear HR0
    obtain ⟨k, r, g, hk, rfl, rfl, hR⟩ := hrel
    rcases k with _ | k
    · have t1 : ¬ (0:Int) ≤ ((0:Nat):Int) - 1 := by omega
      have HR := hide hR
      clear hR
      go_wp2
      go_ret
      have hv := (unhide HR).val
      simp only [Nat.zero_add, Nat.sub_zero] at hv
      exact ⟨r, g, rfl, (unhide HR).rlt, (unhide HR).fn, (unhide HR).ok, hv, (unhide HR).upd⟩
    · have t0 : ((k + 1 : Nat) : Int) - 1 = (k : Int) := by omega
      rw [t0]
      have t1 : (k:Int) < (n:Int) := by omega
      have g1 := (hR.fn k (by omega)).1
      have g2 := (hR.fn k (by omega)).2
      have hkn : k < n := by omega
      have KD := hide (fun w => div32_any r (g k) d w (hR.ok k (by omega)) hR.rlt hd)
      have HR0 := hide hR
      clear hR
      go_wp2_with fail
      refine (unhide KD _).mono ?_
      rintro e w' ⟨rfl, kk, hw⟩
      have hR2 : DlR w' w b off n f d (k + 1) r g := by rw [hw]; exact (unhide HR0).drewN kk
      have g3 := (hR2.fn k hkn).1
      have g4 := (hR2.fn k hkn).2
      have HR := hide (hR2.step hkn hd)
      clear hw hR2 KD HR0
      go_wp2
      exact ⟨⟨k, _, _, by omega, by go_num, rfl, unhide HR⟩, by simp [intOf]⟩
end Go.Proofs.YtpnhmaenmmelnaaDoor
