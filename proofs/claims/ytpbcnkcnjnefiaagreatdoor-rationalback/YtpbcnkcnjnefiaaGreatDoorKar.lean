/- Dv2 -/
import Derived.Test.YtpbcnkcnjnefiaaGreatDoorShN
import Derived.Test.YtpbcnkcnjnefiaaGreatDoorShr
import Derived.Test.YtpbcnkcnjnefiaaGreatDoorMul
namespace Go.Proofs.YtpbcnkcnjnefiaaGreatDoor
open Go.RowKit Go.Deep
set_option linter.unusedVariables false
theorem dv_div_lt {lo hi y:Nat} (h1:lo < 4294967296) (h2:hi < y):dv lo hi / y < 4294967296:=by
 unfold dv
 rw [Nat.div_lt_iff_lt_mul (by omega)]
 have:4294967296 * (hi + 1) ≤ 4294967296 * y:=Nat.mul_le_mul_left _ h2
 omega

set_option maxHeartbeats 1000000 in
theorem div32_any (hi lo y:Nat) (w:World) (h1:lo < 4294967296) (h2:hi < y) (h3:y < 4294967296) :
  Calls Tryz.prog 175 #[.int .u32 (hi:Nat),.int .u32 (lo:Nat),.int .u32 (y:Nat)] w fun e w' => e = .returned (.tuple #[.int .u32 (dv lo hi / y:Nat),.int .u32 (dv lo hi % y:Nat)]) ∧ ∃ k,w' = w.drewN k:=by
 have t1:¬ (y:Int) ≤ (hi:Int):=by omega
 have t2:((y:Int) != 0) = true:=by rw [bne_iff_ne]; omega
 have t3:((y:Int) == 0) = false:=by simp; omega
 have t4:¬ (y:Int) = 0:=by omega
 have e0:=dv_int h1 (show hi < 4294967296 by omega)
 have hd:=dv_lt h1 (show hi < 4294967296 by omega)
 have hq:=dv_div_lt h1 h2
 have hr:dv lo hi % y < 4294967296:=Nat.lt_trans (Nat.mod_lt _ (by omega)) h3
 generalize dv lo hi = z at *
 have e1:((z:Nat):Int).tdiv (y:Int) = ((z / y:Nat):Int):=by rw [Int.tdiv_eq_ediv_of_nonneg (by omega)]; exact (Int.natCast_ediv _ _).symm
 have e2:((z:Nat):Int).tmod (y:Int) = ((z % y:Nat):Int):=by rw [Int.tmod_eq_emod_of_nonneg (by omega)]; exact (Int.natCast_emod _ _).symm
 have e3:((z:Nat):Int) / (y:Int) = ((z / y:Nat):Int):=(Int.natCast_ediv _ _).symm
 have e4:((z:Nat):Int) % (y:Int) = ((z % y:Nat):Int):=(Int.natCast_emod _ _).symm
 generalize z / y = q at *
 generalize z % y = r at *
 go_enter Tryz.func175,Tryz.ntmps175
 go_wp2_with fail
 go_quiet (fail)
 go_wp2
 go_ret2
 exact ⟨rfl,_,rfl⟩

set_option maxHeartbeats 1000000 in
theorem lz32_any (x:Nat) (w:World) (hx:x < 4294967296) :
  Calls Tryz.prog 176 #[.int .u32 (x:Nat)] w fun e w' => e = .returned (.int .i64 (32 - (Lib.bitLen x:Int))) ∧ w' = w:=by
 have K:=Hd (len32_any x w hx)
 have hl:Lib.bitLen x ≤ 64:=Lib.bitLen_le x 64 (by omega) (by omega)
 generalize Lib.bitLen x = u at *
 go_enter Tryz.func176,Tryz.ntmps176
 go_wp2_with fail
 refine (Uh K).mono ?_
 rintro e w' ⟨rfl,hw⟩
 obtain rfl:=hw.symm
 go_wp2
 go_ret
 exact ⟨rfl,rfl⟩

structure DlR (wr w:World) (b off n:Nat) (f:Nat → Nat) (d k r:Nat) (g:Nat → Nat):Prop where
 fn:Fn wr b off n g
 ok:∀ i,i < n → g i < 4294967296
 eq:∀ i,i < k → g i = f i
 rlt:r < d
 val:valF (fun i => f (k + i)) (n - k) = valF (fun i => g (k + i)) (n - k) * d + r
 upd:Upd b off (off + n) w wr

theorem valF_head (f:Nat → Nat) (k n:Nat) (h:k < n):valF (fun i => f (k + i)) (n - k) = f k + 4294967296 * valF (fun i => f (k + 1 + i)) (n - (k + 1)):=by
 have e:n - k = 1 + (n - (k + 1)):=by omega
 rw [e,valF_add]
 simp only [valF,Nat.add_zero,Nat.pow_zero,Nat.pow_one,Nat.one_mul,Nat.zero_add]
 congr 2
 exact valF_congr (fun i _ => by rw [Nat.add_assoc])

theorem dl_arith {F S Q r d q r':Nat} (h:S = Q * d + r) (e:F + 4294967296 * r = d * q + r'):F + 4294967296 * S = (q + 4294967296 * Q) * d + r':=by
 subst h
 rw [Nat.add_mul,Nat.mul_add,Nat.mul_comm q d,Nat.mul_assoc]
 omega

theorem DlR.step {wr w:World} {b off n:Nat} {f:Nat → Nat} {d k r:Nat} {g:Nat → Nat} (h:DlR wr w b off n f d (k + 1) r g) (hk:k < n) (hd:d < 4294967296) :
  DlR (wr.setCell ⟨b,off + k,none⟩ (.int .u32 (dv (g k) r / d:Nat))) w b off n f d k (dv (g k) r % d) (fun i => if i = k then dv (g k) r / d else g i):=by
 have hq:=dv_div_lt (h.ok k hk) h.rlt
 refine ⟨h.fn.set k _ hk,?_,?_,Nat.mod_lt _ (by have:=h.rlt; omega),?_,h.upd.set _ _ (by omega) (by omega)⟩
 ·intro i hi
  by_cases e:i = k
  ·simp only [e,if_true]; exact hq
  ·simp only [e,if_false]; exact h.ok i hi
 ·intro i hi
  rw [if_neg (by omega)]
  exact h.eq i (by omega)
 ·rw [valF_head f k n hk,valF_head (fun i => if i = k then dv (g k) r / d else g i) k n hk]
  simp only [if_true]
  have e0:valF (fun i => if k + 1 + i = k then dv (g k) r / d else g (k + 1 + i)) (n - (k + 1)) = valF (fun i => g (k + 1 + i)) (n - (k + 1)):=valF_congr (fun i _ => by rw [if_neg (by omega)])
  rw [e0,← h.eq k (by omega)]
  refine dl_arith h.val ?_
  have:=Nat.div_add_mod (dv (g k) r) d
  unfold dv at *
  omega

theorem DlR.drew {wr w:World} {b off n:Nat} {f:Nat → Nat} {d k r:Nat} {g:Nat → Nat} (h:DlR wr w b off n f d k r g):DlR wr.drew w b off n f d k r g:=⟨h.fn,h.ok,h.eq,h.rlt,h.val,h.upd.drew⟩

theorem DlR.drewN {wr w:World} {b off n:Nat} {f:Nat → Nat} {d k r:Nat} {g:Nat → Nat} (h:DlR wr w b off n f d k r g) (j:Nat):DlR (wr.drewN j) w b off n f d k r g:=⟨h.fn,h.ok,h.eq,h.rlt,h.val,h.upd.drewN j⟩

def DlPost (w:World) (b off n:Nat) (f:Nat → Nat) (d:Nat) (e:Ending) (w':World):Prop :=
 ∃ (r:Nat) (g:Nat → Nat),e = .returned (.int .u32 (r:Nat)) ∧ r < d ∧ Fn w' b off n g ∧ (∀ i,i < n → g i < 4294967296) ∧ valF f n = valF g n * d + r ∧ Upd b off (off + n) w w'

set_option maxHeartbeats 2000000 in
theorem divideLimb_any (b off n c d:Nat) (f:Nat → Nat) (w:World) (h:Fn w b off n f) (ok:∀ i,i < n → f i < 4294967296) (hn:n ≤ 1000000000) (hd0:0 < d) (hd:d < 4294967296) :
  Calls Tryz.prog 133 #[.slice (some ⟨b,off,none⟩) n c,.int .u32 (d:Nat)] w fun e w' => DlPost w b off n f d e w':=by
 have hR0:DlR w w b off n f d n 0 f:=⟨h,ok,fun _ _ => rfl,hd0,by simp [valF],Upd.refl _ _ _ _⟩
 have HR0:=Hd hR0
 clear hR0 h ok
 go_enter Tryz.func133,Tryz.ntmps133
 go_wp2
 go_loopw [5,6] (fun rv i wr => ∃ k r:Nat,∃ g:Nat → Nat,k ≤ n ∧ i = .int .i64 ((k:Int) - 1) ∧ rv = .int .u32 (r:Nat) ∧ DlR wr w b off n f d k r g) (fun _ i _ => (intOf i + 1).toNat)
 case atStart => exact ⟨n,0,_,Nat.le_refl _,rfl,rfl,Uh HR0⟩
 case round =>
  clear HR0
  obtain ⟨k,r,g,hk,rfl,rfl,hR⟩:=hrel
  rcases k with _ | k
  ·have t1:¬ (0:Int) ≤ ((0:Nat):Int) - 1:=by omega
   have HR:=Hd hR
   clear hR
   go_wp2
   go_ret
   have hv:=(Uh HR).val
   simp only [Nat.zero_add,Nat.sub_zero] at hv
   exact ⟨r,g,rfl,(Uh HR).rlt,(Uh HR).fn,(Uh HR).ok,hv,(Uh HR).upd⟩
  ·have t0:((k + 1:Nat):Int) - 1 = (k:Int):=by omega
   rw [t0]
   have t1:(k:Int) < (n:Int):=by omega
   have g1:=(hR.fn k (by omega)).1
   have g2:=(hR.fn k (by omega)).2
   have hkn:k < n:=by omega
   have KD:=Hd (fun w => div32_any r (g k) d w (hR.ok k (by omega)) hR.rlt hd)
   have HR0:=Hd hR
   clear hR
   go_wp2_with fail
   refine (Uh KD _).mono ?_
   rintro e w' ⟨rfl,kk,hw⟩
   have hR2:DlR w' w b off n f d (k + 1) r g:=by rw [hw]; exact (Uh HR0).drewN kk
   have g3:=(hR2.fn k hkn).1
   have g4:=(hR2.fn k hkn).2
   have HR:=Hd (hR2.step hkn hd)
   clear hw hR2 KD HR0
   go_wp2
   exact ⟨⟨k,_,_,by omega,by go_num,rfl,Uh HR⟩,by simp [intOf]⟩
open Go.RowKit Go.Deep
set_option linter.unusedVariables false

structure Gs (P u2 u1 u0 ul top next vl:Nat):Prop where
 hP:0 < P
 h2:u2 < 4294967296
 h1:u1 < 4294967296
 h0:u0 < 4294967296
 hl:ul < P
 ht:top < 4294967296
 hb:2147483648 ≤ top
 hn:next < 4294967296
 hv:vl < P
 lt:ul + P * (u0 + 4294967296 * (u1 + 4294967296 * u2)) < (vl + P * (next + 4294967296 * top)) * 4294967296

theorem low_lt {P ul S X:Nat} (h:ul < P) (k:S < X):ul + P * S < P * X:=by
 have:P * (S + 1) ≤ P * X:=Nat.mul_le_mul_left _ k
 rw [Nat.mul_add,Nat.mul_one] at this
 omega

theorem mul_high {g P vl T:Nat}:P * (g * T) ≤ g * (vl + P * T):=by
 rw [Nat.mul_add,Nat.mul_left_comm g P T]
 exact Nat.le_add_left _ _

theorem Gs.top_le {P u2 u1 u0 ul top next vl:Nat} (s:Gs P u2 u1 u0 ul top next vl):u2 ≤ top:=by
 have h:=s.lt
 rcases Nat.lt_or_ge top u2 with k | k
 ·exfalso
  have h3:vl + P * (next + 4294967296 * top) < P * (4294967296 * u2):=low_lt s.hv (by have:=s.hn; omega)
  have h4:P * (4294967296 * u2) * 4294967296 ≤ P * (u0 + 4294967296 * (u1 + 4294967296 * u2)):=by
   rw [Nat.mul_assoc]
   exact Nat.mul_le_mul_left _ (by omega)
  have h5:=Nat.mul_lt_mul_of_pos_right h3 (show 0 < 4294967296 by decide)
  omega
 ·exact k

theorem Gs.start {P u2 u1 u0 ul top next vl:Nat} (s:Gs P u2 u1 u0 ul top next vl):ul + P * (u0 + 4294967296 * (u1 + 4294967296 * u2)) < ((u1 + 4294967296 * u2) / top + 1) * (vl + P * (next + 4294967296 * top)):=by
 have ht:=s.hb
 generalize u1 + 4294967296 * u2 = hd
 have h1:hd < (hd / top + 1) * top:=by
  have e1:=Nat.div_add_mod hd top
  have e2:=Nat.mod_lt hd (show top > 0 by omega)
  rw [Nat.add_mul,Nat.one_mul,Nat.mul_comm (hd / top)]
  omega
 generalize hd / top + 1 = g at *
 have h2:u0 + 4294967296 * hd < g * (next + 4294967296 * top):=by
  rw [Nat.mul_add,Nat.mul_left_comm]
  have:=s.h0
  omega
 exact Nat.lt_of_lt_of_le (low_lt s.hl h2) mul_high

theorem Gs.big {P u2 u1 u0 ul top next vl g:Nat} (s:Gs P u2 u1 u0 ul top next vl) (hg:4294967296 ≤ g):ul + P * (u0 + 4294967296 * (u1 + 4294967296 * u2)) < g * (vl + P * (next + 4294967296 * top)):=by
 refine Nat.lt_of_lt_of_le s.lt ?_
 rw [Nat.mul_comm]
 exact Nat.mul_le_mul_right _ hg

theorem Gs.more {P u2 u1 u0 ul top next vl g r:Nat} (s:Gs P u2 u1 u0 ul top next vl) (he:g * top + r = u1 + 4294967296 * u2) (hc:r * 4294967296 + u0 < g * next):ul + P * (u0 + 4294967296 * (u1 + 4294967296 * u2)) < g * (vl + P * (next + 4294967296 * top)):=by
 refine Nat.lt_of_lt_of_le (low_lt s.hl ?_) (mul_high (vl:=vl))
 rw [Nat.mul_add g,Nat.mul_left_comm g]
 omega

theorem Gs.less {P u2 u1 u0 ul top next vl g r:Nat} (s:Gs P u2 u1 u0 ul top next vl) (he:g * top + r = u1 + 4294967296 * u2) (hg:g < 4294967296) (hc:g * next ≤ r * 4294967296 + u0):g * (vl + P * (next + 4294967296 * top)) < ul + P * (u0 + 4294967296 * (u1 + 4294967296 * u2)) + (vl + P * (next + 4294967296 * top)):=by
 have h1:g * (next + 4294967296 * top) ≤ u0 + 4294967296 * (u1 + 4294967296 * u2):=by
  rw [Nat.mul_add,Nat.mul_left_comm]
  omega
 have h2:P * (g * (next + 4294967296 * top)) ≤ P * (u0 + 4294967296 * (u1 + 4294967296 * u2)):=Nat.mul_le_mul_left _ h1
 have h3:g * vl < 4294967296 * P:=Nat.mul_lt_mul'' hg s.hv
 have h4:P * 4294967296 ≤ P * (next + 4294967296 * top):=Nat.mul_le_mul_left _ (by have:=s.hb; omega)
 rw [Nat.mul_add g,Nat.mul_left_comm g P]
 omega

theorem Gs.off {P u2 u1 u0 ul top next vl g r:Nat} (s:Gs P u2 u1 u0 ul top next vl) (he:g * top + r = u1 + 4294967296 * u2) (hr:4294967296 ≤ r):g < 4294967296:=by
 rcases Nat.lt_or_ge g 4294967296 with k | k
 ·exact k
 ·exfalso
  have h1:=s.top_le
  have h2:4294967296 * top ≤ g * top:=Nat.mul_le_mul_right _ k
  have:=s.h1
  omega

theorem Gs.less2 {P u2 u1 u0 ul top next vl g r:Nat} (s:Gs P u2 u1 u0 ul top next vl) (he:g * top + r = u1 + 4294967296 * u2) (hr:4294967296 ≤ r):g * (vl + P * (next + 4294967296 * top)) < ul + P * (u0 + 4294967296 * (u1 + 4294967296 * u2)) + (vl + P * (next + 4294967296 * top)):=by
 have hg:=s.off he hr
 refine s.less he hg ?_
 have h1:g * next ≤ 4294967296 * 4294967296:=Nat.mul_le_mul (by omega) (by have:=s.hn; omega)
 have h2:4294967296 * 4294967296 ≤ r * 4294967296:=Nat.mul_le_mul_right _ hr
 omega

structure GR (P u2 u1 u0 ul top next vl g r:Nat):Prop where
 rlt:r < 4294967296
 eq:g * top + r = u1 + 4294967296 * u2
 gle:g < 18446744073709551616
 lt:ul + P * (u0 + 4294967296 * (u1 + 4294967296 * u2)) < (g + 1) * (vl + P * (next + 4294967296 * top))

theorem GR.down {P u2 u1 u0 ul top next vl g r:Nat} (h:GR P u2 u1 u0 ul top next vl g r) (hg:1 ≤ g):(g - 1) * top + (r + top) = u1 + 4294967296 * u2:=by
 have e:=h.eq
 obtain ⟨k,rfl⟩:∃ k,g = k + 1:=⟨g - 1,by omega⟩
 rw [Nat.add_mul,Nat.one_mul] at e
 simp only [Nat.add_sub_cancel]
 omega

def GuessPost (U V:Nat) (e:Ending):Prop:=∃ g:Nat,e = .returned (.int .u32 (g:Nat)) ∧ g < 4294967296 ∧ U < (g + 1) * V ∧ g * V < U + V

set_option maxHeartbeats 4000000 in
theorem guess_any (bu ou n cu bv ov cv:Nat) (P u2 u1 u0 ul top next vl:Nat) (w:World) (s:Gs P u2 u1 u0 ul top next vl) (hn:2 ≤ n) (hm:n ≤ 1000000000)
  (k2:w.cell? ⟨bu,ou + n,none⟩ = some (.int .u32 (u2:Nat))) (k1:w.cell? ⟨bu,ou + (n - 1),none⟩ = some (.int .u32 (u1:Nat))) (k0:w.cell? ⟨bu,ou + (n - 2),none⟩ = some (.int .u32 (u0:Nat)))
  (l1:w.cell? ⟨bv,ov + (n - 1),none⟩ = some (.int .u32 (top:Nat))) (l0:w.cell? ⟨bv,ov + (n - 2),none⟩ = some (.int .u32 (next:Nat))) :
  Calls Tryz.prog 209 #[.slice (some ⟨bu,ou,none⟩) (n + 1) cu,.slice (some ⟨bv,ov,none⟩) n cv] w fun e w' => GuessPost (ul + P * (u0 + 4294967296 * (u1 + 4294967296 * u2))) (vl + P * (next + 4294967296 * top)) e ∧ ∃ k,w' = w.drewN k:=by
 have S:=Hd s
 have b2:=s.h2
 have b1:=s.h1
 have b0:=s.h0
 have bt:=s.ht
 have bb:=s.hb
 have bn:=s.hn
 have ht:=s.top_le
 have i1:((n:Int) - 1).toNat = n - 1:=by omega
 have i2:((n:Int) - 2).toNat = n - 2:=by omega
 have j1:(n:Int) - 1 < (n:Int):=by omega
 have e0:=dv_int b1 b2
 have hd:=dv_lt b1 b2
 have ed:dv u1 u2 = u1 + 4294967296 * u2:=rfl
 have HE:=Hd ed
 have t3:((top:Int) == 0) = false:=by simp; omega
 have t4:¬ (top:Int) = 0:=by omega
 clear ed s
 generalize dv u1 u2 = z at *
 have e1:((z:Nat):Int).tdiv (top:Int) = ((z / top:Nat):Int):=by rw [Int.tdiv_eq_ediv_of_nonneg (by omega)]; exact (Int.natCast_ediv _ _).symm
 have e2:((z:Nat):Int).tmod (top:Int) = ((z % top:Nat):Int):=by rw [Int.tmod_eq_emod_of_nonneg (by omega)]; exact (Int.natCast_emod _ _).symm
 have e3:((z:Nat):Int) / (top:Int) = ((z / top:Nat):Int):=(Int.natCast_ediv _ _).symm
 have e4:((z:Nat):Int) % (top:Int) = ((z % top:Nat):Int):=(Int.natCast_emod _ _).symm
 have HZ:=Hd (Nat.div_add_mod z top)
 have hz1:z % top < 4294967296:=Nat.lt_trans (Nat.mod_lt _ (by omega)) bt
 have hz2:z / top ≤ z:=Nat.div_le_self _ _
 have HS:=Hd ((Uh S).start)
 rw [← Uh HE] at HS
 generalize z / top = g0 at *
 generalize z % top = r0 at *
 go_enter Tryz.func209,Tryz.ntmps209
 go_wp2_with fail
 go_quiet (fail)
 go_wp2_with fail
 go_quiet (fail)
 go_wp2_with fail
 go_quiet (fail)
 go_wp2_with fail
 go_loopw [9,10] (fun gv rv wr => ∃ g r k:Nat,gv = .int .u64 (g:Nat) ∧ rv = .int .u64 (r:Nat) ∧ wr = w.drewN k ∧ GR P u2 u1 u0 ul top next vl g r) (fun gv _ _ => (intOf gv).toNat)
 case atStart =>
  have h1:=Uh HZ
  have h2:=Uh HS
  rw [Uh HE] at h1 h2
  rw [Nat.mul_comm] at h1
  exact ⟨g0,r0,_,rfl,rfl,drewN_add3 _ _ _ _,⟨hz1,h1,by omega,h2⟩⟩
 case round =>
  obtain ⟨g,r,k,rfl,rfl,rfl,hG⟩:=hrel
  have hr:=hG.rlt
  have hg:=hG.gle
  have HG:=Hd hG
  clear hG HS HZ hz1 hz2 hd e0 e1 e2 e3 e4 t3 t4
  have E1:((g:Int) / 4294967296 != 0) = decide (4294967296 ≤ g):=by
   by_cases h:4294967296 ≤ g
   ·rw [decide_eq_true h,bne_iff_ne]; omega
   ·rw [decide_eq_false h]; have:(g:Int) / 4294967296 = 0:=by omega
    rw [this]; rfl
  have E2:(((r:Int) + (top:Int)) / 4294967296 != 0) = decide (4294967296 ≤ r + top):=by
   by_cases h:4294967296 ≤ r + top
   ·rw [decide_eq_true h,bne_iff_ne]; omega
   ·rw [decide_eq_false h]; have:((r:Int) + (top:Int)) / 4294967296 = 0:=by omega
    rw [this]; rfl
  by_cases hbig:4294967296 ≤ g
  ·rw [decide_eq_true hbig] at E1
   have HN:=Hd ((Uh S).big hbig)
   have g1:1 ≤ g:=by omega
   by_cases hr2:4294967296 ≤ r + top
   ·rw [decide_eq_true hr2] at E2
    go_wp2
    go_ret
    have hd:=(Uh HG).down g1
    refine ⟨⟨g - 1,?_,(Uh S).off hd hr2,?_,(Uh S).less2 hd hr2⟩,_,rfl⟩
    ·have:=(Uh S).off hd hr2
     show Ending.returned (Value.int IntKind.u32 (((g:Int) - 1) % 4294967296)) = _
     rw [show ((g:Int) - 1) % 4294967296 = ((g - 1:Nat):Int) from by omega]
    ·rw [Nat.sub_add_cancel g1]; exact Uh HN
   ·rw [decide_eq_false hr2] at E2
    go_wp2
    have hd:=(Uh HG).down g1
    refine ⟨⟨g - 1,r + top,k,?_,by go_num,rfl,⟨by omega,hd,by omega,?_⟩⟩,?_⟩
    ·rw [show (g:Int) - 1 = ((g - 1:Nat):Int) from by omega]
    ·rw [Nat.sub_add_cancel g1]; exact Uh HN
    ·simp [intOf]; omega
  ·rw [decide_eq_false hbig] at E1
   have mb:((g:Nat):Int) * ((next:Nat):Int) ≤ 18446744065119617025:=by
    have:=mul_bound (show g < 4294967296 by omega) bn
    rw [← Int.natCast_mul]; omega
   have mb0:0 ≤ ((g:Nat):Int) * ((next:Nat):Int):=Int.mul_nonneg (by omega) (by omega)
   have eo:=dv_int b0 hr
   have eo2:=dv_lt b0 hr
   have HD:=Hd (show dv u0 r = u0 + 4294967296 * r from rfl)
   generalize dv u0 r = y at *
   have em:((g:Nat):Int) * ((next:Nat):Int) = ((g * next:Nat):Int):=(Int.natCast_mul _ _).symm
   generalize hx:g * next = x at em
   have HX:=Hd hx
   rw [em] at mb mb0
   clear hx
   by_cases hmore:y < x
   ·have hm':(y:Int) < (x:Int):=by omega
    have HN:=Hd ((Uh S).more (Uh HG).eq (by rw [Uh HX]; have:=Uh HD; omega))
    have g1:1 ≤ g:=by
     rcases Nat.eq_zero_or_pos g with e | e
     ·exfalso; have:=Uh HX; rw [e,Nat.zero_mul] at this; omega
     ·exact e
    by_cases hr2:4294967296 ≤ r + top
    ·rw [decide_eq_true hr2] at E2
     go_wp2
     go_ret
     have hd:=(Uh HG).down g1
     refine ⟨⟨g - 1,?_,(Uh S).off hd hr2,?_,(Uh S).less2 hd hr2⟩,_,rfl⟩
     ·have:=(Uh S).off hd hr2
      show Ending.returned (Value.int IntKind.u32 ((g:Int) - 1)) = _
      rw [show (g:Int) - 1 = ((g - 1:Nat):Int) from by omega]
     ·rw [Nat.sub_add_cancel g1]; exact Uh HN
    ·rw [decide_eq_false hr2] at E2
     go_wp2
     have hd:=(Uh HG).down g1
     refine ⟨⟨g - 1,r + top,k,?_,by go_num,rfl,⟨by omega,hd,by omega,?_⟩⟩,?_⟩
     ·rw [show (g:Int) - 1 = ((g - 1:Nat):Int) from by omega]
     ·rw [Nat.sub_add_cancel g1]; exact Uh HN
     ·simp [intOf]; omega
   ·have hm':¬ (y:Int) < (x:Int):=by omega
    have HL:=Hd ((Uh S).less (Uh HG).eq (by omega) (by rw [Uh HX]; have:=Uh HD; omega))
    go_wp2
    go_ret
    exact ⟨⟨g,rfl,by omega,(Uh HG).lt,Uh HL⟩,_,rfl⟩
def FnB (w:World) (b off n:Nat) (f:Nat → Nat):Prop :=
 ∀ i,i < n → w.cell? ⟨b,off + i,none⟩ = some (.int .u8 (f i:Nat)) ∧ w.frozen? ⟨b,off + i,none⟩ = false
theorem FnB.set {w:World} {b off n:Nat} {f:Nat → Nat} (h:FnB w b off n f) (k v:Nat) (hk:k < n) :
  FnB (w.setCell ⟨b,off + k,none⟩ (.int .u8 (v:Nat))) b off n (fun i => if i = k then v else f i):=by
 intro i hi
 refine ⟨?_,by rw [World.frozen?_setCell]; exact (h i hi).2⟩
 by_cases e:i = k
 ·subst e
  rw [World.cell?_setCell_same _ _ _ (h i hi).1]
  simp
 ·rw [World.cell?_setCell_other _ _ _ _ (by intro h; injection h with h1 h2; omega)]
  simp [e,(h i hi).1]
theorem FnB.congr {w:World} {b off n:Nat} {f g:Nat → Nat} (h:FnB w b off n f) (he:∀ i,i < n → f i = g i):FnB w b off n g:=fun i hi => by
 have:=h i hi
 rwa [he i hi] at this
theorem FnB.made (w:World) (n:Nat) (e:TypeId):FnB (w.alloc (.cells (madeCells #[.int .u8 0] n) e)) w.heap.size 0 n (fun _ => 0):=by
 intro i hi
 refine ⟨?_,by simp⟩
 simp [madeCells,hi,Nat.mod_one]

def byteN (v i:Nat):Nat:=v / 256 ^ i % 256
def bytesN (xs:List Nat):Nat:=(bitsN xs + 7) / 8

theorem Tryz.info_u8:(Tryz.prog.info? 5).map (fun i => (i.zero,i.size,i.bytes)) = some (some (.int .u8 0),1,1):=by kernel_rfl
def valsB (xs:List Nat):List Value:=xs.map (fun x => .int .u8 (x:Nat))
def outB (xs:List Nat) (k:Nat):List Nat:=lst (fun p => byteN (val xs) (bytesN xs - 1 - p)) (bytesN xs - k)

structure ByR (wr w:World) (xs:List Nat) (v:Value) (k:Nat):Prop where
 own:wr.ownsRow w.heap.size 5 1 v (bytesN xs - k) (valsB (outB xs k))
 bel:Below w.heap.size w wr

theorem ByR.step {wr w w1:World} {xs:List Nat} {v v':Value} {k:Nat} {o:Obj} (h:ByR wr w xs v (k + 1)) (hk:k < bytesN xs)
  (hown:w1.ownsRow w.heap.size 5 1 v' (bytesN xs - (k + 1) + 1) (valsB (outB xs (k + 1)) ++ [.int .u8 (byteN (val xs) k:Nat)])) (hg:(wr.alloc o).grownBy w1 v.ownBlock):ByR w1 w xs v' k:=by
 have hs:=h.bel.size
 refine ⟨?_,Below.grown (h.bel.alloc (by omega) o) hg (by simp; omega) (fun k hk => (own_ge h.own k hk).1)⟩
 have e1:bytesN xs - (k + 1) + 1 = bytesN xs - k:=by omega
 have e:valsB (outB xs (k + 1)) ++ [.int .u8 (byteN (val xs) k:Nat)] = valsB (outB xs k):=by
  unfold outB valsB
  rw [← e1]
  simp only [lst,List.range_succ,List.map_append,List.map_cons,List.map_nil]
  rw [show bytesN xs - 1 - (bytesN xs - (k + 1)) = k from by omega]
 rw [e,e1] at hown
 exact hown
theorem ByR.skip {wr w:World} {xs:List Nat} {v:Value} {k:Nat} (h:ByR wr w xs v (k + 1)) (hk:bytesN xs ≤ k):ByR wr w xs v k:=by
 have e:bytesN xs - (k + 1) = bytesN xs - k:=by omega
 refine ⟨?_,h.bel⟩
 have:=h.own
 unfold outB at *
 rw [e] at this
 exact this

theorem own_len {w:World} {base k:Nat} {e:TypeId} {v:Value} {ws:List Value} (h:w.ownsRow base e 1 v k ws):∃ a c,v = .slice a k c:=by
 rcases h.2 with ⟨e,h0⟩ | ⟨g,cap,cur,e,hb,h5,h6,h7,h8,h9⟩
 ·subst e h0
  exact ⟨none,0,rfl⟩
 ·subst e
  exact ⟨_,_,rfl⟩

def MI (N:Nat):Prop:=∀ (w:World) (bz oz nz cz:Nat) (a1:Option Addr) (n1 c1:Nat) (xs:List Nat) (a2:Option Addr) (n2 c2:Nat) (ys:List Nat),n1 + n2 ≤ N → MulPre w bz oz nz cz a1 n1 c1 xs a2 n2 c2 ys →
 Calls Tryz.prog 172 #[.slice (some ⟨bz,oz,none⟩) nz cz,.slice a1 n1 c1,.slice a2 n2 c2] w fun e w' => MulPost w bz oz nz (val xs * val ys) e w'

theorem Fn.below {w w':World} {b off n:Nat} {f:Nat → Nat} (h:Fn w b off n f) (k:Below w.heap.size w w'):Fn w' b off n f:=by
 intro i hi
 have:=h i hi
 have hlt:=World.block_lt_of_cell? _ _ this.1
 exact ⟨(k.cell hlt).trans this.1,(k.frozen hlt).trans this.2⟩

theorem Fn.part {w:World} {b off n:Nat} {f:Nat → Nat} (h:Fn w b off n f) (k m:Nat) (hm:k + m ≤ n):Fn w b (off + k) m (fun i => f (k + i)):=by
 intro i hi
 have:=h (k + i) (by omega)
 rw [← Nat.add_assoc] at this
 exact this

theorem Fn.join {w:World} {b off k m:Nat} {f g:Nat → Nat} (h1:Fn w b off k f) (h2:Fn w b (off + k) m g):Fn w b off (k + m) (fun i => if i < k then f i else g (i - k)):=by
 intro i hi
 by_cases e:i < k
 ·simp only [e,if_true]; exact h1 i e
 ·simp only [e,if_false]
  have:=h2 (i - k) (by omega)
  rw [show off + k + (i - k) = off + i from by omega] at this
  exact this

theorem valF_join (f g:Nat → Nat) (k m:Nat):valF (fun i => if i < k then f i else g (i - k)) (k + m) = valF f k + 4294967296 ^ k * valF g m:=by
 rw [valF_add,valF_congr (g:=f) (fun i hi => by simp [hi]),valF_congr (f:=fun j => if k + j < k then f (k + j) else g (k + j - k)) (g:=g) (fun i hi => by rw [if_neg (by omega),Nat.add_sub_cancel_left])]

theorem rep_len_le {v j:Nat} {zs:List Nat} (h:Rep v zs) (hv:v < 4294967296 ^ j):zs.length ≤ j:=by
 rcases Nat.lt_or_ge j zs.length with hlt | hge
 ·exfalso
  have h1:=val_ge_of_norm h.norm (by intro e; subst e; simp at hlt)
  rw [h.val] at h1
  have h2:4294967296 ^ j ≤ 4294967296 ^ (zs.length - 1):=pow_mono (by omega)
  omega
 ·exact hge

theorem carry_zero {x y P c:Nat} (h:x + P * c = y) (hy:y < P):c = 0 ∧ x = y:=by
 rcases Nat.eq_zero_or_pos c with h0 | h0
 ·subst h0; simp at h; exact ⟨rfl,h⟩
 ·exfalso
  have:P * 1 ≤ P * c:=Nat.mul_le_mul_left _ h0
  omega

structure PieceR (wr w:World) (bz oz nz:Nat) (xs ys:List Nat) (k:Nat) (f:Nat → Nat):Prop where
 fn:Fn wr bz oz nz f
 ok:∀ i,i < nz → f i < 4294967296
 vl:valF f nz = val (xs.take k) * val ys
 upd:Upd bz oz (oz + nz) w wr

theorem take_lt {xs:List Nat} (ox:Ok xs) (t:Nat) (h:t ≤ xs.length):val (xs.take t) < 4294967296 ^ t:=by
 have:=val_lt (ox.take t)
 rwa [List.length_take,Nat.min_eq_left h] at this

theorem take_split (xs:List Nat) (k p:Nat) (h:k + p ≤ xs.length):val (xs.take (k + p)) = val (xs.take k) + 4294967296 ^ k * val ((xs.drop k).take p):=by
 rw [List.take_add,val_append,List.length_take,Nat.min_eq_left (by omega)]

theorem PieceR.step {wr w w5 w6:World} {bz oz nz n1 n2:Nat} {xs ys:List Nat} {k p k' c:Nat} {f f':Nat → Nat} (h:PieceR wr w bz oz nz xs ys k f) (hl1:xs.length = n1) (hl2:ys.length = n2) (hnz:n1 + n2 = nz) (ox:Ok xs) (oy:Ok ys) (hp:k + p ≤ n1)
  (hk':xs.take k' = xs.take (k + p)) (bz5:bz < wr.heap.size) (b5:Below wr.heap.size wr w5) (hF:Fn w6 bz (oz + k) (nz - k) f') (hok:∀ i,i < nz - k → f' i < 4294967296)
  (hval:valF f' (nz - k) + 4294967296 ^ (nz - k) * c = valF (fun i => f (k + i)) (nz - k) + val ((xs.drop k).take p) * val ys) (hupd:Upd bz (oz + k) (oz + k + (nz - k)) w5 w6) :
  ∃ g,PieceR w6 w bz oz nz xs ys k' g:=by
 have hkn:k + (nz - k) = nz:=by omega
 have u1:Upd bz oz (oz + nz) wr w5:=.of_below bz5 b5
 have u2:Upd bz oz (oz + nz) w5 w6:=hupd.mono (by omega) (by omega)
 have fl:Fn w6 bz oz k f:=by
  have:=((h.fn.below b5).part 0 k (by omega))
  simp only [Nat.zero_add,Nat.add_zero] at this
  exact hupd.fn this (.inr (.inl (by omega)))
 have hj:=Fn.join fl hF
 rw [hkn] at hj
 refine ⟨_,hj,?_,?_,(h.upd.trans u1).trans u2⟩
 ·intro i hi
  by_cases e:i < k
  ·simp only [e,if_true]; exact h.ok i hi
  ·simp only [e,if_false]; exact hok _ (by omega)
 ·have e1:=valF_join f f' k (nz - k)
  rw [hkn] at e1
  rw [e1,hk',take_split xs k p (by omega)]
  have e2:=valF_add f k (nz - k)
  rw [hkn,h.vl] at e2
  have e3:valF f k + 4294967296 ^ k * valF f' (nz - k) + 4294967296 ^ nz * c = (val (xs.take k) + 4294967296 ^ k * val ((xs.drop k).take p)) * val ys:=by
   have e4:4294967296 ^ nz * c = 4294967296 ^ k * (4294967296 ^ (nz - k) * c):=by rw [← Nat.mul_assoc,← Nat.pow_add,hkn]
   rw [e4,Nat.add_assoc,← Nat.mul_add,hval,Nat.mul_add,← Nat.add_assoc,← e2,Nat.add_mul,Nat.mul_assoc]
  have hlt:(val (xs.take k) + 4294967296 ^ k * val ((xs.drop k).take p)) * val ys < 4294967296 ^ nz:=by
   rw [← take_split xs k p (by omega)]
   have a1:=take_lt ox (k + p) (by omega)
   have a2:=val_lt oy
   have a3:4294967296 ^ (k + p) ≤ 4294967296 ^ n1:=pow_mono hp
   rw [← hnz,Nat.pow_add,← hl2]
   exact Nat.mul_lt_mul_of_lt_of_le (by omega) (by omega) (pow_pos _)
  exact (carry_zero e3 hlt).2
end Go.Proofs.YtpbcnkcnjnefiaaGreatDoor
