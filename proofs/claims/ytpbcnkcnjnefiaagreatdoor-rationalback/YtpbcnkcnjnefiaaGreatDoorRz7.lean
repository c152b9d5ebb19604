/- Rn2 -/
import Derived.Test.YtpbcnkcnjnefiaaGreatDoorRz2
import Derived.Test.YtpbcnkcnjnefiaaGreatDoorRs1
import Derived.Test.YtpbcnkcnjnefiaaGreatDoorRl2
import Derived.Test.YtpbcnkcnjnefiaaGreatDoorGb
import Derived.Test.YtpbcnkcnjnefiaaGreatDoorPw1
import Derived.Test.YtpbcnkcnjnefiaaGreatDoorPa2
import Derived.Test.YtpbcnkcnjnefiaaGreatDoorRq0
import Derived.Test.YtpbcnkcnjnefiaaGreatDoorCmp
import Derived.Test.YtpbcnkcnjnefiaaGreatDoorShr
namespace Go.Proofs.YtpbcnkcnjnefiaaGreatDoor
open Go.RowKit Go.Deep
set_option linter.unusedVariables false
theorem gcd_cancel {N M P Q:Nat} (hM:0 < M) (h:N * Q = P * M):N / Nat.gcd N M * Q = P * (M / Nat.gcd N M):=by
 have hg:0 < Nat.gcd N M:=Nat.gcd_pos_of_pos_right _ hM
 obtain ⟨n,hn⟩:=Nat.gcd_dvd_left N M
 obtain ⟨m,hm⟩:=Nat.gcd_dvd_right N M
 generalize Nat.gcd N M = d at *
 subst hn hm
 rw [Nat.mul_div_cancel_left _ hg,Nat.mul_div_cancel_left _ hg]
 refine Nat.eq_of_mul_eq_mul_left hg ?_
 rw [← Nat.mul_assoc,h,Nat.mul_left_comm]
theorem fr_low {sg:Bool} {N M P Q:Nat} (hN:(limbs N).length ≤ 2048) (hM:(limbs M).length ≤ 2048) (hp:0 < M) (hQ:0 < Q) (h:N * Q = P * M):Fr (sg && decide (limbs N ≠ [])) (limbs (N / Nat.gcd N M)) (limbs (M / Nat.gcd N M)) (nI sg P) (Q:Int):=by
 have hg:0 < Nat.gcd N M:=Nat.gcd_pos_of_pos_right _ hp
 have e:decide (limbs N ≠ []) = decide (N / Nat.gcd N M ≠ 0):=by
  by_cases h0:N = 0
  ·subst h0
   rw [limbs_zero,Nat.zero_div]
   rfl
  ·have h1:limbs N ≠ []:=by rw [Ne,limbs_eq_nil]; exact h0
   have h2:0 < N / Nat.gcd N M:=Nat.div_pos (Nat.gcd_le_left _ (by omega)) hg
   simp [h1,Nat.ne_of_gt h2]
 have small:∀ {Z g:Nat},(limbs Z).length ≤ 2048 → bigN (Z / g) = false:=by
  intro Z g hz
  have h1:=limbs_mono (Nat.div_le_self Z g)
  unfold bigN
  simp
  omega
 rw [e]
 have hco:Nat.gcd (N / Nat.gcd N M) (M / Nat.gcd N M) = 1:=Nat.gcd_div_gcd_div_gcd_of_pos_right hp
 refine ⟨mayR_mk (small hN) (small hM) (Nat.div_pos (Nat.gcd_le_right _ hp) hg) hco,by omega,?_⟩
 rw [lv,lv,nI_and,← nI_mul,← nI_mul,gcd_cancel hp h]
theorem ff_fr {b:Nat} (he:exB b ≠ 2047):∃ g x y,FfF b = ((g,x,y),0) ∧ Ok x ∧ Ok y ∧ Fr g x y (nI (decide (9223372036854775808 ≤ b)) (flV b)) ((2 ^ kB:Nat):Int):=by
 have hl:=exB_lt b
 have hn:=ffN_lt b
 have hk:=kB_eq
 have l1:(limbs (ffN b)).length ≤ 2:=limbs_len (by omega)
 have hQ:=Nat.two_pow_pos kB
 have hE:ffE b ≤ 2045:=by unfold ffE; omega
 unfold FfF
 rw [if_neg he]
 by_cases h1:1074 ≤ ffE b
 ·rw [if_pos h1]
  have l2:=limbs_pow_len (ffN b) (ffE b - 1074)
  rw [lowF_small (by omega) (by decide) (by decide)]
  refine ⟨_,_,_,rfl,limbs_ok _,limbs_ok _,fr_low (by omega) (by decide) (by decide) hQ ?_⟩
  unfold flV
  rw [Nat.mul_one,Nat.mul_assoc,← Nat.pow_add,show ffE b - 1074 + kB = ffE b by omega]
 ·rw [if_neg h1]
  have l2:=limbs_two_len (1074 - ffE b)
  rw [lowF_small (by omega) (by omega) (Nat.two_pow_pos _)]
  refine ⟨_,_,_,rfl,limbs_ok _,limbs_ok _,fr_low (by omega) (by omega) (Nat.two_pow_pos _) hQ ?_⟩
  unfold flV
  rw [Nat.mul_assoc,← Nat.pow_add,show ffE b + (1074 - ffE b) = kB by omega]
theorem nI_abs (g:Bool) (v:Nat):(nI g v).natAbs = v:=by cases g <;> simp [nI]

def NewRz (w w':World) (g:Bool) (xs ys:List Nat) (v:Value):Prop:=∃ aN mN cN aD mD cD,v = ratV g aN mN cN aD mD cD ∧ (aN = none → cN = 0) ∧ (aD = none → cD = 0) ∧ Sl w' aN mN cN xs ∧ Sl w' aD mD cD ys ∧ NewAt w.heap.size aN ∧ NewAt w.heap.size aD ∧ Below w.heap.size w w'
theorem NewRz.new {w w':World} {g:Bool} {xs ys:List Nat} {v:Value} (h:NewRz w w' g xs ys v):NewR w w' g xs ys v:=by
 obtain ⟨aN,mN,cN,aD,mD,cD,e,_,_,h1,h2,h3,h4,h5⟩:=h
 exact ⟨aN,mN,cN,aD,mD,cD,e,h1,h2,h3,h4,h5⟩



def IsTail (v t:Nat):Prop:=(v = 0 ∧ t = 0) ∨ (bitN v t = 1 ∧ ∀ j,j < t → bitN v j = 0)
theorem bitN_zero (j:Nat):bitN 0 j = 0:=by unfold bitN; rw [Nat.zero_div]
theorem IsTail.unique {v t s:Nat} (h:IsTail v t) (k:IsTail v s):t = s:=by
 rcases h with ⟨h0,h1⟩ | ⟨h0,h1⟩
 ·rcases k with ⟨_,k1⟩ | ⟨k0,_⟩
  ·omega
  ·rw [h0,bitN_zero] at k0; omega
 ·rcases k with ⟨k0,_⟩ | ⟨k0,k1⟩
  ·rw [k0,bitN_zero] at h0; omega
  ·rcases Nat.lt_trichotomy t s with e | e | e
   ·have:=k1 t e; omega
   ·exact e
   ·have:=h1 s e; omega

theorem tail_limb {xs:List Nat} (ox:Ok xs) {k:Nat} (h0:∀ i,i < k → xs.getD i 0 = 0) (hx:0 < xs.getD k 0):IsTail (val xs) (32 * k + tzN (xs.getD k 0)):=by
 have hb:=ox.getD k
 have ht:tzN (xs.getD k 0) = Lib.ntzAux 32 (xs.getD k 0):=by unfold tzN; rw [if_neg (by omega)]
 have hl:=tz_lt 32 _ hx hb
 have hz:=tz_bit 32 _ hx hb
 rw [← ht] at hl hz
 right
 constructor
 ·rw [bit_limb ox (l:=k) (s:=tzN (xs.getD k 0)) (by omega) (by omega)]
  exact hz.1
 ·intro j hj
  rw [bit_limb ox (l:=j / 32) (s:=j % 32) rfl rfl]
  rcases Nat.lt_or_ge (j / 32) k with e | e
  ·rw [h0 _ e,Nat.zero_div]
  ·have e2:j / 32 = k:=by omega
   rw [e2]
   exact hz.2 _ (by omega)
theorem tail_none {xs:List Nat} {n:Nat} (hl:xs.length = n) (h0:∀ i,i < n → xs.getD i 0 = 0):IsTail (val xs) 0:=by
 left
 refine ⟨?_,rfl⟩
 rw [← valF_list,hl,valF_congr (g:=fun _ => 0) h0,valF_zero]

def TailPost (w:World) (xs:List Nat) (e:Ending) (w':World):Prop:=∃ t:Nat,t ≤ 65536 ∧ IsTail (val xs) t ∧ e = .returned (.int .i64 (t:Nat)) ∧ ∃ k,w' = w.drewN k

set_option maxHeartbeats 2000000 in
theorem ntail_any (a:Option Addr) (n c:Nat) (xs:List Nat) (w:World) (h:Sl w a n c xs) (ox:Ok xs) (m:MayL xs = true) (hT:Tab32 w) :
  Calls Tryz.prog 147 #[.slice a n c] w fun e w' => TailPost w xs e w':=by
 have KM:=may_any a n c xs w h
 rw [m] at KM
 have KM':=Hd KM
 have HL:=Hd h.len
 have hn:n ≤ 2048:=by have:=h.len; have:=MayL.len m; omega
 have H:=Hd h
 have HT:=Hd hT
 clear KM h m hT
 go_enter Tryz.func147,Tryz.ntmps147
 go_wp2_with fail
 refine (Uh KM').mono ?_
 rintro e w' ⟨rfl,hw⟩
 obtain rfl:=hw.symm
 go_wp2_with fail
 go_loop [9] (fun iv => ∃ k:Nat,k ≤ n ∧ iv = .int .i64 (k:Nat) ∧ Hid (∀ i,i < k → xs.getD i 0 = 0)) (fun iv => n - (intOf iv).toNat)
 case atStart => exact ⟨0,Nat.zero_le _,rfl,fun i hi => by omega⟩
 case round =>
  obtain ⟨k,hk,rfl,HZ⟩:=hrel
  by_cases hlt:k < n
  ·have hlt':(k:Int) < (n:Int):=by omega
   have hxne:xs ≠ []:=by intro e; have:=Uh HL; rw [e] at this; simp at this; omega
   obtain ⟨b1,o1,rfl,hx⟩:=(Uh H).cells.resolve_left hxne
   have g1:=hx k (by rw [Uh HL]; exact hlt)
   have bx:=ox.getD k
   by_cases h0:xs.getD k 0 = 0
   ·have HZ2:=Hd (show ∀ i,i < k + 1 → xs.getD i 0 = 0 from fun i hi => by
     by_cases e:i = k
     ·rw [e]; exact h0
     ·exact Uh HZ i (by omega))
    rw [h0] at g1
    clear hx hxne HZ h0 bx
    go_wp2_with fail
    exact ⟨⟨k + 1,by omega,by go_num,Uh HZ2⟩,by simp [intOf]; omega⟩
   ·have hp:0 < xs.getD k 0:=by omega
    have HR:=Hd (tail_limb ox (Uh HZ) hp)
    have KT:=Hd (fun v (hv:Tab32 v) => tz32_any (xs.getD k 0) v hp bx hv)
    have hl:tzN (xs.getD k 0) < 32:=by
     obtain ⟨_,_,_,_,_,_,_,_,_,_,hl⟩:=tz_facts hp bx
     exact hl
    generalize tzN (xs.getD k 0) = t at *
    generalize xs.getD k 0 = x at *
    have t1:((x:Int) == 0) = false:=by simp; omega
    have es:(k:Int) * 32 + (t:Int) = ((32 * k + t:Nat):Int):=by omega
    generalize hq:32 * k + t = q at *
    have hqb:q ≤ 65536:=by omega
    clear hq
    have t2:¬ (x:Int) = 0:=by omega
    clear hx hxne HZ
    go_wp2_with fail
    refine (Uh KT _ (Uh HT)).mono ?_
    rintro e w' ⟨rfl,hw⟩
    obtain rfl:=hw.symm
    go_wp2
    go_ret
    exact ⟨q,hqb,Uh HR,rfl,0,rfl⟩
  ·have hkn:k = n:=by omega
   subst hkn
   have hlt':¬ (k:Int) < (k:Int):=by omega
   have HR:=Hd (tail_none (Uh HL) (Uh HZ))
   clear HZ
   go_wp2
   go_ret
   exact ⟨0,by omega,Uh HR,rfl,0,rfl⟩
open Go.RowKit Go.Deep
set_option linter.unusedVariables false

set_option maxHeartbeats 1000000 in
theorem nbit_any (a:Option Addr) (n c:Nat) (xs:List Nat) (i:Nat) (w:World) (h:Sl w a n c xs) (ox:Ok xs) (m:MayL xs = true) (hi:i ≤ 9223372036854775807) :
  Calls Tryz.prog 98 #[.slice a n c,.int .i64 (i:Nat)] w fun e w' => e = .returned (.int .i64 (bitN (val xs) i:Nat)) ∧ w' = w:=by
 have K1:=may_any a n c xs w h
 rw [m] at K1
 have K1':=Hd K1
 have KL:=limbAt_any a n c xs ((i / 32:Nat):Int) w h (by omega)
 rw [show (((i / 32:Nat):Int)).toNat = i / 32 from Int.toNat_natCast _] at KL
 rw [bit_limb ox (l:=i / 32) (s:=i % 32) rfl rfl]
 have bx:=ox.getD (i / 32)
 generalize xs.getD (i / 32) 0 = x at *
 obtain ⟨l,hl⟩:∃ l,i / 32 = l:=⟨_,rfl⟩
 obtain ⟨s,hs⟩:∃ s,i % 32 = s:=⟨_,rfl⟩
 have hs32:s < 32:=by omega
 rw [hl] at KL
 rw [hs]
 have KL':=Hd KL
 have hl2:(i:Int).tdiv 32 = (l:Int):=by rw [Int.tdiv_eq_ediv_of_nonneg (by omega)]; omega
 have hs2:(i:Int).tmod 32 = (s:Int):=by rw [Int.tmod_eq_emod_of_nonneg (by omega)]; omega
 have hl3:(i:Int) / 32 = (l:Int):=by omega
 have hs3:(i:Int) % 32 = (s:Int):=by omega
 have hy:=shr_lt (s:=s) bx
 have e1:(x:Int) / 2 ^ s = ((x / 2 ^ s:Nat):Int):=by rw [Int.natCast_ediv,Int.natCast_pow]; rfl
 have e2:=and_one _ hy
 generalize x / 2 ^ s = y at *
 have hy2:y % 2 < 2:=Nat.mod_lt _ (by decide)
 generalize y % 2 = z at *
 clear K1 KL h m
 go_enter Tryz.func98,Tryz.ntmps98
 go_wp2_with fail
 refine (Uh K1').mono ?_
 rintro e w' ⟨rfl,hw⟩
 obtain rfl:=hw.symm
 go_wp2_with fail
 refine (Uh KL').mono ?_
 rintro e w' ⟨rfl,hw⟩
 obtain rfl:=hw.symm
 go_wp2
 go_ret
 exact ⟨rfl,rfl⟩
theorem low_none {v n:Nat} (h:∀ j,j < n → bitN v j = 0):v % 2 ^ n = 0:=by
 induction n with
 | zero => rw [Nat.pow_zero,Nat.mod_one]
 | succ n ih =>
  rw [Nat.pow_succ,Nat.mod_mul,ih (fun j hj => h j (by omega)),Nat.zero_add]
  have:=h n (by omega)
  unfold bitN at this
  rw [this,Nat.mul_zero]
theorem low_some {v t n:Nat} (ht:t < n) (h:bitN v t = 1):v % 2 ^ n ≠ 0:=by
 intro e
 obtain ⟨k,hk⟩:=Nat.dvd_of_mod_eq_zero e
 obtain ⟨j,rfl⟩:∃ j,n = t + 1 + j:=⟨n - (t + 1),by omega⟩
 have h1:v = 2 ^ t * (2 * (2 ^ j * k)):=by
  rw [hk,Nat.pow_add,Nat.pow_succ]
  simp only [Nat.mul_assoc]
 unfold bitN at h
 rw [h1,Nat.mul_div_cancel_left _ (Nat.two_pow_pos t),Nat.mul_mod_right] at h
 omega
theorem db_parts {A B d:Nat} (hB:0 < B) (hd:1 ≤ d):A / (B * 2 ^ d) = A / B / 2 ^ d ∧ A % (B * 2 ^ d) = B * (A / B % 2 ^ (d - 1)) + A % B + B * 2 ^ (d - 1) * bitN (A / B) (d - 1) ∧ B * 2 ^ d = B * 2 ^ (d - 1) + B * 2 ^ (d - 1):=by
 obtain ⟨k,rfl⟩:∃ k,d = k + 1:=⟨d - 1,by omega⟩
 simp only [Nat.add_sub_cancel]
 refine ⟨(Nat.div_div_eq_div_mul _ _ _).symm,?_,?_⟩
 ·rw [Nat.mod_mul,Nat.pow_succ,Nat.mod_mul]
  unfold bitN
  rw [Nat.mul_add,← Nat.mul_assoc,Nat.add_comm (A % B),Nat.add_right_comm]
 ·rw [Nat.pow_succ,← Nat.mul_assoc]
  omega
theorem db_room {A B k:Nat} (hB:0 < B):B * (A / B % 2 ^ k) + A % B < B * 2 ^ k:=by
 have h1:=Nat.mod_lt A hB
 have h2:A / B % 2 ^ k + 1 ≤ 2 ^ k:=Nat.mod_lt _ (Nat.two_pow_pos k)
 have h3:=Nat.mul_le_mul_left B h2
 rw [Nat.mul_add,Nat.mul_one] at h3
 omega
theorem db_down {A B d:Nat} (hB:0 < B) (hd:1 ≤ d) (hb:bitN (A / B) (d - 1) = 0):rdQ A (B * 2 ^ d) = A / B / 2 ^ d:=by
 obtain ⟨h1,h2,h3⟩:=db_parts (A:=A) hB hd
 have h4:=db_room (A:=A) (k:=d - 1) hB
 rw [hb,Nat.mul_zero,Nat.add_zero] at h2
 unfold rdQ
 rw [if_neg (by omega),h1]
theorem db_up {A B d:Nat} (hB:0 < B) (hd:1 ≤ d) (hb:bitN (A / B) (d - 1) = 1) (hm:A % B ≠ 0 ∨ A / B % 2 ^ (d - 1) ≠ 0):rdQ A (B * 2 ^ d) = A / B / 2 ^ d + 1:=by
 obtain ⟨h1,h2,h3⟩:=db_parts (A:=A) hB hd
 rw [hb,Nat.mul_one] at h2
 have h5:0 < B * (A / B % 2 ^ (d - 1)) + A % B:=by
  rcases hm with h | h
  ·omega
  ·have:=Nat.mul_pos hB (Nat.pos_of_ne_zero h); omega
 unfold rdQ
 rw [if_pos (by omega),h1]
theorem db_even {A B d:Nat} (hB:0 < B) (hd:1 ≤ d) (hb:bitN (A / B) (d - 1) = 1) (hm:A % B = 0) (hz:A / B % 2 ^ (d - 1) = 0):rdQ A (B * 2 ^ d) = A / B / 2 ^ d + A / B / 2 ^ d % 2:=by
 obtain ⟨h1,h2,h3⟩:=db_parts (A:=A) hB hd
 rw [hb,Nat.mul_one,hm,hz,Nat.mul_zero,Nat.zero_add] at h2
 unfold rdQ
 rw [h2,h1]
 by_cases k:A / B / 2 ^ d % 2 = 1
 ·rw [if_pos (by omega),k]
 ·rw [if_neg (by omega)]; omega
theorem db_tail {v t d:Nat} (hb:bitN v (d - 1) = 1) (h:IsTail v t):t < d - 1 ↔ v % 2 ^ (d - 1) ≠ 0:=by
 rcases h with ⟨h,_⟩ | ⟨h1,h2⟩
 ·rw [h] at hb
  unfold bitN at hb
  rw [Nat.zero_div] at hb
  omega
 ·constructor
  ·intro h; exact low_some h h1
  ·intro h
   rcases Nat.lt_or_ge t (d - 1) with k | k
   ·exact k
   ·exact absurd (low_none fun j hj => h2 j (by omega)) h
theorem fl_cond {X Y up dr U0:Nat} (hY:0 < Y) (h:dr + kB = U0 + up):53 + dr < bitsN (limbs (X * 2 ^ up / Y)) ↔ Y * 2 ^ (53 + U0) ≤ X * 2 ^ kB:=by
 rw [bits_ge,Nat.le_div_iff_mul_le hY]
 have h1:2 ^ (53 + dr) * Y * 2 ^ kB = Y * 2 ^ (53 + U0) * 2 ^ up:=by
  rw [Nat.mul_comm _ Y,Nat.mul_assoc,Nat.mul_assoc,← Nat.pow_add,← Nat.pow_add]
  congr 2
  omega
 have h2:X * 2 ^ up * 2 ^ kB = X * 2 ^ kB * 2 ^ up:=Nat.mul_right_comm _ _ _
 constructor
 ·intro k
  have k2:=Nat.mul_le_mul_right (2 ^ kB) k
  rw [h1,h2] at k2
  exact Nat.le_of_mul_le_mul_right k2 (Nat.two_pow_pos up)
 ·intro k
  have k2:=Nat.mul_le_mul_right (2 ^ up) k
  rw [← h1,← h2] at k2
  exact Nat.le_of_mul_le_mul_right k2 (Nat.two_pow_pos kB)
theorem fl_done {X Y up dr U:Nat} (h:dr + kB = U + up):rdQ (X * 2 ^ up) (Y * 2 ^ dr) = rdE X Y U:=by
 unfold rdE
 rw [← rd_scale (c:=2 ^ kB) (Nat.two_pow_pos kB),Nat.mul_assoc Y,← Nat.pow_add,h,Nat.pow_add,← Nat.mul_assoc,Nat.mul_right_comm X,rd_scale (Nat.two_pow_pos up)]
theorem fl_quot {p q X Y up dr:Nat} (hX2:X < 2 ^ p) (hY1:2 ^ q ≤ Y * 2) (h:dr + kB = flG p q + up):X * 2 ^ up / Y < 2 ^ (54 + dr):=by
 have hY:0 < Y:=by have:=Nat.two_pow_pos q; omega
 have h0:=fl_under (E:=flG p q) (j:=54) hX2 hY1 (by unfold flG; omega)
 rw [Nat.div_lt_iff_lt_mul hY]
 have k2:=Nat.mul_lt_mul_of_pos_right h0 (Nat.two_pow_pos up)
 have h1:2 ^ 54 * (Y * 2 ^ flG p q) * 2 ^ up = 2 ^ (54 + dr) * Y * 2 ^ kB:=by
  rw [Nat.mul_assoc,Nat.mul_assoc Y,← Nat.pow_add,← h,Nat.pow_add,← Nat.mul_assoc Y,Nat.pow_add 2 54]
  simp only [Nat.mul_assoc,Nat.mul_left_comm,Nat.mul_comm]
 rw [h1,Nat.mul_right_comm X] at k2
 exact Nat.lt_of_mul_lt_mul_right k2

theorem and_low1 {v:Nat} (h:v < 18446744073709551616):bits .and .u64 (v:Int) 1 = ((v % 2:Nat):Int):=by
 have h1:=u64_and_nat v 1 h (by decide)
 rw [show (1:Nat) = 2 ^ 1 - 1 from rfl,Nat.and_two_pow_sub_one_eq_mod] at h1
 exact h1
set_option maxRecDepth 100000 in
set_option maxHeartbeats 8000000 in
theorem dropBits_any (a:Option Addr) (n c A Bd d:Nat) (mo:Bool) (w:World) (h:Sl w a n c (limbs (A / Bd))) (hM:MayL (limbs (A / Bd)) = true) (hB:0 < Bd) (hd:1 ≤ d) (hd2:d ≤ 65536) (hmo:decide (A % Bd ≠ 0) = mo) (hZ:A / Bd / 2 ^ d < 18014398509481984) (hT:Tab32 w) :
  Calls Tryz.prog 96 #[.slice a n c,.int .i64 (d:Nat),.bool mo] w fun e w' => e = .returned (.int .u64 (rdQ A (Bd * 2 ^ d):Nat)) ∧ Below w.heap.size w w':=by
 have KS:=nshr_any a n c (limbs (A / Bd)) w (d:Int) h (limbs_ok _)
 have hsh:shrL (limbs (A / Bd)) (d:Int) = (limbs (A / Bd / 2 ^ d),0):=by
  unfold shrL
  rw [if_pos hM,if_pos ⟨by omega,by omega⟩,limbs_v,Int.toNat_natCast]
 rw [hsh] at KS
 have L0:=fun hb => db_down (A:=A) (B:=Bd) (d:=d) hB hd hb
 have L1:=fun hb hm => db_up (A:=A) (B:=Bd) (d:=d) hB hd hb hm
 have L2:=fun hb hm hz => db_even (A:=A) (B:=Bd) (d:=d) hB hd hb hm hz
 have LT:=fun (t:Nat) hb ht => db_tail (v:=A / Bd) (d:=d) (t:=t) hb ht
 obtain ⟨d1,hd1⟩:∃ d1,d - 1 = d1:=⟨_,rfl⟩
 have td:(d:Int) - 1 = (d1:Int):=by omega
 have KB:=fun (W:World) (hb:Below w.heap.size w W) => nbit_any a n c (limbs (A / Bd)) d1 W (h.below hb) (limbs_ok _) hM (by omega)
 have KT:=fun (W:World) (hb:Below w.heap.size w W) => ntail_any a n c (limbs (A / Bd)) W (h.below hb) (limbs_ok _) hM (hT.below hb)
 rw [hd1] at L0 L1 L2 LT
 have hbit:bitN (A / Bd) d1 = 0 ∨ bitN (A / Bd) d1 = 1:=by unfold bitN; omega
 obtain ⟨R,hR⟩:∃ R,rdQ A (Bd * 2 ^ d) = R:=⟨_,rfl⟩
 rw [hR] at L0 L1 L2 ⊢
 obtain ⟨Z,hZe⟩:∃ Z,A / Bd / 2 ^ d = Z:=⟨_,rfl⟩
 rw [hZe] at KS hZ L0 L1 L2
 obtain ⟨Q,hQ⟩:∃ Q,A / Bd = Q:=⟨_,rfl⟩
 rw [hQ] at KB KT L0 L1 L2 LT hbit
 rw [limbs_v] at KB
 have HKS:=Hd KS
 have HKB:=Hd KB
 have HKT:=Hd KT
 have hd1b:d1 ≤ 65536:=by omega
 clear h hM hB hd hd1 hT hsh hR hZe hQ KS KB KT
 rcases hbit with hb | hb
 ·rw [hb] at HKB
  have HR:=Hd (L0 hb)
  clear L0 L1 L2 LT hb
  go_enter Tryz.func96,Tryz.ntmps96
  go_wp2_with fail
  refine (Uh HKS).mono ?_
  rintro _ w1 ⟨a1,m1,c1,rfl,s1,n1,b1⟩
  dsimp only at s1
  have S1:=Hd (And.intro s1 b1)
  clear s1 n1 b1 HKS
  go_wp2_with fail
  refine (sure_any _ _ _).mono ?_
  rintro _ _ ⟨rfl,hw⟩
  obtain rfl:=hw.symm
  clear hw
  go_wp2_with fail
  refine (uint_any a1 m1 c1 Z (limbs Z) _ (Uh S1).1 (limbs_rep Z) (by omega)).mono ?_
  rintro _ _ ⟨rfl,hw⟩
  obtain rfl:=hw.symm
  clear hw
  go_wp2_with fail
  refine (Uh HKB _ (Uh S1).2).mono ?_
  rintro _ _ ⟨rfl,hw⟩
  obtain rfl:=hw.symm
  clear hw
  go_wp2_with fail
  go_ret
  rw [Uh HR]
  exact ⟨rfl,(Uh S1).2⟩
 ·rw [hb] at HKB
  cases mo
  ·have hm:A % Bd = 0:=by simpa using hmo
   have HE:=Hd (fun (t:Nat) (ht:IsTail Q t) (k:¬ t < d1) => L2 hb hm (by
    have h1:=(LT t hb ht).2
    by_cases e:Q % 2 ^ d1 = 0
    ·exact e
    ·exact absurd (h1 e) k))
   have HU:=Hd (fun (t:Nat) (ht:IsTail Q t) (k:t < d1) => L1 hb (.inr ((LT t hb ht).1 k)))
   have ha:=and_low1 (v:=Z) (by omega)
   obtain ⟨Z2,hZ2⟩:∃ z,Z % 2 = z:=⟨_,rfl⟩
   rw [hZ2] at ha HE
   have hZ2b:Z2 < 2:=by omega
   clear L0 L1 L2 LT hb hmo hm hZ2
   go_enter Tryz.func96,Tryz.ntmps96
   go_wp2_with fail
   refine (Uh HKS).mono ?_
   rintro _ w1 ⟨a1,m1,c1,rfl,s1,n1,b1⟩
   dsimp only at s1
   have S1:=Hd (And.intro s1 b1)
   clear s1 n1 b1 HKS
   go_wp2_with fail
   refine (sure_any _ _ _).mono ?_
   rintro _ _ ⟨rfl,hw⟩
   obtain rfl:=hw.symm
   clear hw
   go_wp2_with fail
   refine (uint_any a1 m1 c1 Z (limbs Z) _ (Uh S1).1 (limbs_rep Z) (by omega)).mono ?_
   rintro _ _ ⟨rfl,hw⟩
   obtain rfl:=hw.symm
   clear hw
   go_wp2_with fail
   refine (Uh HKB _ (Uh S1).2).mono ?_
   rintro _ _ ⟨rfl,hw⟩
   obtain rfl:=hw.symm
   clear hw
   go_wp2_with fail
   refine (Uh HKT _ (Uh S1).2).mono ?_
   rintro _ w2 ⟨t,ht,hT,rfl,jj,hw⟩
   rw [limbs_v] at hT
   have hb2:Below w.heap.size w w2:=by rw [hw]; exact bel_drewN (Uh S1).2 jj
   have HB2:=Hd hb2
   clear hw hb2
   by_cases k:t < d1
   ·have HR:=Hd (Uh HU t hT k)
    have tk:(t:Int) < (d1:Int):=by omega
    clear hT HE HU
    go_wp2_with fail
    go_ret
    rw [Uh HR]
    exact ⟨rfl,Uh HB2⟩
   ·have HR:=Hd (Uh HE t hT k)
    have tk:¬ (t:Int) < (d1:Int):=by omega
    clear hT HE HU
    go_wp2_with fail
    go_ret
    rw [Uh HR]
    exact ⟨rfl,Uh HB2⟩
  ·have hm:A % Bd ≠ 0:=by simpa using hmo
   have HR:=Hd (L1 hb (.inl hm))
   clear L0 L1 L2 LT hb hmo hm
   go_enter Tryz.func96,Tryz.ntmps96
   go_wp2_with fail
   refine (Uh HKS).mono ?_
   rintro _ w1 ⟨a1,m1,c1,rfl,s1,n1,b1⟩
   dsimp only at s1
   have S1:=Hd (And.intro s1 b1)
   clear s1 n1 b1 HKS
   go_wp2_with fail
   refine (sure_any _ _ _).mono ?_
   rintro _ _ ⟨rfl,hw⟩
   obtain rfl:=hw.symm
   clear hw
   go_wp2_with fail
   refine (uint_any a1 m1 c1 Z (limbs Z) _ (Uh S1).1 (limbs_rep Z) (by omega)).mono ?_
   rintro _ _ ⟨rfl,hw⟩
   obtain rfl:=hw.symm
   clear hw
   go_wp2_with fail
   refine (Uh HKB _ (Uh S1).2).mono ?_
   rintro _ _ ⟨rfl,hw⟩
   obtain rfl:=hw.symm
   clear hw
   go_wp2_with fail
   go_ret
   rw [Uh HR]
   exact ⟨rfl,(Uh S1).2⟩
end Go.Proofs.YtpbcnkcnjnefiaaGreatDoor
