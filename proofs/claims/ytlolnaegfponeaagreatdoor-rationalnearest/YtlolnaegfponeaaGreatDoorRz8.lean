/- Rz7 -/
import Derived.Test.YtlolnaegfponeaaGreatDoorRz5
import Derived.Test.YtlolnaegfponeaaGreatDoorMy2
import Derived.Test.YtlolnaegfponeaaGreatDoorWr7
import Derived.Test.YtlolnaegfponeaaGreatDoorRa3
import Derived.Test.YtlolnaegfponeaaGreatDoorRz3
import Derived.Test.YtlolnaegfponeaaGreatDoorWip
import Derived.Test.YtlolnaegfponeaaGreatDoorWi9
import Derived.Test.YtlolnaegfponeaaGreatDoorWi5
import Derived.Lib.MinMax
namespace Go.Proofs.YtlolnaegfponeaaGreatDoor
open Go.RowKit Go.Deep
set_option linter.unusedVariables false
theorem low_none {v n:Nat} (h:∀ j,j < n → bitN v j = 0):v % 2 ^ n = 0:=by
 induction n with
 | zero => rw [Nat.pow_zero,Nat.mod_one]
 | succ n ih =>
  rw [Nat.pow_succ,Nat.mod_mul,ih (fun j hj => h j (by omega)),Nat.zero_add]
  have:=h n (by omega)
  unfold bitN at this
  rw [this,Nat.mul_zero]
theorem low_some {v t n:Nat} (ht:t < n) (h:bitN v t = 1):v % 2 ^ n ≠ 0:=by
 intro e
 obtain ⟨k,hk⟩:=Nat.dvd_of_mod_eq_zero e
 obtain ⟨j,rfl⟩:∃ j,n = t + 1 + j:=⟨n - (t + 1),by omega⟩
 have h1:v = 2 ^ t * (2 * (2 ^ j * k)):=by
  rw [hk,Nat.pow_add,Nat.pow_succ]
  simp only [Nat.mul_assoc]
 unfold bitN at h
 rw [h1,Nat.mul_div_cancel_left _ (Nat.two_pow_pos t),Nat.mul_mod_right] at h
 omega
theorem db_parts {A B d:Nat} (hB:0 < B) (hd:1 ≤ d):A / (B * 2 ^ d) = A / B / 2 ^ d ∧ A % (B * 2 ^ d) = B * (A / B % 2 ^ (d - 1)) + A % B + B * 2 ^ (d - 1) * bitN (A / B) (d - 1) ∧ B * 2 ^ d = B * 2 ^ (d - 1) + B * 2 ^ (d - 1):=by
 obtain ⟨k,rfl⟩:∃ k,d = k + 1:=⟨d - 1,by omega⟩
 simp only [Nat.add_sub_cancel]
 refine ⟨(Nat.div_div_eq_div_mul _ _ _).symm,?_,?_⟩
 ·rw [Nat.mod_mul,Nat.pow_succ,Nat.mod_mul]
  unfold bitN
  rw [Nat.mul_add,← Nat.mul_assoc,Nat.add_comm (A % B),Nat.add_right_comm]
 ·rw [Nat.pow_succ,← Nat.mul_assoc]
  omega
theorem db_room {A B k:Nat} (hB:0 < B):B * (A / B % 2 ^ k) + A % B < B * 2 ^ k:=by
 have h1:=Nat.mod_lt A hB
 have h2:A / B % 2 ^ k + 1 ≤ 2 ^ k:=Nat.mod_lt _ (Nat.two_pow_pos k)
 have h3:=Nat.mul_le_mul_left B h2
 rw [Nat.mul_add,Nat.mul_one] at h3
 omega
theorem db_down {A B d:Nat} (hB:0 < B) (hd:1 ≤ d) (hb:bitN (A / B) (d - 1) = 0):rdQ A (B * 2 ^ d) = A / B / 2 ^ d:=by
 obtain ⟨h1,h2,h3⟩:=db_parts (A:=A) hB hd
 have h4:=db_room (A:=A) (k:=d - 1) hB
 rw [hb,Nat.mul_zero,Nat.add_zero] at h2
 unfold rdQ
 rw [if_neg (by omega),h1]
theorem db_up {A B d:Nat} (hB:0 < B) (hd:1 ≤ d) (hb:bitN (A / B) (d - 1) = 1) (hm:A % B ≠ 0 ∨ A / B % 2 ^ (d - 1) ≠ 0):rdQ A (B * 2 ^ d) = A / B / 2 ^ d + 1:=by
 obtain ⟨h1,h2,h3⟩:=db_parts (A:=A) hB hd
 rw [hb,Nat.mul_one] at h2
 have h5:0 < B * (A / B % 2 ^ (d - 1)) + A % B:=by
  rcases hm with h | h
  ·omega
  ·have:=Nat.mul_pos hB (Nat.pos_of_ne_zero h); omega
 unfold rdQ
 rw [if_pos (by omega),h1]
theorem db_even {A B d:Nat} (hB:0 < B) (hd:1 ≤ d) (hb:bitN (A / B) (d - 1) = 1) (hm:A % B = 0) (hz:A / B % 2 ^ (d - 1) = 0):rdQ A (B * 2 ^ d) = A / B / 2 ^ d + A / B / 2 ^ d % 2:=by
 obtain ⟨h1,h2,h3⟩:=db_parts (A:=A) hB hd
 rw [hb,Nat.mul_one,hm,hz,Nat.mul_zero,Nat.zero_add] at h2
 unfold rdQ
 rw [h2,h1]
 by_cases k:A / B / 2 ^ d % 2 = 1
 ·rw [if_pos (by omega),k]
 ·rw [if_neg (by omega)]; omega
theorem db_tail {v t d:Nat} (hb:bitN v (d - 1) = 1) (h:IsTail v t):t < d - 1 ↔ v % 2 ^ (d - 1) ≠ 0:=by
 rcases h with ⟨h,_⟩ | ⟨h1,h2⟩
 ·rw [h] at hb
  unfold bitN at hb
  rw [Nat.zero_div] at hb
  omega
 ·constructor
  ·intro h; exact low_some h h1
  ·intro h
   rcases Nat.lt_or_ge t (d - 1) with k | k
   ·exact k
   ·exact absurd (low_none fun j hj => h2 j (by omega)) h
theorem fl_cond {X Y up dr U0:Nat} (hY:0 < Y) (h:dr + kB = U0 + up):53 + dr < bitsN (limbs (X * 2 ^ up / Y)) ↔ Y * 2 ^ (53 + U0) ≤ X * 2 ^ kB:=by
 rw [bits_ge,Nat.le_div_iff_mul_le hY]
 have h1:2 ^ (53 + dr) * Y * 2 ^ kB = Y * 2 ^ (53 + U0) * 2 ^ up:=by
  rw [Nat.mul_comm _ Y,Nat.mul_assoc,Nat.mul_assoc,← Nat.pow_add,← Nat.pow_add]
  congr 2
  omega
 have h2:X * 2 ^ up * 2 ^ kB = X * 2 ^ kB * 2 ^ up:=Nat.mul_right_comm _ _ _
 constructor
 ·intro k
  have k2:=Nat.mul_le_mul_right (2 ^ kB) k
  rw [h1,h2] at k2
  exact Nat.le_of_mul_le_mul_right k2 (Nat.two_pow_pos up)
 ·intro k
  have k2:=Nat.mul_le_mul_right (2 ^ up) k
  rw [← h1,← h2] at k2
  exact Nat.le_of_mul_le_mul_right k2 (Nat.two_pow_pos kB)
theorem fl_done {X Y up dr U:Nat} (h:dr + kB = U + up):rdQ (X * 2 ^ up) (Y * 2 ^ dr) = rdE X Y U:=by
 unfold rdE
 rw [← rd_scale (c:=2 ^ kB) (Nat.two_pow_pos kB),Nat.mul_assoc Y,← Nat.pow_add,h,Nat.pow_add,← Nat.mul_assoc,Nat.mul_right_comm X,rd_scale (Nat.two_pow_pos up)]
theorem fl_quot {p q X Y up dr:Nat} (hX2:X < 2 ^ p) (hY1:2 ^ q ≤ Y * 2) (h:dr + kB = flG p q + up):X * 2 ^ up / Y < 2 ^ (54 + dr):=by
 have hY:0 < Y:=by have:=Nat.two_pow_pos q; omega
 have h0:=fl_under (E:=flG p q) (j:=54) hX2 hY1 (by unfold flG; omega)
 rw [Nat.div_lt_iff_lt_mul hY]
 have k2:=Nat.mul_lt_mul_of_pos_right h0 (Nat.two_pow_pos up)
 have h1:2 ^ 54 * (Y * 2 ^ flG p q) * 2 ^ up = 2 ^ (54 + dr) * Y * 2 ^ kB:=by
  rw [Nat.mul_assoc,Nat.mul_assoc Y,← Nat.pow_add,← h,Nat.pow_add,← Nat.mul_assoc Y,Nat.pow_add 2 54]
  simp only [Nat.mul_assoc,Nat.mul_left_comm,Nat.mul_comm]
 rw [h1,Nat.mul_right_comm X] at k2
 exact Nat.lt_of_mul_lt_mul_right k2

theorem and_low1 {v:Nat} (h:v < 18446744073709551616):bits .and .u64 (v:Int) 1 = ((v % 2:Nat):Int):=by
 have h1:=u64_and_nat v 1 h (by decide)
 rw [show (1:Nat) = 2 ^ 1 - 1 from rfl,Nat.and_two_pow_sub_one_eq_mod] at h1
 exact h1
set_option maxRecDepth 100000 in
set_option maxHeartbeats 8000000 in
theorem dropBits_any (a:Option Addr) (n c A Bd d:Nat) (mo:Bool) (w:World) (h:Sl w a n c (limbs (A / Bd))) (hM:MayL (limbs (A / Bd)) = true) (hB:0 < Bd) (hd:1 ≤ d) (hd2:d ≤ 65536) (hmo:decide (A % Bd ≠ 0) = mo) (hZ:A / Bd / 2 ^ d < 18014398509481984) (hT:Tab32 w) :
  Calls Tryz.prog 77 #[.slice a n c,.int .i64 (d:Nat),.bool mo] w fun e w' => e = .returned (.int .u64 (rdQ A (Bd * 2 ^ d):Nat)) ∧ Below w.heap.size w w':=by
 have KS:=nshr_any a n c (limbs (A / Bd)) w (d:Int) h (limbs_ok _)
 have hsh:shrL (limbs (A / Bd)) (d:Int) = (limbs (A / Bd / 2 ^ d),0):=by
  unfold shrL
  rw [if_pos hM,if_pos ⟨by omega,by omega⟩,limbs_v,Int.toNat_natCast]
 rw [hsh] at KS
 have L0:=fun hb => db_down (A:=A) (B:=Bd) (d:=d) hB hd hb
 have L1:=fun hb hm => db_up (A:=A) (B:=Bd) (d:=d) hB hd hb hm
 have L2:=fun hb hm hz => db_even (A:=A) (B:=Bd) (d:=d) hB hd hb hm hz
 have LT:=fun (t:Nat) hb ht => db_tail (v:=A / Bd) (d:=d) (t:=t) hb ht
 obtain ⟨d1,hd1⟩:∃ d1,d - 1 = d1:=⟨_,rfl⟩
 have td:(d:Int) - 1 = (d1:Int):=by omega
 have KB:=fun (W:World) (hb:Below w.heap.size w W) => nbit_any a n c (limbs (A / Bd)) d1 W (h.below hb) (limbs_ok _) hM (by omega)
 have KT:=fun (W:World) (hb:Below w.heap.size w W) => ntail_any a n c (limbs (A / Bd)) W (h.below hb) (limbs_ok _) hM (hT.below hb)
 rw [hd1] at L0 L1 L2 LT
 have hbit:bitN (A / Bd) d1 = 0 ∨ bitN (A / Bd) d1 = 1:=by unfold bitN; omega
 obtain ⟨R,hR⟩:∃ R,rdQ A (Bd * 2 ^ d) = R:=⟨_,rfl⟩
 rw [hR] at L0 L1 L2 ⊢
 obtain ⟨Z,hZe⟩:∃ Z,A / Bd / 2 ^ d = Z:=⟨_,rfl⟩
 rw [hZe] at KS hZ L0 L1 L2
 obtain ⟨Q,hQ⟩:∃ Q,A / Bd = Q:=⟨_,rfl⟩
 rw [hQ] at KB KT L0 L1 L2 LT hbit
 rw [limbs_v] at KB
 have HKS:=Hd KS
 have HKB:=Hd KB
 have HKT:=Hd KT
 have hd1b:d1 ≤ 65536:=by omega
 clear h hM hB hd hd1 hT hsh hR hZe hQ KS KB KT
 rcases hbit with hb | hb
 ·rw [hb] at HKB
  have HR:=Hd (L0 hb)
  clear L0 L1 L2 LT hb
  go_enter Tryz.func77,Tryz.ntmps77
  go_wp2_with fail
  refine (Uh HKS).mono ?_
  rintro _ w1 ⟨a1,m1,c1,rfl,s1,n1,b1⟩
  dsimp only at s1
  have S1:=Hd (And.intro s1 b1)
  clear s1 n1 b1 HKS
  go_wp2_with fail
  refine (sure_any _ _ _).mono ?_
  rintro _ _ ⟨rfl,hw⟩
  obtain rfl:=hw.symm
  clear hw
  go_wp2_with fail
  refine (uint_any a1 m1 c1 Z (limbs Z) _ (Uh S1).1 (limbs_rep Z) (by omega)).mono ?_
  rintro _ _ ⟨rfl,hw⟩
  obtain rfl:=hw.symm
  clear hw
  go_wp2_with fail
  refine (Uh HKB _ (Uh S1).2).mono ?_
  rintro _ _ ⟨rfl,hw⟩
  obtain rfl:=hw.symm
  clear hw
  go_wp2_with fail
  go_ret
  rw [Uh HR]
  exact ⟨rfl,(Uh S1).2⟩
 ·rw [hb] at HKB
  cases mo
  ·have hm:A % Bd = 0:=by simpa using hmo
   have HE:=Hd (fun (t:Nat) (ht:IsTail Q t) (k:¬ t < d1) => L2 hb hm (by
    have h1:=(LT t hb ht).2
    by_cases e:Q % 2 ^ d1 = 0
    ·exact e
    ·exact absurd (h1 e) k))
   have HU:=Hd (fun (t:Nat) (ht:IsTail Q t) (k:t < d1) => L1 hb (.inr ((LT t hb ht).1 k)))
   have ha:=and_low1 (v:=Z) (by omega)
   obtain ⟨Z2,hZ2⟩:∃ z,Z % 2 = z:=⟨_,rfl⟩
   rw [hZ2] at ha HE
   have hZ2b:Z2 < 2:=by omega
   clear L0 L1 L2 LT hb hmo hm hZ2
   go_enter Tryz.func77,Tryz.ntmps77
   go_wp2_with fail
   refine (Uh HKS).mono ?_
   rintro _ w1 ⟨a1,m1,c1,rfl,s1,n1,b1⟩
   dsimp only at s1
   have S1:=Hd (And.intro s1 b1)
   clear s1 n1 b1 HKS
   go_wp2_with fail
   refine (sure_any _ _ _).mono ?_
   rintro _ _ ⟨rfl,hw⟩
   obtain rfl:=hw.symm
   clear hw
   go_wp2_with fail
   refine (uint_any a1 m1 c1 Z (limbs Z) _ (Uh S1).1 (limbs_rep Z) (by omega)).mono ?_
   rintro _ _ ⟨rfl,hw⟩
   obtain rfl:=hw.symm
   clear hw
   go_wp2_with fail
   refine (Uh HKB _ (Uh S1).2).mono ?_
   rintro _ _ ⟨rfl,hw⟩
   obtain rfl:=hw.symm
   clear hw
   go_wp2_with fail
   refine (Uh HKT _ (Uh S1).2).mono ?_
   rintro _ w2 ⟨t,ht,hT,rfl,jj,hw⟩
   rw [limbs_v] at hT
   have hb2:Below w.heap.size w w2:=by rw [hw]; exact bel_drewN (Uh S1).2 jj
   have HB2:=Hd hb2
   clear hw hb2
   by_cases k:t < d1
   ·have HR:=Hd (Uh HU t hT k)
    have tk:(t:Int) < (d1:Int):=by omega
    clear hT HE HU
    go_wp2_with fail
    go_ret
    rw [Uh HR]
    exact ⟨rfl,Uh HB2⟩
   ·have HR:=Hd (Uh HE t hT k)
    have tk:¬ (t:Int) < (d1:Int):=by omega
    clear hT HE HU
    go_wp2_with fail
    go_ret
    rw [Uh HR]
    exact ⟨rfl,Uh HB2⟩
  ·have hm:A % Bd ≠ 0:=by simpa using hmo
   have HR:=Hd (L1 hb (.inl hm))
   clear L0 L1 L2 LT hb hmo hm
   go_enter Tryz.func77,Tryz.ntmps77
   go_wp2_with fail
   refine (Uh HKS).mono ?_
   rintro _ w1 ⟨a1,m1,c1,rfl,s1,n1,b1⟩
   dsimp only at s1
   have S1:=Hd (And.intro s1 b1)
   clear s1 n1 b1 HKS
   go_wp2_with fail
   refine (sure_any _ _ _).mono ?_
   rintro _ _ ⟨rfl,hw⟩
   obtain rfl:=hw.symm
   clear hw
   go_wp2_with fail
   refine (uint_any a1 m1 c1 Z (limbs Z) _ (Uh S1).1 (limbs_rep Z) (by omega)).mono ?_
   rintro _ _ ⟨rfl,hw⟩
   obtain rfl:=hw.symm
   clear hw
   go_wp2_with fail
   refine (Uh HKB _ (Uh S1).2).mono ?_
   rintro _ _ ⟨rfl,hw⟩
   obtain rfl:=hw.symm
   clear hw
   go_wp2_with fail
   go_ret
   rw [Uh HR]
   exact ⟨rfl,(Uh S1).2⟩
theorem fl_wide {w:World} {a:Option Addr} {n c p q:Nat} {ps:List Pc} (h:Wide w a n c (p * q) ps) (hp:p < wD * wD) (hq:q < wD * wD):n ≤ 10:=by
 refine wide_len10 h ?_
 have h0:=wD_pos
 have h1:p * q < wD * wD * (wD * wD):=Nat.mul_lt_mul'' hp hq
 have e5:wD ^ 5 = wD * (wD * wD * (wD * wD)):=by rw [Nat.pow_succ,Nat.mul_comm]; simp only [Nat.pow_succ,Nat.pow_zero,Nat.one_mul,Nat.mul_assoc]
 rw [e5]
 exact Nat.lt_of_lt_of_le h1 (Nat.le_mul_of_pos_left _ h0)
structure FlP (X Y P Q U0 up dr:Nat):Prop where
 eq:dr + kB = U0 + up
 g:flG P Q = U0
 one:1 ≤ dr
 le:dr ≤ 65500
 upl:up ≤ 1075
 ul:U0 ≤ 66600
 m1:max ((P:Int) - (Q:Int) - 53) (-1074) = (U0:Int) - 1074
 m2:max 0 (1 - ((U0:Int) - 1074)) = (up:Int)
 ad:(U0:Int) - 1074 + (up:Int) = (dr:Int)
 sm:0 < up → dr = 1
theorem FlP.made (X Y P Q:Nat) (hP:P ≤ 65536) (hP1:1 ≤ P) (hQ1:1 ≤ Q):∃ U0 up dr,FlP X Y P Q U0 up dr:=by
 have hk:=kB_eq
 have hk2:flG P Q = P + 1074 - (Q + 53):=by unfold flG; rw [hk]
 by_cases h:1075 ≤ flG P Q
 ·refine ⟨flG P Q,0,flG P Q - 1074,?_⟩
  exact ⟨by omega,rfl,by omega,by omega,by omega,by omega,by omega,by omega,by omega,by omega⟩
 ·refine ⟨flG P Q,1075 - flG P Q,1,?_⟩
  exact ⟨by omega,rfl,by omega,by omega,by omega,by omega,by omega,by omega,by omega,by omega⟩
theorem FlP.fit {x y:List Nat} {P Q U0 up dr:Nat} (h:FlP (val x) (val y) P Q U0 up dr) (ox:Ok x) (kx:MayL x = true) (hX2:val x < 2 ^ P) (hY1:2 ^ Q ≤ val y * 2):(limbs (val x * 2 ^ up / val y)).length ≤ 2048:=by
 rcases Nat.eq_zero_or_pos up with e | e
 ·rw [e,Nat.pow_zero,Nat.mul_one]
  have:=limbs_mono (Nat.div_le_self (val x) (val y))
  rw [limbs_val ox (MayL.norm kx)] at this
  have:=MayL.len kx
  omega
 ·have h1:=fl_quot hX2 hY1 (h.g.symm ▸ h.eq:dr + kB = flG P Q + up)
  rw [h.sm e] at h1
  have h2:(2:Nat) ^ (54 + 1) < 4294967296 ^ 2:=by decide
  have:=limbs_len (Nat.lt_trans h1 h2)
  omega

set_option maxRecDepth 100000 in
set_option maxHeartbeats 16000000 in
theorem floatOfSize_nil (a b:Option Addr) (c m d:Nat) (w:World) :
  Calls Tryz.prog 34 #[.slice a 0 c,.slice b m d] w fun e w' => e = .returned (.int .u64 0) ∧ Below w.heap.size w w':=by
 go_enter Tryz.func34,Tryz.ntmps34
 go_wp2_with fail
 go_ret
 exact ⟨rfl,Below.refl _ _⟩

set_option maxRecDepth 100000 in
set_option maxHeartbeats 16000000 in
theorem floatOfSize_any (a b:Option Addr) (n c m d:Nat) (x y:List Nat) (w:World) (hx:Sl w a n c x) (hy:Sl w b m d y) (ox:Ok x) (oy:Ok y) (kx:MayL x = true) (ky:MayL y = true) (ex:x ≠ []) (ey:y ≠ []) (hT:Tab32 w) :
  Calls Tryz.prog 34 #[.slice a n c,.slice b m d] w fun e w' => e = .returned (.int .u64 ((flN (bitsN x) (bitsN y) (val x) (val y):Nat):Int)) ∧ Below w.heap.size w w':=by
 obtain ⟨x1,x2,x3,x4⟩:=bits_two ox kx ex
 obtain ⟨y1,y2,y3,y4⟩:=bits_two oy ky ey
 have vy:=val_pos_of_may ky ey
 obtain ⟨U0,up,dr,hP⟩:=FlP.made (val x) (val y) (bitsN x) (bitsN y) x4 x3 y3
 have hfit:=hP.fit ox kx x2 y1
 have hq:=fl_quot x2 y1 (hP.g.symm ▸ hP.eq:dr + kB = flG (bitsN x) (bitsN y) + up)
 have hcd:=fl_cond (X:=val x) (U0:=U0) vy hP.eq
 have hUc:=flU_cases (p:=bitsN x) (q:=bitsN y) (X:=val x) (Y:=val y)
 have hUd:flU (bitsN x) (bitsN y) (val x) (val y) = if 53 + dr < bitsN (limbs (val x * 2 ^ up / val y)) then U0 + 1 else U0:=by
  unfold flU
  rw [hP.g]
  by_cases k:53 + dr < bitsN (limbs (val x * 2 ^ up / val y))
  ·rw [if_pos k,if_pos (hcd.1 k)]
  ·rw [if_neg k,if_neg (fun k2 => k (hcd.2 k2))]
 have hDo:=fun (U D:Nat) (h:D + kB = U + up) => fl_done (X:=val x) (Y:=val y) h
 have hRb:=rdE_B x1 x2 y1 y2
 have hn:n ≤ 2048:=by have:=hx.len; have:=MayL.len kx; omega
 have hm:m ≤ 2048:=by have:=hy.len; have:=MayL.len ky; omega
 have hn0:((n:Int) == 0) = false:=by
  have h1:=hx.len
  have h2:x.length ≠ 0:=fun h => ex (List.length_eq_zero_iff.1 h)
  simp
  omega
 have hn1:¬ (n:Int) = 0:=by simpa using hn0
 have wx:=may_lt kx ox
 have KBX:=fun (W:World) (hb:Below w.heap.size w W) => nbits_any a n c x W (hx.below hb) ox kx
 have KBY:=fun (W:World) (hb:Below w.heap.size w W) => nbits_any b m d y W (hy.below hb) oy ky
 have HXs:=Hd (And.intro hx (And.intro kx wx))
 have HYs:=Hd (And.intro hy (And.intro ky ey))
 have HT:=Hd hT
 obtain ⟨P,hP0⟩:∃ P,bitsN x = P:=⟨_,rfl⟩
 obtain ⟨Q,hQ0⟩:∃ Q,bitsN y = Q:=⟨_,rfl⟩
 obtain ⟨X,hX⟩:∃ X,val x = X:=⟨_,rfl⟩
 obtain ⟨Y,hY⟩:∃ Y,val y = Y:=⟨_,rfl⟩
 rw [hX,hY] at hfit hq hDo
 rw [hP0] at KBX
 rw [hQ0] at KBY
 rw [hP0,hQ0,hX,hY] at hUd hRb ⊢
 rw [hP0,hQ0,hX,hY] at hP
 rw [hX] at HXs
 rw [hY] at vy
 obtain ⟨U,hU⟩:∃ U,flU P Q X Y = U:=⟨_,rfl⟩
 rw [hU] at hUd hRb
 obtain ⟨FN,hFN⟩:∃ F,flN P Q X Y = F:=⟨_,rfl⟩
 have hF1:2045 < U → FN = 9218868437227405312:=fun h => by rw [← hFN]; unfold flN; rw [hU,if_pos h]
 have hF2:¬ 2045 < U → FN = U * 4503599627370496 + rdE X Y U:=fun h => by rw [← hFN]; unfold flN; rw [hU,if_neg h]
 rw [hFN]
 have HF:=Hd (And.intro hF1 hF2)
 clear hFN hF1 hF2
 have hup2:=limbs_two_len up
 have hupl:=hP.upl
 have mU:MayL (limbs (2 ^ up)) = true:=MayL.mk (limbs_norm _) (by omega)
 have wu:=may_lt mU (limbs_ok _)
 rw [limbs_v] at wu
 have tm1:=hP.m1
 have tm2:=hP.m2
 have tad:=hP.ad
 have hul:=hP.ul
 have hdl:=hP.le
 have hd1:=hP.one
 have HP:=Hd hP
 have HKX:=Hd KBX
 have HKY:=Hd KBY
 have HV:=Hd (And.intro hX hY)
 have HW:=Hd (And.intro (Uh HXs).2.2 wu)
 have HM:=Hd (And.intro mU (MayL.mk (limbs_norm (X * 2 ^ up / Y)) hfit))
 have HQb:=Hd hq
 have HUd:=Hd hUd
 have HDo:=Hd hDo
 have HRb:=Hd hRb
 have HVy:=Hd vy
 rw [hP0] at x4
 rw [hQ0] at y4
 clear hx hy kx ky ex ey x1 x2 x3 y1 y2 y3 hP0 hQ0 hX hY hU hP hfit hq hcd hUc hUd hDo hRb wx wu mU vy KBX KBY hT hup2
 go_enter Tryz.func34,Tryz.ntmps34
 go_wp2_with fail
 refine (Uh HKX w (Below.refl _ _)).mono ?_
 rintro _ _ ⟨rfl,hw⟩
 obtain rfl:=hw.symm
 clear hw
 go_wp2_with fail
 refine (Uh HKY w (Below.refl _ _)).mono ?_
 rintro _ _ ⟨rfl,hw⟩
 obtain rfl:=hw.symm
 clear hw
 have HBE:=Hd (Below.refl w.heap.size w)
 clear HKX HKY
 go_wp2_with fail
 refine (ratOne_any _).mono ?_
 rintro _ w2 ⟨a2,m2,rfl,s2,n2,b2⟩
 have hl2:m2 = 1:=s2.len.symm
 subst hl2
 have KS:=nshl_any a2 1 1 [1] w2 (up:Int) s2 ok_unit
 have hsh:shlL [1] (up:Int) = (limbs (2 ^ up),0):=by
  unfold shlL fitL
  have h1:=limbs_two_len up
  rw [if_pos (by decide),if_pos ⟨by omega,by omega⟩,show val [1] = 1 from by decide,Nat.one_mul,Int.toNat_natCast,if_neg (by omega)]
 rw [hsh] at KS
 have HKS:=Hd KS
 have HB2:=Hd ((Uh HBE).trans (b2.mono (Uh HBE).size))
 clear KS hsh s2 n2 b2 HBE
 go_wp2_with fail
 refine (Uh HKS).mono ?_
 rintro _ w3 ⟨a3,m3,c3,rfl,s3,n3,b3⟩
 dsimp only at s3
 have HB3:=Hd ((Uh HB2).trans (b3.mono (Uh HB2).size))
 have S3:=Hd s3
 clear s3 n3 b3 HKS HB2
 go_wp2_with fail
 refine (sure_any _ _ _).mono ?_
 rintro _ _ ⟨rfl,hw⟩
 obtain rfl:=hw.symm
 clear hw
 have KP:=product_any a a3 n c m3 c3 x (limbs (2 ^ up)) w3 ((Uh HXs).1.below (Uh HB3)) (Uh S3) ox (limbs_ok _) (Uh HXs).2.1 (Uh HM).1
 rw [limbs_v,(Uh HV).1] at KP
 have HKP:=Hd KP
 clear KP
 go_wp2_with fail
 refine (Uh HKP).mono ?_
 rintro _ w4 ⟨ap,np,cp,pps,rfl,hWp,_,b4⟩
 have HP4:=Hd (And.intro hWp (fl_wide hWp (Uh HW).1 (Uh HW).2))
 have HB4:=Hd ((Uh HB3).trans (b4.mono (Uh HB3).size))
 clear hWp b4 HKP HB3 S3
 have KY:=by_any w4 w4 ap np cp (X * 2 ^ up) pps b m d y (Below.refl _ _) (Uh HP4).1 (Uh HP4).2 ((Uh HYs).1.below (Uh HB4)) oy (Uh HYs).2.1 (Uh HYs).2.2
 rw [(Uh HV).2] at KY
 have HKYy:=Hd KY
 clear KY
 go_wp2_with fail
 refine (Uh HKYy).mono ?_
 rintro _ w5 ⟨aw,nw,cw,pws,ar,mr,cr,rfl,hWw,_,sr,b5⟩
 have HB5:=Hd ((Uh HB4).trans (b5.mono (Uh HB4).size))
 have KN:=narrow_any aw nw cw _ pws w5 hWw
 rw [show fitL (X * 2 ^ up / Y) = (limbs (X * 2 ^ up / Y),0) from fitL_ok (by have:=MayL.len (Uh HM).2; omega)] at KN
 have HKN:=Hd KN
 have hmr:=limbs_len0 sr.len
 obtain ⟨mo,hmo⟩:∃ mo,decide (X * 2 ^ up % Y ≠ 0) = mo:=⟨_,rfl⟩
 rw [hmo] at hmr
 have tmo:decide ((0:Int) < (mr:Int)) = mo:=by rw [← hmr]; congr 1; exact propext (by omega)
 have HMO:=Hd hmo
 clear KN hWw sr b5 HKYy HP4 HB4 hmo
 go_wp2_with fail
 refine (Uh HKN).mono ?_
 rintro _ w6 ⟨aq,mq,cq,rfl,sq,nq,b6⟩
 dsimp only at sq
 have HB6:=Hd ((Uh HB5).trans (b6.mono (Uh HB5).size))
 have S6:=Hd sq
 clear sq nq b6 HKN HB5
 go_wp2_with fail
 refine (sure_any _ _ _).mono ?_
 rintro _ _ ⟨rfl,hw⟩
 obtain rfl:=hw.symm
 clear hw
 have KB:=nbits_any aq mq cq (limbs (X * 2 ^ up / Y)) w6 (Uh S6) (limbs_ok _) (Uh HM).2
 have hBl:=bitsN_le (limbs_ok (X * 2 ^ up / Y)) (MayL.len (Uh HM).2)
 obtain ⟨BV,hBV⟩:∃ B,bitsN (limbs (X * 2 ^ up / Y)) = B:=⟨_,rfl⟩
 have hUd:=Uh HUd
 rw [hBV] at KB hUd hBl
 have HKB:=Hd KB
 have hZ0:=Uh HQb
 clear KB hBV HUd
 by_cases hc:53 + dr < BV
 ·rw [if_pos hc] at hUd
  have tc:(53:Int) < (BV:Int) - (dr:Int):=by omega
  have tu:(U0:Int) - 1074 + 1 = (U:Int) - 1074:=by omega
  obtain ⟨D,hD⟩:∃ D,D = dr + 1:=⟨_,rfl⟩
  have tD:(dr:Int) + 1 = (D:Int):=by omega
  have hDl:D ≤ 65501:=by omega
  have HR:=Hd (Uh HDo U D (by have:=(Uh HP).eq; omega))
  have HZ:=Hd (show X * 2 ^ up / Y / 2 ^ D < 18014398509481984 from by
   have h1:X * 2 ^ up / Y / 2 ^ D ≤ X * 2 ^ up / Y / 2 ^ dr:=Nat.div_le_div_left (Nat.pow_le_pow_right (by decide) (by omega)) (Nat.two_pow_pos dr)
   have h2:X * 2 ^ up / Y / 2 ^ dr < 2 ^ 54:=by rw [Nat.div_lt_iff_lt_mul (Nat.two_pow_pos dr),← Nat.pow_add]; exact hZ0
   exact Nat.lt_of_le_of_lt h1 h2)
  have hUl:U ≤ 66601:=by omega
  have hD1:1 ≤ D:=by omega
  clear hUd hc hD hZ0
  by_cases hinf:2045 < U
  ·have HFv:=Hd ((Uh HF).1 hinf)
   have ti:(971:Int) < (U:Int) - 1074:=by omega
   go_wp2_with fail
   refine (Uh HKB).mono ?_
   rintro _ _ ⟨rfl,hw⟩
   obtain rfl:=hw.symm
   clear hw
   go_wp2_with fail
   go_ret
   rw [Uh HFv]
   exact ⟨rfl,Uh HB6⟩
  ·have hFv:=(Uh HF).2 hinf
   have ti:¬ (971:Int) < (U:Int) - 1074:=by omega
   have KD:=dropBits_any aq mq cq (X * 2 ^ up) Y D mo w6 (Uh S6) (Uh HM).2 (Uh HVy) hD1 (by omega) (Uh HMO) (Uh HZ) ((Uh HT).below (Uh HB6))
   rw [Uh HR] at KD
   have hRb:=Uh HRb
   obtain ⟨RV,hRV⟩:∃ R,rdE X Y U = R:=⟨_,rfl⟩
   rw [hRV] at KD hRb hFv
   have HFv:=Hd hFv
   clear hFv
   have HKD:=Hd KD
   have tU:(U:Int) - 1074 + 1074 = (U:Int):=by omega
   clear KD hRV HR
   go_wp2_with fail
   refine (Uh HKB).mono ?_
   rintro _ _ ⟨rfl,hw⟩
   obtain rfl:=hw.symm
   clear hw
   go_wp2_with fail
   refine (Uh HKD).mono ?_
   rintro _ w7 ⟨rfl,b7⟩
   have HB7:=Hd ((Uh HB6).trans (b7.mono (Uh HB6).size))
   clear b7 HKD
   go_wp2_with fail
   go_ret
   rw [Uh HFv]
   exact ⟨by (first | rfl | simp),Uh HB7⟩
 ·rw [if_neg hc] at hUd
  have tc:¬ (53:Int) < (BV:Int) - (dr:Int):=by omega
  have HR:=Hd (Uh HDo U dr (by have:=(Uh HP).eq; omega))
  have HZ:=Hd (show X * 2 ^ up / Y / 2 ^ dr < 18014398509481984 from by
   rw [Nat.div_lt_iff_lt_mul (Nat.two_pow_pos dr),show (18014398509481984:Nat) = 2 ^ 54 from rfl,← Nat.pow_add]; exact hZ0)
  have HUe:=Hd hUd
  clear hc hZ0 hUd
  by_cases hinf:2045 < U
  ·have HFv:=Hd ((Uh HF).1 hinf)
   have ti:(971:Int) < (U0:Int) - 1074:=by have:=Uh HUe; omega
   go_wp2_with fail
   refine (Uh HKB).mono ?_
   rintro _ _ ⟨rfl,hw⟩
   obtain rfl:=hw.symm
   clear hw
   go_wp2_with fail
   go_ret
   rw [Uh HFv]
   exact ⟨rfl,Uh HB6⟩
  ·have hFv:=(Uh HF).2 hinf
   have ti:¬ (971:Int) < (U0:Int) - 1074:=by have:=Uh HUe; omega
   have KD:=dropBits_any aq mq cq (X * 2 ^ up) Y dr mo w6 (Uh S6) (Uh HM).2 (Uh HVy) hd1 (by omega) (Uh HMO) (Uh HZ) ((Uh HT).below (Uh HB6))
   rw [Uh HR] at KD
   have hRb:=Uh HRb
   rw [Uh HUe] at KD hRb hinf hFv
   obtain ⟨RV,hRV⟩:∃ R,rdE X Y U0 = R:=⟨_,rfl⟩
   rw [hRV] at KD hRb hFv
   have HFv:=Hd hFv
   clear hFv
   have HKD:=Hd KD
   have tU:(U0:Int) - 1074 + 1074 = (U0:Int):=by omega
   clear KD hRV HR
   go_wp2_with fail
   refine (Uh HKB).mono ?_
   rintro _ _ ⟨rfl,hw⟩
   obtain rfl:=hw.symm
   clear hw
   go_wp2_with fail
   refine (Uh HKD).mono ?_
   rintro _ w7 ⟨rfl,b7⟩
   have HB7:=Hd ((Uh HB6).trans (b7.mono (Uh HB6).size))
   clear b7 HKD
   go_wp2_with fail
   go_ret
   rw [Uh HFv]
   exact ⟨by (first | rfl | simp),Uh HB7⟩
end Go.Proofs.YtlolnaegfponeaaGreatDoor
