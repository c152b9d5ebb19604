/- Rz8 -/
import Derived.Test.YtpbcnkcnjnefiaaGreatDoorRz7
import Derived.Test.YtpbcnkcnjnefiaaGreatDoorRs1
import Derived.Test.YtpbcnkcnjnefiaaGreatDoorWip
import Derived.Test.YtpbcnkcnjnefiaaGreatDoorWi9
import Derived.Test.YtpbcnkcnjnefiaaGreatDoorWi5
import Derived.Test.YtpbcnkcnjnefiaaGreatDoorWkb
import Derived.Lib.MinMax
namespace Go.Proofs.YtpbcnkcnjnefiaaGreatDoor
open Go.RowKit Go.Deep
set_option linter.unusedVariables false
theorem fl_wide {w:World} {a:Option Addr} {n c p q:Nat} {ps:List Pc} (h:Wide w a n c (p * q) ps) (hp:p < wD * wD) (hq:q < wD * wD):n ≤ 10:=by
 refine wide_len10 h ?_
 have h0:=wD_pos
 have h1:p * q < wD * wD * (wD * wD):=Nat.mul_lt_mul'' hp hq
 have e5:wD ^ 5 = wD * (wD * wD * (wD * wD)):=by rw [Nat.pow_succ,Nat.mul_comm]; simp only [Nat.pow_succ,Nat.pow_zero,Nat.one_mul,Nat.mul_assoc]
 rw [e5]
 exact Nat.lt_of_lt_of_le h1 (Nat.le_mul_of_pos_left _ h0)
structure FlP (X Y P Q U0 up dr:Nat):Prop where
 eq:dr + kB = U0 + up
 g:flG P Q = U0
 one:1 ≤ dr
 le:dr ≤ 65500
 upl:up ≤ 1075
 ul:U0 ≤ 66600
 m1:max ((P:Int) - (Q:Int) - 53) (-1074) = (U0:Int) - 1074
 m2:max 0 (1 - ((U0:Int) - 1074)) = (up:Int)
 ad:(U0:Int) - 1074 + (up:Int) = (dr:Int)
 sm:0 < up → dr = 1
theorem FlP.made (X Y P Q:Nat) (hP:P ≤ 65536) (hP1:1 ≤ P) (hQ1:1 ≤ Q):∃ U0 up dr,FlP X Y P Q U0 up dr:=by
 have hk:=kB_eq
 have hk2:flG P Q = P + 1074 - (Q + 53):=by unfold flG; rw [hk]
 by_cases h:1075 ≤ flG P Q
 ·refine ⟨flG P Q,0,flG P Q - 1074,?_⟩
  exact ⟨by omega,rfl,by omega,by omega,by omega,by omega,by omega,by omega,by omega,by omega⟩
 ·refine ⟨flG P Q,1075 - flG P Q,1,?_⟩
  exact ⟨by omega,rfl,by omega,by omega,by omega,by omega,by omega,by omega,by omega,by omega⟩
theorem FlP.fit {x y:List Nat} {P Q U0 up dr:Nat} (h:FlP (val x) (val y) P Q U0 up dr) (ox:Ok x) (kx:MayL x = true) (hX2:val x < 2 ^ P) (hY1:2 ^ Q ≤ val y * 2):(limbs (val x * 2 ^ up / val y)).length ≤ 2048:=by
 rcases Nat.eq_zero_or_pos up with e | e
 ·rw [e,Nat.pow_zero,Nat.mul_one]
  have:=limbs_mono (Nat.div_le_self (val x) (val y))
  rw [limbs_val ox (MayL.norm kx)] at this
  have:=MayL.len kx
  omega
 ·have h1:=fl_quot hX2 hY1 (h.g.symm ▸ h.eq:dr + kB = flG P Q + up)
  rw [h.sm e] at h1
  have h2:(2:Nat) ^ (54 + 1) < 4294967296 ^ 2:=by decide
  have:=limbs_len (Nat.lt_trans h1 h2)
  omega

set_option maxRecDepth 100000 in
set_option maxHeartbeats 16000000 in
theorem floatOfSize_nil (a b:Option Addr) (c m d:Nat) (w:World) :
  Calls Tryz.prog 47 #[.slice a 0 c,.slice b m d] w fun e w' => e = .returned (.int .u64 0) ∧ Below w.heap.size w w':=by
 go_enter Tryz.func47,Tryz.ntmps47
 go_wp2_with fail
 go_ret
 exact ⟨rfl,Below.refl _ _⟩

set_option maxRecDepth 100000 in
set_option maxHeartbeats 16000000 in
theorem floatOfSize_any (a b:Option Addr) (n c m d:Nat) (x y:List Nat) (w:World) (hx:Sl w a n c x) (hy:Sl w b m d y) (ox:Ok x) (oy:Ok y) (kx:MayL x = true) (ky:MayL y = true) (ex:x ≠ []) (ey:y ≠ []) (hT:Tab32 w) :
  Calls Tryz.prog 47 #[.slice a n c,.slice b m d] w fun e w' => e = .returned (.int .u64 ((flN (bitsN x) (bitsN y) (val x) (val y):Nat):Int)) ∧ Below w.heap.size w w':=by
 obtain ⟨x1,x2,x3,x4⟩:=bits_two ox kx ex
 obtain ⟨y1,y2,y3,y4⟩:=bits_two oy ky ey
 have vy:=val_pos_of_may ky ey
 obtain ⟨U0,up,dr,hP⟩:=FlP.made (val x) (val y) (bitsN x) (bitsN y) x4 x3 y3
 have hfit:=hP.fit ox kx x2 y1
 have hq:=fl_quot x2 y1 (hP.g.symm ▸ hP.eq:dr + kB = flG (bitsN x) (bitsN y) + up)
 have hcd:=fl_cond (X:=val x) (U0:=U0) vy hP.eq
 have hUc:=flU_cases (p:=bitsN x) (q:=bitsN y) (X:=val x) (Y:=val y)
 have hUd:flU (bitsN x) (bitsN y) (val x) (val y) = if 53 + dr < bitsN (limbs (val x * 2 ^ up / val y)) then U0 + 1 else U0:=by
  unfold flU
  rw [hP.g]
  by_cases k:53 + dr < bitsN (limbs (val x * 2 ^ up / val y))
  ·rw [if_pos k,if_pos (hcd.1 k)]
  ·rw [if_neg k,if_neg (fun k2 => k (hcd.2 k2))]
 have hDo:=fun (U D:Nat) (h:D + kB = U + up) => fl_done (X:=val x) (Y:=val y) h
 have hRb:=rdE_B x1 x2 y1 y2
 have hn:n ≤ 2048:=by have:=hx.len; have:=MayL.len kx; omega
 have hm:m ≤ 2048:=by have:=hy.len; have:=MayL.len ky; omega
 have hn0:((n:Int) == 0) = false:=by
  have h1:=hx.len
  have h2:x.length ≠ 0:=fun h => ex (List.length_eq_zero_iff.1 h)
  simp
  omega
 have hn1:¬ (n:Int) = 0:=by simpa using hn0
 have wx:=may_lt kx ox
 have KBX:=fun (W:World) (hb:Below w.heap.size w W) => nbits_any a n c x W (hx.below hb) ox kx
 have KBY:=fun (W:World) (hb:Below w.heap.size w W) => nbits_any b m d y W (hy.below hb) oy ky
 have HXs:=Hd (And.intro hx (And.intro kx wx))
 have HYs:=Hd (And.intro hy (And.intro ky ey))
 have HT:=Hd hT
 obtain ⟨P,hP0⟩:∃ P,bitsN x = P:=⟨_,rfl⟩
 obtain ⟨Q,hQ0⟩:∃ Q,bitsN y = Q:=⟨_,rfl⟩
 obtain ⟨X,hX⟩:∃ X,val x = X:=⟨_,rfl⟩
 obtain ⟨Y,hY⟩:∃ Y,val y = Y:=⟨_,rfl⟩
 rw [hX,hY] at hfit hq hDo
 rw [hP0] at KBX
 rw [hQ0] at KBY
 rw [hP0,hQ0,hX,hY] at hUd hRb ⊢
 rw [hP0,hQ0,hX,hY] at hP
 rw [hX] at HXs
 rw [hY] at vy
 obtain ⟨U,hU⟩:∃ U,flU P Q X Y = U:=⟨_,rfl⟩
 rw [hU] at hUd hRb
 obtain ⟨FN,hFN⟩:∃ F,flN P Q X Y = F:=⟨_,rfl⟩
 have hF1:2045 < U → FN = 9218868437227405312:=fun h => by rw [← hFN]; unfold flN; rw [hU,if_pos h]
 have hF2:¬ 2045 < U → FN = U * 4503599627370496 + rdE X Y U:=fun h => by rw [← hFN]; unfold flN; rw [hU,if_neg h]
 rw [hFN]
 have HF:=Hd (And.intro hF1 hF2)
 clear hFN hF1 hF2
 have hup2:=limbs_two_len up
 have hupl:=hP.upl
 have mU:MayL (limbs (2 ^ up)) = true:=MayL.mk (limbs_norm _) (by omega)
 have wu:=may_lt mU (limbs_ok _)
 rw [limbs_v] at wu
 have tm1:=hP.m1
 have tm2:=hP.m2
 have tad:=hP.ad
 have hul:=hP.ul
 have hdl:=hP.le
 have hd1:=hP.one
 have HP:=Hd hP
 have HKX:=Hd KBX
 have HKY:=Hd KBY
 have HV:=Hd (And.intro hX hY)
 have HW:=Hd (And.intro (Uh HXs).2.2 wu)
 have HM:=Hd (And.intro mU (MayL.mk (limbs_norm (X * 2 ^ up / Y)) hfit))
 have HQb:=Hd hq
 have HUd:=Hd hUd
 have HDo:=Hd hDo
 have HRb:=Hd hRb
 have HVy:=Hd vy
 rw [hP0] at x4
 rw [hQ0] at y4
 clear hx hy kx ky ex ey x1 x2 x3 y1 y2 y3 hP0 hQ0 hX hY hU hP hfit hq hcd hUc hUd hDo hRb wx wu mU vy KBX KBY hT hup2
 go_enter Tryz.func47,Tryz.ntmps47
 go_wp2_with fail
 refine (Uh HKX w (Below.refl _ _)).mono ?_
 rintro _ _ ⟨rfl,hw⟩
 obtain rfl:=hw.symm
 clear hw
 go_wp2_with fail
 refine (Uh HKY w (Below.refl _ _)).mono ?_
 rintro _ _ ⟨rfl,hw⟩
 obtain rfl:=hw.symm
 clear hw
 have HBE:=Hd (Below.refl w.heap.size w)
 clear HKX HKY
 go_wp2_with fail
 refine (ratOne_any _).mono ?_
 rintro _ w2 ⟨a2,m2,rfl,s2,n2,b2⟩
 have hl2:m2 = 1:=s2.len.symm
 subst hl2
 have KS:=nshl_any a2 1 1 [1] w2 (up:Int) s2 ok_unit
 have hsh:shlL [1] (up:Int) = (limbs (2 ^ up),0):=by
  unfold shlL fitL
  have h1:=limbs_two_len up
  rw [if_pos (by decide),if_pos ⟨by omega,by omega⟩,show val [1] = 1 from by decide,Nat.one_mul,Int.toNat_natCast,if_neg (by omega)]
 rw [hsh] at KS
 have HKS:=Hd KS
 have HB2:=Hd ((Uh HBE).trans (b2.mono (Uh HBE).size))
 clear KS hsh s2 n2 b2 HBE
 go_wp2_with fail
 refine (Uh HKS).mono ?_
 rintro _ w3 ⟨a3,m3,c3,rfl,s3,n3,b3⟩
 dsimp only at s3
 have HB3:=Hd ((Uh HB2).trans (b3.mono (Uh HB2).size))
 have S3:=Hd s3
 clear s3 n3 b3 HKS HB2
 go_wp2_with fail
 refine (sure_any _ _ _).mono ?_
 rintro _ _ ⟨rfl,hw⟩
 obtain rfl:=hw.symm
 clear hw
 have KP:=product_any a a3 n c m3 c3 x (limbs (2 ^ up)) w3 ((Uh HXs).1.below (Uh HB3)) (Uh S3) ox (limbs_ok _) (Uh HXs).2.1 (Uh HM).1
 rw [limbs_v,(Uh HV).1] at KP
 have HKP:=Hd KP
 clear KP
 go_wp2_with fail
 refine (Uh HKP).mono ?_
 rintro _ w4 ⟨ap,np,cp,pps,rfl,hWp,_,b4⟩
 have HP4:=Hd (And.intro hWp (fl_wide hWp (Uh HW).1 (Uh HW).2))
 have HB4:=Hd ((Uh HB3).trans (b4.mono (Uh HB3).size))
 clear hWp b4 HKP HB3 S3
 have KY:=by_any w4 w4 ap np cp (X * 2 ^ up) pps b m d y (Below.refl _ _) (Uh HP4).1 (Uh HP4).2 ((Uh HYs).1.below (Uh HB4)) oy (Uh HYs).2.1 (Uh HYs).2.2
 rw [(Uh HV).2] at KY
 have HKYy:=Hd KY
 clear KY
 go_wp2_with fail
 refine (Uh HKYy).mono ?_
 rintro _ w5 ⟨aw,nw,cw,pws,ar,mr,cr,rfl,hWw,_,sr,b5⟩
 have HB5:=Hd ((Uh HB4).trans (b5.mono (Uh HB4).size))
 have KN:=narrow_any aw nw cw _ pws w5 hWw
 rw [show fitL (X * 2 ^ up / Y) = (limbs (X * 2 ^ up / Y),0) from fitL_ok (by have:=MayL.len (Uh HM).2; omega)] at KN
 have HKN:=Hd KN
 have hmr:=limbs_len0 sr.len
 obtain ⟨mo,hmo⟩:∃ mo,decide (X * 2 ^ up % Y ≠ 0) = mo:=⟨_,rfl⟩
 rw [hmo] at hmr
 have tmo:decide ((0:Int) < (mr:Int)) = mo:=by rw [← hmr]; congr 1; exact propext (by omega)
 have HMO:=Hd hmo
 clear KN hWw sr b5 HKYy HP4 HB4 hmo
 go_wp2_with fail
 refine (Uh HKN).mono ?_
 rintro _ w6 ⟨aq,mq,cq,rfl,sq,nq,b6⟩
 dsimp only at sq
 have HB6:=Hd ((Uh HB5).trans (b6.mono (Uh HB5).size))
 have S6:=Hd sq
 clear sq nq b6 HKN HB5
 go_wp2_with fail
 refine (sure_any _ _ _).mono ?_
 rintro _ _ ⟨rfl,hw⟩
 obtain rfl:=hw.symm
 clear hw
 have KB:=nbits_any aq mq cq (limbs (X * 2 ^ up / Y)) w6 (Uh S6) (limbs_ok _) (Uh HM).2
 have hBl:=bitsN_le (limbs_ok (X * 2 ^ up / Y)) (MayL.len (Uh HM).2)
 obtain ⟨BV,hBV⟩:∃ B,bitsN (limbs (X * 2 ^ up / Y)) = B:=⟨_,rfl⟩
 have hUd:=Uh HUd
 rw [hBV] at KB hUd hBl
 have HKB:=Hd KB
 have hZ0:=Uh HQb
 clear KB hBV HUd
 by_cases hc:53 + dr < BV
 ·rw [if_pos hc] at hUd
  have tc:(53:Int) < (BV:Int) - (dr:Int):=by omega
  have tu:(U0:Int) - 1074 + 1 = (U:Int) - 1074:=by omega
  obtain ⟨D,hD⟩:∃ D,D = dr + 1:=⟨_,rfl⟩
  have tD:(dr:Int) + 1 = (D:Int):=by omega
  have hDl:D ≤ 65501:=by omega
  have HR:=Hd (Uh HDo U D (by have:=(Uh HP).eq; omega))
  have HZ:=Hd (show X * 2 ^ up / Y / 2 ^ D < 18014398509481984 from by
   have h1:X * 2 ^ up / Y / 2 ^ D ≤ X * 2 ^ up / Y / 2 ^ dr:=Nat.div_le_div_left (Nat.pow_le_pow_right (by decide) (by omega)) (Nat.two_pow_pos dr)
   have h2:X * 2 ^ up / Y / 2 ^ dr < 2 ^ 54:=by rw [Nat.div_lt_iff_lt_mul (Nat.two_pow_pos dr),← Nat.pow_add]; exact hZ0
   exact Nat.lt_of_le_of_lt h1 h2)
  have hUl:U ≤ 66601:=by omega
  have hD1:1 ≤ D:=by omega
  clear hUd hc hD hZ0
  by_cases hinf:2045 < U
  ·have HFv:=Hd ((Uh HF).1 hinf)
   have ti:(971:Int) < (U:Int) - 1074:=by omega
   go_wp2_with fail
   refine (Uh HKB).mono ?_
   rintro _ _ ⟨rfl,hw⟩
   obtain rfl:=hw.symm
   clear hw
   go_wp2_with fail
   go_ret
   rw [Uh HFv]
   exact ⟨rfl,Uh HB6⟩
  ·have hFv:=(Uh HF).2 hinf
   have ti:¬ (971:Int) < (U:Int) - 1074:=by omega
   have KD:=dropBits_any aq mq cq (X * 2 ^ up) Y D mo w6 (Uh S6) (Uh HM).2 (Uh HVy) hD1 (by omega) (Uh HMO) (Uh HZ) ((Uh HT).below (Uh HB6))
   rw [Uh HR] at KD
   have hRb:=Uh HRb
   obtain ⟨RV,hRV⟩:∃ R,rdE X Y U = R:=⟨_,rfl⟩
   rw [hRV] at KD hRb hFv
   have HFv:=Hd hFv
   clear hFv
   have HKD:=Hd KD
   have tU:(U:Int) - 1074 + 1074 = (U:Int):=by omega
   clear KD hRV HR
   go_wp2_with fail
   refine (Uh HKB).mono ?_
   rintro _ _ ⟨rfl,hw⟩
   obtain rfl:=hw.symm
   clear hw
   go_wp2_with fail
   refine (Uh HKD).mono ?_
   rintro _ w7 ⟨rfl,b7⟩
   have HB7:=Hd ((Uh HB6).trans (b7.mono (Uh HB6).size))
   clear b7 HKD
   go_wp2_with fail
   go_ret
   rw [Uh HFv]
   exact ⟨by (first | rfl | simp),Uh HB7⟩
 ·rw [if_neg hc] at hUd
  have tc:¬ (53:Int) < (BV:Int) - (dr:Int):=by omega
  have HR:=Hd (Uh HDo U dr (by have:=(Uh HP).eq; omega))
  have HZ:=Hd (show X * 2 ^ up / Y / 2 ^ dr < 18014398509481984 from by
   rw [Nat.div_lt_iff_lt_mul (Nat.two_pow_pos dr),show (18014398509481984:Nat) = 2 ^ 54 from rfl,← Nat.pow_add]; exact hZ0)
  have HUe:=Hd hUd
  clear hc hZ0 hUd
  by_cases hinf:2045 < U
  ·have HFv:=Hd ((Uh HF).1 hinf)
   have ti:(971:Int) < (U0:Int) - 1074:=by have:=Uh HUe; omega
   go_wp2_with fail
   refine (Uh HKB).mono ?_
   rintro _ _ ⟨rfl,hw⟩
   obtain rfl:=hw.symm
   clear hw
   go_wp2_with fail
   go_ret
   rw [Uh HFv]
   exact ⟨rfl,Uh HB6⟩
  ·have hFv:=(Uh HF).2 hinf
   have ti:¬ (971:Int) < (U0:Int) - 1074:=by have:=Uh HUe; omega
   have KD:=dropBits_any aq mq cq (X * 2 ^ up) Y dr mo w6 (Uh S6) (Uh HM).2 (Uh HVy) hd1 (by omega) (Uh HMO) (Uh HZ) ((Uh HT).below (Uh HB6))
   rw [Uh HR] at KD
   have hRb:=Uh HRb
   rw [Uh HUe] at KD hRb hinf hFv
   obtain ⟨RV,hRV⟩:∃ R,rdE X Y U0 = R:=⟨_,rfl⟩
   rw [hRV] at KD hRb hFv
   have HFv:=Hd hFv
   clear hFv
   have HKD:=Hd KD
   have tU:(U0:Int) - 1074 + 1074 = (U0:Int):=by omega
   clear KD hRV HR
   go_wp2_with fail
   refine (Uh HKB).mono ?_
   rintro _ _ ⟨rfl,hw⟩
   obtain rfl:=hw.symm
   clear hw
   go_wp2_with fail
   refine (Uh HKD).mono ?_
   rintro _ w7 ⟨rfl,b7⟩
   have HB7:=Hd ((Uh HB6).trans (b7.mono (Uh HB6).size))
   clear b7 HKD
   go_wp2_with fail
   go_ret
   rw [Uh HFv]
   exact ⟨by (first | rfl | simp),Uh HB7⟩
theorem or_top2 {v:Nat} (h:v < 9223372036854775808):bits .or .u64 (v:Int) 9223372036854775808 = ((9223372036854775808 + v:Nat):Int):=by
 have h1:=u64_or_nat v 9223372036854775808 (by omega) (by decide)
 have h2:v ||| 9223372036854775808 = 9223372036854775808 + v:=by
  have:=Nat.two_pow_add_eq_or_of_lt (i:=63) (b:=v) (by omega) 1
  rw [Nat.or_comm]
  simpa using this.symm
 rw [h2] at h1
 exact h1
theorem flN_lt {x y:List Nat} (ox:Ok x) (oy:Ok y) (kx:MayL x = true) (ky:MayL y = true) (ex:x ≠ []) (ey:y ≠ []):flN (bitsN x) (bitsN y) (val x) (val y) < 9223372036854775808:=by
 obtain ⟨x1,x2,x3,x4⟩:=bits_two ox kx ex
 obtain ⟨y1,y2,y3,y4⟩:=bits_two oy ky ey
 have h:=rdE_B x1 x2 y1 y2
 unfold flN
 split <;> omega
set_option maxRecDepth 100000 in
set_option maxHeartbeats 16000000 in
theorem rfloat_no (g:Bool) (a b:Option Addr) (n c m d:Nat) (x y:List Nat) (w:World) (hx:Sl w a n c x) (hy:Sl w b m d y) (ox:Ok x) (oy:Ok y) (hT:Tab64 w) (k1:MayR g x y = false) :
  Calls Tryz.prog 16 #[ratV g a n c b m d] w fun e w' => e = .returned (.tuple #[.int .u64 (((FlF g x y).1:Nat):Int),.int .i64 (FlF g x y).2]) ∧ Below w.heap.size w w':=by
 have bx:=Box.made w g a n c b m d
 obtain ⟨wa,hwa⟩:∃ wa,ratBox w g a n c b m d = wa:=⟨_,rfl⟩
 rw [hwa] at bx
 unfold ratBox at hwa
 have hba:=bx.bel
 have p0:=bx.d0
 have p1:=bx.d1
 have p2:=bx.d2
 have hF:FlF g x y = (0,40):=by unfold FlF; rw [k1]; rfl
 rw [hF]
 have K1:=ratMay_any g a b n c m d x y wa (hx.below hba) (hy.below hba) ox oy (hT.below hba)
 rw [k1] at K1
 have HK1:=Hd K1
 have HBa:=Hd hba
 clear K1 hx hy bx hba hT k1 hF
 unfold ratV at HK1 ⊢
 go_enter Tryz.func16,Tryz.ntmps16
 go_wp2_with fail
 refine (Uh HK1).mono ?_
 rintro _ w3 ⟨rfl,b3⟩
 have HB3:=Hd b3
 clear b3
 go_wp2_with fail
 go_ret2
 exact ⟨rfl,(Uh HBa).trans ((Uh HB3).mono (Uh HBa).size)⟩
set_option maxRecDepth 100000 in
set_option maxHeartbeats 16000000 in
theorem rfloat_fz (a b:Option Addr) (n c m d:Nat) (x y:List Nat) (w:World) (hx:Sl w a n c x) (hy:Sl w b m d y) (ox:Ok x) (oy:Ok y) (hT:Tab64 w) (hT2:Tab32 w) (k1:MayR false x y = true) (ex:x = []) :
  Calls Tryz.prog 16 #[ratV false a n c b m d] w fun e w' => e = .returned (.tuple #[.int .u64 (((FlF false x y).1:Nat):Int),.int .i64 (FlF false x y).2]) ∧ Below w.heap.size w w':=by
 have bx:=Box.made w false a n c b m d
 obtain ⟨wa,hwa⟩:∃ wa,ratBox w false a n c b m d = wa:=⟨_,rfl⟩
 rw [hwa] at bx
 unfold ratBox at hwa
 have hba:=bx.bel
 have p0:=bx.d0
 have p1:=bx.d1
 have p2:=bx.d2
 have hF:FlF false x y = (0 + 0,0):=by unfold FlF; rw [if_pos k1,if_pos ex]; rfl
 rw [hF]
 clear hF
 dsimp only
 have K1:=ratMay_any false a b n c m d x y wa (hx.below hba) (hy.below hba) ox oy (hT.below hba)
 rw [k1] at K1
 obtain ⟨kx,ky,ey,_,_⟩:=MayR.parts k1
 have hn:n = 0:=by have:=hx.len; rw [ex] at this; simpa using this.symm
 subst hn
 have HKF:=Hd (fun (W:World) (hb:Below wa.heap.size wa W) => floatOfSize_nil a b c m d W)
 have HK1:=Hd K1
 have HBa:=Hd hba
 clear K1 hx hy bx hba hT hT2 k1 kx ky ey ex
 unfold ratV at HK1 ⊢
 go_enter Tryz.func16,Tryz.ntmps16
 go_wp2_with fail
 refine (Uh HK1).mono ?_
 rintro _ w3 ⟨rfl,b3⟩
 have q0:=(ck b3 p0)
 have q1:=(ck b3 p1)
 have q2:=(ck b3 p2)
 have HB3:=Hd b3
 clear b3 p0 p1 p2
 go_wp2_with fail
 refine (Uh HKF _ (Uh HB3)).mono ?_
 rintro _ w4 ⟨rfl,b4⟩
 have r0:=(ck b4 q0)
 have HB4:=Hd ((Uh HB3).trans (b4.mono (Uh HB3).size))
 clear b4 HKF q0 q1 q2
 go_wp2_with fail
 go_ret2
 exact ⟨by simp,(Uh HBa).trans ((Uh HB4).mono (Uh HBa).size)⟩
set_option maxRecDepth 100000 in
set_option maxHeartbeats 16000000 in
theorem rfloat_fp (a b:Option Addr) (n c m d:Nat) (x y:List Nat) (w:World) (hx:Sl w a n c x) (hy:Sl w b m d y) (ox:Ok x) (oy:Ok y) (hT:Tab64 w) (hT2:Tab32 w) (k1:MayR false x y = true) (ex:x ≠ []) :
  Calls Tryz.prog 16 #[ratV false a n c b m d] w fun e w' => e = .returned (.tuple #[.int .u64 (((FlF false x y).1:Nat):Int),.int .i64 (FlF false x y).2]) ∧ Below w.heap.size w w':=by
 have bx:=Box.made w false a n c b m d
 obtain ⟨wa,hwa⟩:∃ wa,ratBox w false a n c b m d = wa:=⟨_,rfl⟩
 rw [hwa] at bx
 unfold ratBox at hwa
 have hba:=bx.bel
 have p0:=bx.d0
 have p1:=bx.d1
 have p2:=bx.d2
 have hF:FlF false x y = (0 + flN (bitsN x) (bitsN y) (val x) (val y),0):=by unfold FlF; rw [if_pos k1,if_neg ex]; rfl
 rw [hF]
 clear hF
 dsimp only
 have K1:=ratMay_any false a b n c m d x y wa (hx.below hba) (hy.below hba) ox oy (hT.below hba)
 rw [k1] at K1
 obtain ⟨kx,ky,ey,_,_⟩:=MayR.parts k1
 have HKF:=Hd (fun (W:World) (hb:Below wa.heap.size wa W) => floatOfSize_any a b n c m d x y W ((hx.below hba).below hb) ((hy.below hba).below hb) ox oy kx ky ex ey ((hT2.below hba).below hb))
 obtain ⟨F,hF⟩:∃ F,flN (bitsN x) (bitsN y) (val x) (val y) = F:=⟨_,rfl⟩
 have hFb:F < 9223372036854775808:=by rw [← hF]; exact flN_lt ox oy kx ky ex ey
 rw [hF] at HKF ⊢
 clear hF
 have HK1:=Hd K1
 have HBa:=Hd hba
 clear K1 hx hy bx hba hT hT2 k1 kx ky ey ex
 unfold ratV at HK1 ⊢
 go_enter Tryz.func16,Tryz.ntmps16
 go_wp2_with fail
 refine (Uh HK1).mono ?_
 rintro _ w3 ⟨rfl,b3⟩
 have q0:=(ck b3 p0)
 have q1:=(ck b3 p1)
 have q2:=(ck b3 p2)
 have HB3:=Hd b3
 clear b3 p0 p1 p2
 go_wp2_with fail
 refine (Uh HKF _ (Uh HB3)).mono ?_
 rintro _ w4 ⟨rfl,b4⟩
 have r0:=(ck b4 q0)
 have HB4:=Hd ((Uh HB3).trans (b4.mono (Uh HB3).size))
 clear b4 HKF q0 q1 q2
 go_wp2_with fail
 go_ret2
 exact ⟨by simp,(Uh HBa).trans ((Uh HB4).mono (Uh HBa).size)⟩
set_option maxRecDepth 100000 in
set_option maxHeartbeats 16000000 in
theorem rfloat_tp (a b:Option Addr) (n c m d:Nat) (x y:List Nat) (w:World) (hx:Sl w a n c x) (hy:Sl w b m d y) (ox:Ok x) (oy:Ok y) (hT:Tab64 w) (hT2:Tab32 w) (k1:MayR true x y = true) (ex:x ≠ []) :
  Calls Tryz.prog 16 #[ratV true a n c b m d] w fun e w' => e = .returned (.tuple #[.int .u64 (((FlF true x y).1:Nat):Int),.int .i64 (FlF true x y).2]) ∧ Below w.heap.size w w':=by
 have bx:=Box.made w true a n c b m d
 obtain ⟨wa,hwa⟩:∃ wa,ratBox w true a n c b m d = wa:=⟨_,rfl⟩
 rw [hwa] at bx
 unfold ratBox at hwa
 have hba:=bx.bel
 have p0:=bx.d0
 have p1:=bx.d1
 have p2:=bx.d2
 have hF:FlF true x y = (9223372036854775808 + flN (bitsN x) (bitsN y) (val x) (val y),0):=by unfold FlF; rw [if_pos k1,if_neg ex]; rfl
 rw [hF]
 clear hF
 dsimp only
 have K1:=ratMay_any true a b n c m d x y wa (hx.below hba) (hy.below hba) ox oy (hT.below hba)
 rw [k1] at K1
 obtain ⟨kx,ky,ey,_,_⟩:=MayR.parts k1
 have HKF:=Hd (fun (W:World) (hb:Below wa.heap.size wa W) => floatOfSize_any a b n c m d x y W ((hx.below hba).below hb) ((hy.below hba).below hb) ox oy kx ky ex ey ((hT2.below hba).below hb))
 obtain ⟨F,hF⟩:∃ F,flN (bitsN x) (bitsN y) (val x) (val y) = F:=⟨_,rfl⟩
 have hFb:F < 9223372036854775808:=by rw [← hF]; exact flN_lt ox oy kx ky ex ey
 rw [hF] at HKF ⊢
 clear hF
 have hor:=or_top2 hFb
 have HK1:=Hd K1
 have HBa:=Hd hba
 clear K1 hx hy bx hba hT hT2 k1 kx ky ey ex
 unfold ratV at HK1 ⊢
 go_enter Tryz.func16,Tryz.ntmps16
 go_wp2_with fail
 refine (Uh HK1).mono ?_
 rintro _ w3 ⟨rfl,b3⟩
 have q0:=(ck b3 p0)
 have q1:=(ck b3 p1)
 have q2:=(ck b3 p2)
 have HB3:=Hd b3
 clear b3 p0 p1 p2
 go_wp2_with fail
 refine (Uh HKF _ (Uh HB3)).mono ?_
 rintro _ w4 ⟨rfl,b4⟩
 have r0:=(ck b4 q0)
 have HB4:=Hd ((Uh HB3).trans (b4.mono (Uh HB3).size))
 clear b4 HKF q0 q1 q2
 go_wp2_with fail
 go_ret2
 exact ⟨by go_num,(Uh HBa).trans ((Uh HB4).mono (Uh HBa).size)⟩
theorem rfloat_any (g:Bool) (a b:Option Addr) (n c m d:Nat) (x y:List Nat) (w:World) (hx:Sl w a n c x) (hy:Sl w b m d y) (ox:Ok x) (oy:Ok y) (hT:Tab64 w) (hT2:Tab32 w) :
  Calls Tryz.prog 16 #[ratV g a n c b m d] w fun e w' => e = .returned (.tuple #[.int .u64 (((FlF g x y).1:Nat):Int),.int .i64 (FlF g x y).2]) ∧ Below w.heap.size w w':=by
 cases k1:MayR g x y
 ·exact rfloat_no g a b n c m d x y w hx hy ox oy hT k1
 ·by_cases ex:x = []
  ·cases g
   ·exact rfloat_fz a b n c m d x y w hx hy ox oy hT hT2 k1 ex
   ·exfalso
    unfold MayR at k1
    rw [ex] at k1
    simp at k1
  ·cases g
   ·exact rfloat_fp a b n c m d x y w hx hy ox oy hT hT2 k1 ex
   ·exact rfloat_tp a b n c m d x y w hx hy ox oy hT hT2 k1 ex
end Go.Proofs.YtpbcnkcnjnefiaaGreatDoor
