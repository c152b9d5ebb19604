/- Rz3 -/
import Derived.Test.YtpbcnkcnjnefiaaGreatDoorRz2
import Derived.Test.YtpbcnkcnjnefiaaGreatDoorRa6
import Derived.Test.YtpbcnkcnjnefiaaGreatDoorPw1
import Derived.Test.YtpbcnkcnjnefiaaGreatDoorShr
import Derived.Test.YtpbcnkcnjnefiaaGreatDoorRp6
import Derived.StillTailTactics
import Derived.Test.YtpbcnkcnjnefiaaGreatDoorRq0
import Derived.Test.YtpbcnkcnjnefiaaGreatDoorWip
import Derived.Test.YtpbcnkcnjnefiaaGreatDoorWkb
import Derived.Test.YtpbcnkcnjnefiaaGreatDoorWil
import Derived.Test.YtpbcnkcnjnefiaaGreatDoorRl2
namespace Go.Proofs.YtpbcnkcnjnefiaaGreatDoor
open Go.RowKit Go.Deep
set_option linter.unusedVariables false
theorem or_hidden {F:Nat} (h:F < 4503599627370496):bits .or .u64 (F:Int) 4503599627370496 = ((F + 4503599627370496:Nat):Int):=by
 have h1:=u64_or_nat F 4503599627370496 (by omega) (by decide)
 have h2:F ||| 4503599627370496 = F + 4503599627370496:=by
  have:=Nat.two_pow_add_eq_or_of_lt (i:=52) (b:=F) (by omega) 1
  rw [Nat.or_comm,Nat.add_comm]
  simpa using this.symm
 rw [h2] at h1
 exact h1
def sgB (b:Nat):Nat:=b &&& 9223372036854775808
theorem sg_bits {b:Nat} (hb:b < 18446744073709551616):bits .and .u64 (b:Int) 9223372036854775808 = (sgB b:Int):=u64_and_nat b 9223372036854775808 hb (by decide)
theorem sgB_is {b:Nat} (hb:b < 18446744073709551616):decide (sgB b ≠ 0) = decide (9223372036854775808 ≤ b):=by
 by_cases k:9223372036854775808 ≤ b
 ·have h1:b / 9223372036854775808 = 1:=by omega
  have h2:b.testBit 63 = true:=by simp [Nat.testBit,Nat.shiftRight_eq_div_pow,h1]
  have h3:sgB b ≠ 0:=by
   intro e
   have h4:=congrArg (fun z => z.testBit 63) e
   unfold sgB at h4
   simp [Nat.testBit_and,h2] at h4
   exact absurd h4 (by decide)
  simp [h3,k]
 ·have h3:sgB b = 0:=by
   unfold sgB
   rw [show (9223372036854775808:Nat) = 2 ^ 63 from rfl]
   refine Nat.eq_of_testBit_eq fun i => ?_
   rw [Nat.testBit_and,Nat.zero_testBit,Nat.testBit_two_pow]
   by_cases e:63 = i
   ·subst e
    rw [Nat.testBit_lt_two_pow (by omega)]
    rfl
   ·simp [e]
  simp [h3,k]
theorem lowF_small {neg:Bool} {X Y:Nat} (hx:(limbs X).length ≤ 2048) (hy:(limbs Y).length ≤ 2048) (hY:0 < Y):lowF neg X Y = ((neg && decide (limbs X ≠ []),limbs (X / Nat.gcd X Y),limbs (Y / Nat.gcd X Y)),0):=by
 unfold lowF
 by_cases h0:X = 0
 ·subst h0
  rw [if_pos rfl,Nat.gcd_zero_left,Nat.zero_div,Nat.div_self hY,limbs_zero]
  simp
  rfl
 ·have small:∀ {Z g:Nat},(limbs Z).length ≤ 2048 → bigN (Z / g) = false:=by
   intro Z g hz
   have h1:(limbs (Z / g)).length ≤ (limbs Z).length:=rep_len_le (limbs_rep _) (Nat.lt_of_le_of_lt (Nat.div_le_self _ _) (limbs_lt Z))
   unfold bigN
   simp
   omega
  have hne:limbs X ≠ []:=by rw [Ne,limbs_eq_nil]; exact h0
  rw [if_neg h0,small hx,small hy]
  simp [hne]

set_option maxRecDepth 100000 in
set_option maxHeartbeats 16000000 in
theorem rfromFloat_inf (b:Nat) (w:World) (hb:b < 18446744073709551616) (h:exB b = 2047) :
  Calls Tryz.prog 14 #[.int .u64 (b:Nat)] w fun e w' => ResF w w' ((false,[],[]),1) e:=by
 obtain ⟨wo,hwo⟩:∃ x,w.alloc (.cells #[.bool false,.slice none 0 0,.slice none 0 0] 25) = x:=⟨_,rfl⟩
 have hbo:Below w.heap.size w wo:=by rw [← hwo]; exact bAl
 have hO:=Out.made w
 rw [hwo] at hO
 have f1:=ex_bits hb
 have f2:=fr_bits hb
 have le1:=exB_lt b
 have le2:=frB_lt b
 obtain ⟨E,hE⟩:∃ E,exB b = E:=⟨_,rfl⟩
 obtain ⟨F,hF⟩:∃ F,frB b = F:=⟨_,rfl⟩
 rw [hE] at f1 le1 h
 rw [hF] at f2 le2
 have f3:wrap64 (E:Int) = (E:Int):=wrap_small (by omega) (by omega)
 have t1:((E:Int) == 2047) = true:=by simp; omega
 obtain ⟨j0,u0⟩:=hO.cells 0 (by decide)
 obtain ⟨j1,u1⟩:=hO.cells 1 (by decide)
 obtain ⟨j2,u2⟩:=hO.cells 2 (by decide)
 have v0:=hO.fz 0 (by decide)
 have v1:=hO.fz 1 (by decide)
 have v2:=hO.fz 2 (by decide)
 have HR:=Hd (And.intro (three_set wo w.heap.size (.bool false) (.slice none 0 0) (.slice none 0 0) hO.cells) (ret_Q (w:=w) (gy:=false) hO (sl_nil _) (sl_nil _) (newAt_nil _) (newAt_nil _) hbo (Nat.le_refl _)))
 clear hO hbo h hE hF
 unfold ResF
 dsimp only
 go_enter Tryz.func14,Tryz.ntmps14
 go_wp2_with fail
 obtain ⟨⟨t0_,t1_,t2_,cc_⟩,hR⟩:=Uh HR
 generalize ((wo.setCell ⟨w.heap.size,0,none⟩ (.bool false)).setCell ⟨w.heap.size,1,none⟩ (.slice none 0 0)).setCell ⟨w.heap.size,2,none⟩ (.slice none 0 0) = wf at *
 refine bodyPost_ret (by simp [results,Tryz.results14,go_sem,t0_,t1_,t2_]; try rfl) rfl ?_
 exact ⟨_,rfl,hR⟩
set_option maxRecDepth 100000 in
set_option maxHeartbeats 16000000 in
theorem rfromFloat_z (b:Nat) (w:World) (hb:b < 18446744073709551616) (hT:Tab64 w) (h:exB b = 0) :
  Calls Tryz.prog 14 #[.int .u64 (b:Nat)] w fun e w' => ResF w w' (FfF b) e:=by
 obtain ⟨wo,hwo⟩:∃ x,w.alloc (.cells #[.bool false,.slice none 0 0,.slice none 0 0] 25) = x:=⟨_,rfl⟩
 have hbo:Below w.heap.size w wo:=by rw [← hwo]; exact bAl
 have hO:=Out.made w
 rw [hwo] at hO
 have f1:=ex_bits hb
 have f2:=fr_bits hb
 have le1:=exB_lt b
 have le2:=frB_lt b
 obtain ⟨E,hE⟩:∃ E,exB b = E:=⟨_,rfl⟩
 obtain ⟨F,hF⟩:∃ F,frB b = F:=⟨_,rfl⟩
 rw [hE] at f1 le1 h
 rw [hF] at f2 le2
 have f3:wrap64 (E:Int) = (E:Int):=wrap_small (by omega) (by omega)
 obtain ⟨X,hX⟩:∃ X,X = F:=⟨_,rfl⟩
 obtain ⟨k,hk⟩:∃ k,k = 1074 - (E - 1):=⟨_,rfl⟩
 have hFF:FfF b = lowF (decide (9223372036854775808 ≤ b)) (X) (2 ^ k):=by
  unfold FfF ffN ffE
  rw [hE,hF,if_neg (by omega),if_neg (by omega),if_pos (by omega),hX,hk]
 have tq:((E:Int) == 2047) = false:=by simp; omega
 have tp:¬ (0:Int) < (E:Int):=by omega
 have te:(E:Int) + -1074 = -(k:Int):=by omega
 have te2:(E:Int) - 1074 = -(k:Int):=by omega
 have tk:¬ (0:Int) < -(k:Int):=by omega
 have hkb:k ≤ 1074:=by omega
 have hXb:X < 9007199254740992:=by omega
 have f4:=sg_bits hb
 have f5:=sgB_is hb
 obtain ⟨G,hG⟩:∃ G,sgB b = G:=⟨_,rfl⟩
 rw [hG] at f4 f5
 obtain ⟨sg,hsg⟩:∃ s,decide (9223372036854775808 ≤ b) = s:=⟨_,rfl⟩
 rw [hsg] at hFF f5
 have ts:((G:Int) != 0) = sg:=by rw [← f5]; by_cases h:G = 0 <;> simp [h]
 have HFF:=Hd hFF
 have HO:=Hd (And.intro hO (And.intro hbo (hT.below hbo)))
 have HX:=Hd hX
 have HKk:=Hd hk
 clear hFF hO hbo h hE hF hX hk hsg hG f5 hT
 go_enter Tryz.func14,Tryz.ntmps14
 go_wp2_with fail
 refine (from_any F _ (by omega)).mono ?_
 rintro _ w1 ⟨a1,m1,y1,rfl,s1,r1,n1,b1⟩
 obtain rfl:y1 = limbs F:=r1.eq
 have hl1:m1 ≤ 2:=by rw [← s1.len]; exact rep_len_le (limbs_rep _) (show F < 4294967296 ^ 2 by omega)
 have hz0:=(Uh HO).1.lt
 have hzb:=b1.size
 have S1:=Hd (And.intro s1 b1)
 clear s1 r1 n1 b1
 go_wp2_with fail
 refine (ratOne_any _).mono ?_
 rintro _ w2 ⟨a2,m2,rfl,s2,n2,b2⟩
 have hl2:m2 = 1:=s2.len.symm
 subst hl2
 have KS:=nshl_any a2 1 1 [1] w2 (k:Int) s2 ok_unit
 have hsh:shlL [1] (k:Int) = (limbs (2 ^ k),0):=by
  unfold shlL fitL
  have h1:=limbs_two_len k
  rw [if_pos (by decide),if_pos ⟨by omega,by omega⟩,show val [1] = 1 from by decide,Nat.one_mul,Int.toNat_natCast,if_neg (by omega)]
 rw [hsh] at KS
 have HKS:=Hd KS
 have hb2:=(Uh S1).2.trans (b2.mono (Uh S1).2.size)
 have S2:=Hd (And.intro ((Uh S1).1.below b2) hb2)
 clear KS hsh s2 n2 b2 hb2
 go_wp2_with fail
 refine (Uh HKS).mono ?_
 rintro _ w3 ⟨a3,m3,c3,rfl,s3,n3,b3⟩
 dsimp only at s3
 have hb3:=(Uh S2).2.trans (b3.mono (Uh S2).2.size)
 have S3:=Hd (And.intro s3 (And.intro ((Uh S2).1.below b3) hb3))
 clear s3 n3 b3 hb3 HKS
 go_wp2_with fail
 refine (sure_any _ _ _).mono ?_
 rintro _ _ ⟨rfl,hw⟩
 obtain rfl:=hw.symm
 clear hw
 have hn3:(limbs (2 ^ k)).length ≤ 2048:=by have h1:=limbs_two_len k; omega
 have hn4:(limbs F).length ≤ 2048:=by have:=(Uh S1).1.len; omega
 have hpk:=Nat.two_pow_pos k
 have KL:=lowest_any sg a1 a3 m1 m1 m3 c3 (limbs F) (limbs (2 ^ k)) w3 (Uh S3).2.1 (Uh S3).1 (limbs_ok _) (limbs_ok _) (MayL.mk (limbs_norm _) hn4) (MayL.mk (limbs_norm _) hn3) (by rw [Ne,limbs_eq_nil]; omega) ((Uh HO).2.2.below (Uh S3).2.2)
 rw [limbs_v,limbs_v] at KL
 have hLF:=lowF_small (neg:=sg) (X:=F) (Y:=2 ^ k) hn4 hn3 hpk
 have HB:=Hd (Uh S3).2.2
 have hFF2:=Uh HFF
 rw [Uh HX,hLF] at hFF2
 have HKL:=Hd KL
 have HF2:=Hd hFF2
 clear KL hLF hFF2 HFF
 go_wp2_with fail
 refine (Uh HKL).mono ?_
 rintro _ w8 ⟨v8,rfl,aN,mN,cN,aD,mD,cD,rfl,sN,sD,nN,nD,b8⟩
 unfold ratV
 obtain ⟨gy,hgy⟩:∃ g,(sg && decide (limbs F ≠ [])) = g:=⟨_,rfl⟩
 rw [hgy]
 have hb8:=(Uh HB).trans (b8.mono (Uh HB).size)
 have hO8:=(Uh HO).1.keep hb8
 obtain ⟨j0,u0⟩:=hO8.cells 0 (by decide)
 obtain ⟨j1,u1⟩:=hO8.cells 1 (by decide)
 obtain ⟨j2,u2⟩:=hO8.cells 2 (by decide)
 have v0:=hO8.fz 0 (by decide)
 have v1:=hO8.fz 1 (by decide)
 have v2:=hO8.fz 2 (by decide)
 have hzc:=(Uh HB).size
 have HR:=Hd (And.intro (three_set w8 w.heap.size (.bool gy) (.slice aN mN cN) (.slice aD mD cD) hO8.cells) (ret_Q (w:=w) (gy:=gy) hO8 sN sD (fun x hx => by have:=nN x hx; omega) (fun x hx => by have:=nD x hx; omega) ((Uh HO).2.1.trans (hb8.mono (Uh HO).2.1.size)) (Nat.le_refl _)))
 have HG:=Hd hgy
 clear hO8 sN sD nN nD b8 hb8 hzc hgy
 go_wp2_with fail
 obtain ⟨⟨t0_,t1_,t2_,cc_⟩,hR⟩:=Uh HR
 generalize ((w8.setCell ⟨w.heap.size,0,none⟩ (.bool gy)).setCell ⟨w.heap.size,1,none⟩ (.slice aN mN cN)).setCell ⟨w.heap.size,2,none⟩ (.slice aD mD cD) = wf at *
 refine bodyPost_ret (by simp [results,Tryz.results14,go_sem,t0_,t1_,t2_]; try rfl) rfl ?_
 rw [Uh HF2,Uh HG]
 exact ⟨_,rfl,hR⟩
set_option maxRecDepth 100000 in
set_option maxHeartbeats 16000000 in
theorem rfromFloat_l (b:Nat) (w:World) (hb:b < 18446744073709551616) (hT:Tab64 w) (h:0 < exB b ∧ exB b - 1 ≤ 1074) :
  Calls Tryz.prog 14 #[.int .u64 (b:Nat)] w fun e w' => ResF w w' (FfF b) e:=by
 obtain ⟨wo,hwo⟩:∃ x,w.alloc (.cells #[.bool false,.slice none 0 0,.slice none 0 0] 25) = x:=⟨_,rfl⟩
 have hbo:Below w.heap.size w wo:=by rw [← hwo]; exact bAl
 have hO:=Out.made w
 rw [hwo] at hO
 have f1:=ex_bits hb
 have f2:=fr_bits hb
 have le1:=exB_lt b
 have le2:=frB_lt b
 obtain ⟨E,hE⟩:∃ E,exB b = E:=⟨_,rfl⟩
 obtain ⟨F,hF⟩:∃ F,frB b = F:=⟨_,rfl⟩
 rw [hE] at f1 le1 h
 rw [hF] at f2 le2
 have f3:wrap64 (E:Int) = (E:Int):=wrap_small (by omega) (by omega)
 obtain ⟨X,hX⟩:∃ X,X = F + 4503599627370496:=⟨_,rfl⟩
 obtain ⟨k,hk⟩:∃ k,k = 1074 - (E - 1):=⟨_,rfl⟩
 have hFF:FfF b = lowF (decide (9223372036854775808 ≤ b)) (X) (2 ^ k):=by
  unfold FfF ffN ffE
  rw [hE,hF,if_neg (by omega),if_neg (show ¬ E = 0 by omega),← hX]
  by_cases h9:1074 ≤ E - 1
  ·have h8:k = 0:=by omega
   have h7:E - 1 - 1074 = 0:=by omega
   rw [if_pos h9,h7,h8]; simp
  ·rw [if_neg h9,hk]
 have tq:((E:Int) == 2047) = false:=by simp; omega
 have tp:(0:Int) < (E:Int):=by omega
 have tx:bits .or .u64 (F:Int) 4503599627370496 = (X:Int):=by rw [or_hidden le2,hX]
 have te:(E:Int) - 1 + -1074 = -(k:Int):=by omega
 have te2:(E:Int) - 1 - 1074 = -(k:Int):=by omega
 have tk:¬ (0:Int) < -(k:Int):=by omega
 have hkb:k ≤ 1074:=by omega
 have hXb:X < 9007199254740992:=by omega
 have f4:=sg_bits hb
 have f5:=sgB_is hb
 obtain ⟨G,hG⟩:∃ G,sgB b = G:=⟨_,rfl⟩
 rw [hG] at f4 f5
 obtain ⟨sg,hsg⟩:∃ s,decide (9223372036854775808 ≤ b) = s:=⟨_,rfl⟩
 rw [hsg] at hFF f5
 have ts:((G:Int) != 0) = sg:=by rw [← f5]; by_cases h:G = 0 <;> simp [h]
 have HFF:=Hd hFF
 have HO:=Hd (And.intro hO (And.intro hbo (hT.below hbo)))
 have HX:=Hd hX
 have HKk:=Hd hk
 clear hFF hO hbo h hE hF hX hk hsg hG f5 hT
 go_enter Tryz.func14,Tryz.ntmps14
 go_wp2_with fail
 refine (from_any X _ (by omega)).mono ?_
 rintro _ w1 ⟨a1,m1,y1,rfl,s1,r1,n1,b1⟩
 obtain rfl:y1 = limbs X:=r1.eq
 have hl1:m1 ≤ 2:=by rw [← s1.len]; exact rep_len_le (limbs_rep _) (show X < 4294967296 ^ 2 by omega)
 have hz0:=(Uh HO).1.lt
 have hzb:=b1.size
 have S1:=Hd (And.intro s1 b1)
 clear s1 r1 n1 b1
 go_wp2_with fail
 refine (ratOne_any _).mono ?_
 rintro _ w2 ⟨a2,m2,rfl,s2,n2,b2⟩
 have hl2:m2 = 1:=s2.len.symm
 subst hl2
 have KS:=nshl_any a2 1 1 [1] w2 (k:Int) s2 ok_unit
 have hsh:shlL [1] (k:Int) = (limbs (2 ^ k),0):=by
  unfold shlL fitL
  have h1:=limbs_two_len k
  rw [if_pos (by decide),if_pos ⟨by omega,by omega⟩,show val [1] = 1 from by decide,Nat.one_mul,Int.toNat_natCast,if_neg (by omega)]
 rw [hsh] at KS
 have HKS:=Hd KS
 have hb2:=(Uh S1).2.trans (b2.mono (Uh S1).2.size)
 have S2:=Hd (And.intro ((Uh S1).1.below b2) hb2)
 clear KS hsh s2 n2 b2 hb2
 go_wp2_with fail
 refine (Uh HKS).mono ?_
 rintro _ w3 ⟨a3,m3,c3,rfl,s3,n3,b3⟩
 dsimp only at s3
 have hb3:=(Uh S2).2.trans (b3.mono (Uh S2).2.size)
 have S3:=Hd (And.intro s3 (And.intro ((Uh S2).1.below b3) hb3))
 clear s3 n3 b3 hb3 HKS
 go_wp2_with fail
 refine (sure_any _ _ _).mono ?_
 rintro _ _ ⟨rfl,hw⟩
 obtain rfl:=hw.symm
 clear hw
 have hn3:(limbs (2 ^ k)).length ≤ 2048:=by have h1:=limbs_two_len k; omega
 have hn4:(limbs X).length ≤ 2048:=by have:=(Uh S1).1.len; omega
 have hpk:=Nat.two_pow_pos k
 have KL:=lowest_any sg a1 a3 m1 m1 m3 c3 (limbs X) (limbs (2 ^ k)) w3 (Uh S3).2.1 (Uh S3).1 (limbs_ok _) (limbs_ok _) (MayL.mk (limbs_norm _) hn4) (MayL.mk (limbs_norm _) hn3) (by rw [Ne,limbs_eq_nil]; omega) ((Uh HO).2.2.below (Uh S3).2.2)
 rw [limbs_v,limbs_v] at KL
 have hLF:=lowF_small (neg:=sg) (X:=X) (Y:=2 ^ k) hn4 hn3 hpk
 have HB:=Hd (Uh S3).2.2
 have hFF2:=Uh HFF
 rw [hLF] at hFF2
 have HKL:=Hd KL
 have HF2:=Hd hFF2
 clear KL hLF hFF2 HFF
 go_wp2_with fail
 refine (Uh HKL).mono ?_
 rintro _ w8 ⟨v8,rfl,aN,mN,cN,aD,mD,cD,rfl,sN,sD,nN,nD,b8⟩
 unfold ratV
 obtain ⟨gy,hgy⟩:∃ g,(sg && decide (limbs X ≠ [])) = g:=⟨_,rfl⟩
 rw [hgy]
 have hb8:=(Uh HB).trans (b8.mono (Uh HB).size)
 have hO8:=(Uh HO).1.keep hb8
 obtain ⟨j0,u0⟩:=hO8.cells 0 (by decide)
 obtain ⟨j1,u1⟩:=hO8.cells 1 (by decide)
 obtain ⟨j2,u2⟩:=hO8.cells 2 (by decide)
 have v0:=hO8.fz 0 (by decide)
 have v1:=hO8.fz 1 (by decide)
 have v2:=hO8.fz 2 (by decide)
 have hzc:=(Uh HB).size
 have HR:=Hd (And.intro (three_set w8 w.heap.size (.bool gy) (.slice aN mN cN) (.slice aD mD cD) hO8.cells) (ret_Q (w:=w) (gy:=gy) hO8 sN sD (fun x hx => by have:=nN x hx; omega) (fun x hx => by have:=nD x hx; omega) ((Uh HO).2.1.trans (hb8.mono (Uh HO).2.1.size)) (Nat.le_refl _)))
 have HG:=Hd hgy
 clear hO8 sN sD nN nD b8 hb8 hzc hgy
 go_wp2_with fail
 obtain ⟨⟨t0_,t1_,t2_,cc_⟩,hR⟩:=Uh HR
 generalize ((w8.setCell ⟨w.heap.size,0,none⟩ (.bool gy)).setCell ⟨w.heap.size,1,none⟩ (.slice aN mN cN)).setCell ⟨w.heap.size,2,none⟩ (.slice aD mD cD) = wf at *
 refine bodyPost_ret (by simp [results,Tryz.results14,go_sem,t0_,t1_,t2_]; try rfl) rfl ?_
 rw [Uh HF2,Uh HG]
 exact ⟨_,rfl,hR⟩
set_option maxRecDepth 100000 in
set_option maxHeartbeats 16000000 in
theorem rfromFloat_h (b:Nat) (w:World) (hb:b < 18446744073709551616) (hT:Tab64 w) (h:1074 < exB b - 1 ∧ exB b < 2047) :
  Calls Tryz.prog 14 #[.int .u64 (b:Nat)] w fun e w' => ResF w w' (FfF b) e:=by
 obtain ⟨wo,hwo⟩:∃ x,w.alloc (.cells #[.bool false,.slice none 0 0,.slice none 0 0] 25) = x:=⟨_,rfl⟩
 have hbo:Below w.heap.size w wo:=by rw [← hwo]; exact bAl
 have hO:=Out.made w
 rw [hwo] at hO
 have f1:=ex_bits hb
 have f2:=fr_bits hb
 have le1:=exB_lt b
 have le2:=frB_lt b
 obtain ⟨E,hE⟩:∃ E,exB b = E:=⟨_,rfl⟩
 obtain ⟨F,hF⟩:∃ F,frB b = F:=⟨_,rfl⟩
 rw [hE] at f1 le1 h
 rw [hF] at f2 le2
 have f3:wrap64 (E:Int) = (E:Int):=wrap_small (by omega) (by omega)
 obtain ⟨X,hX⟩:∃ X,X = F + 4503599627370496:=⟨_,rfl⟩
 obtain ⟨k,hk⟩:∃ k,k = E - 1 - 1074:=⟨_,rfl⟩
 have hFF:FfF b = lowF (decide (9223372036854775808 ≤ b)) (X * 2 ^ k) (1):=by
  unfold FfF ffN ffE
  rw [hE,hF,if_neg (by omega),if_pos (by omega),if_neg (by omega),hX,hk]
 have tq:((E:Int) == 2047) = false:=by simp; omega
 have tp:(0:Int) < (E:Int):=by omega
 have tx:bits .or .u64 (F:Int) 4503599627370496 = (X:Int):=by rw [or_hidden le2,hX]
 have te:(E:Int) - 1 + -1074 = (k:Int):=by omega
 have te2:(E:Int) - 1 - 1074 = (k:Int):=by omega
 have tk:(0:Int) < (k:Int):=by omega
 have hkb:k ≤ 1074:=by omega
 have hXb:X < 9007199254740992:=by omega
 have f4:=sg_bits hb
 have f5:=sgB_is hb
 obtain ⟨G,hG⟩:∃ G,sgB b = G:=⟨_,rfl⟩
 rw [hG] at f4 f5
 obtain ⟨sg,hsg⟩:∃ s,decide (9223372036854775808 ≤ b) = s:=⟨_,rfl⟩
 rw [hsg] at hFF f5
 have ts:((G:Int) != 0) = sg:=by rw [← f5]; by_cases h:G = 0 <;> simp [h]
 have HFF:=Hd hFF
 have HO:=Hd (And.intro hO (And.intro hbo (hT.below hbo)))
 have HX:=Hd hX
 have HKk:=Hd hk
 clear hFF hO hbo h hE hF hX hk hsg hG f5 hT
 go_enter Tryz.func14,Tryz.ntmps14
 go_wp2_with fail
 refine (from_any X _ (by omega)).mono ?_
 rintro _ w1 ⟨a1,m1,y1,rfl,s1,r1,n1,b1⟩
 obtain rfl:y1 = limbs X:=r1.eq
 have hl1:m1 ≤ 2:=by rw [← s1.len]; exact rep_len_le (limbs_rep _) (show X < 4294967296 ^ 2 by omega)
 have hz0:=(Uh HO).1.lt
 have hzb:=b1.size
 have S1:=Hd (And.intro s1 b1)
 clear s1 r1 n1 b1
 go_wp2_with fail
 refine (ratOne_any _).mono ?_
 rintro _ w2 ⟨a2,m2,rfl,s2,n2,b2⟩
 have hl2:m2 = 1:=s2.len.symm
 subst hl2
 have KS:=nshl_any a1 m1 m1 (limbs X) w2 (k:Int) ((Uh S1).1.below b2) (limbs_ok _)
 have hsh:shlL (limbs X) (k:Int) = (limbs (X * 2 ^ k),0):=by
  unfold shlL fitL
  have h1:=limbs_pow_len X k
  have h2:=(Uh S1).1.len
  rw [if_pos (MayL.mk (limbs_norm X) (by omega)),if_pos ⟨by omega,by omega⟩,limbs_v,Int.toNat_natCast,if_neg (by omega)]
 rw [hsh] at KS
 have HKS:=Hd KS
 have hb2:=(Uh S1).2.trans (b2.mono (Uh S1).2.size)
 have S2:=Hd (And.intro s2 hb2)
 clear KS hsh s2 n2 b2 hb2
 go_wp2_with fail
 refine (Uh HKS).mono ?_
 rintro _ w3 ⟨a3,m3,c3,rfl,s3,n3,b3⟩
 dsimp only at s3
 have hb3:=(Uh S2).2.trans (b3.mono (Uh S2).2.size)
 have S3:=Hd (And.intro s3 (And.intro ((Uh S2).1.below b3) hb3))
 clear s3 n3 b3 hb3 HKS
 go_wp2_with fail
 refine (sure_any _ _ _).mono ?_
 rintro _ _ ⟨rfl,hw⟩
 obtain rfl:=hw.symm
 clear hw
 have hn3:(limbs (X * 2 ^ k)).length ≤ 2048:=by have h1:=limbs_pow_len X k; have h2:=(Uh S1).1.len; omega
 have KL:=lowest_any sg a3 a2 m3 c3 1 1 (limbs (X * 2 ^ k)) [1] w3 (Uh S3).1 (Uh S3).2.1 (limbs_ok _) ok_unit (MayL.mk (limbs_norm _) hn3) (by decide) (by decide) ((Uh HO).2.2.below (Uh S3).2.2)
 rw [limbs_v,show val [1] = 1 from by decide] at KL
 have hLF:=lowF_small (neg:=sg) (X:=X * 2 ^ k) (Y:=1) hn3 (by decide) (by decide)
 have HB:=Hd (Uh S3).2.2
 have hFF2:=Uh HFF
 rw [hLF] at hFF2
 have HKL:=Hd KL
 have HF2:=Hd hFF2
 clear KL hLF hFF2 HFF
 go_wp2_with fail
 refine (Uh HKL).mono ?_
 rintro _ w8 ⟨v8,rfl,aN,mN,cN,aD,mD,cD,rfl,sN,sD,nN,nD,b8⟩
 unfold ratV
 obtain ⟨gy,hgy⟩:∃ g,(sg && decide (limbs (X * 2 ^ k) ≠ [])) = g:=⟨_,rfl⟩
 rw [hgy]
 have hb8:=(Uh HB).trans (b8.mono (Uh HB).size)
 have hO8:=(Uh HO).1.keep hb8
 obtain ⟨j0,u0⟩:=hO8.cells 0 (by decide)
 obtain ⟨j1,u1⟩:=hO8.cells 1 (by decide)
 obtain ⟨j2,u2⟩:=hO8.cells 2 (by decide)
 have v0:=hO8.fz 0 (by decide)
 have v1:=hO8.fz 1 (by decide)
 have v2:=hO8.fz 2 (by decide)
 have hzc:=(Uh HB).size
 have HR:=Hd (And.intro (three_set w8 w.heap.size (.bool gy) (.slice aN mN cN) (.slice aD mD cD) hO8.cells) (ret_Q (w:=w) (gy:=gy) hO8 sN sD (fun x hx => by have:=nN x hx; omega) (fun x hx => by have:=nD x hx; omega) ((Uh HO).2.1.trans (hb8.mono (Uh HO).2.1.size)) (Nat.le_refl _)))
 have HG:=Hd hgy
 clear hO8 sN sD nN nD b8 hb8 hzc hgy
 go_wp2_with fail
 obtain ⟨⟨t0_,t1_,t2_,cc_⟩,hR⟩:=Uh HR
 generalize ((w8.setCell ⟨w.heap.size,0,none⟩ (.bool gy)).setCell ⟨w.heap.size,1,none⟩ (.slice aN mN cN)).setCell ⟨w.heap.size,2,none⟩ (.slice aD mD cD) = wf at *
 refine bodyPost_ret (by simp [results,Tryz.results14,go_sem,t0_,t1_,t2_]; try rfl) rfl ?_
 rw [Uh HF2,Uh HG]
 exact ⟨_,rfl,hR⟩
theorem rfromFloat_any (b:Nat) (w:World) (hb:b < 18446744073709551616) (hT:Tab64 w) :
  Calls Tryz.prog 14 #[.int .u64 (b:Nat)] w fun e w' => ResF w w' (FfF b) e:=by
 have hE:=exB_lt b
 by_cases h1:exB b = 2047
 ·have:FfF b = ((false,[],[]),1):=by unfold FfF; rw [if_pos h1]
  rw [this]
  exact rfromFloat_inf b w hb h1
 ·by_cases h2:exB b = 0
  ·exact rfromFloat_z b w hb hT h2
  ·by_cases h3:1074 < exB b - 1
   ·exact rfromFloat_h b w hb hT ⟨h3,by omega⟩
   ·exact rfromFloat_l b w hb hT ⟨by omega,by omega⟩
structure Quad (w:World) (R:Nat) (v0 v1 v2 v3:Value):Prop where
 tri:Tri w R v0 v1 v2
 c3:w.cell? ⟨R,3,none⟩ = some v3
 f3:w.frozen? ⟨R,3,none⟩ = false
theorem Quad.keep {w w':World} {R:Nat} {v0 v1 v2 v3:Value} (h:Quad w R v0 v1 v2 v3) (k:Below w.heap.size w w'):Quad w' R v0 v1 v2 v3:=by
 have hc:w'.cell? ⟨R,3,none⟩ = w.cell? ⟨R,3,none⟩:=by unfold World.cell?; simp only; rw [k.block _ h.tri.lt]
 have hf:w'.frozen? ⟨R,3,none⟩ = w.frozen? ⟨R,3,none⟩:=by unfold World.frozen?; simp only; rw [k.block _ h.tri.lt]
 exact ⟨h.tri.keep k,hc.trans h.c3,hf.trans h.f3⟩
theorem Quad.made (w:World) (v0 v1 v2 v3:Value) (e:TypeId):Quad (w.alloc (.cells #[v0,v1,v2,v3] e)) w.heap.size v0 v1 v2 v3:=by
 refine ⟨⟨?_,?_,?_,?_,?_,?_,?_⟩,?_,?_⟩ <;> simp
def fQ (R:Nat) (v0 v1 v2 v3:Value):Fct:=⟨fun w => Quad w R v0 v1 v2 v3,fun k h => h.keep k⟩
theorem Fcts.q {w0 w:World} {L:List Fct} (h:Fcts w0 w L) (R:Nat) (v0 v1 v2 v3:Value) (hm:fQ R v0 v1 v2 v3 ∈ L):Quad w R v0 v1 v2 v3:=h.all _ hm

structure Fr (g:Bool) (x y:List Nat) (P Q:Int):Prop where
 may:MayR g x y = true
 pos:0 < Q
 eq:nI g (val x) * Q = P * (val y:Int)
theorem Fr.add {g1 g2 g:Bool} {x1 y1 x2 y2 x y:List Nat} {P1 Q1 P2 Q2:Int} (h1:Fr g1 x1 y1 P1 Q1) (h2:Fr g2 x2 y2 P2 Q2) (e:AddF g1 x1 y1 g2 x2 y2 = ((g,x,y),0)):Fr g x y (P1 * Q2 + P2 * Q1) (Q1 * Q2):=by
 obtain ⟨g',N,D,e2,m,hD,hv⟩:=addF_ok h1.may h2.may (by rw [e])
 rw [e] at e2
 cases e2
 have yp1:=posI h1.may
 have yp2:=posI h2.may
 refine ⟨m,Int.mul_pos h1.pos h2.pos,?_⟩
 rw [(limbs_rep N).val,(limbs_rep D).val]
 have k1:=h1.eq
 have k2:=h2.eq
 refine Int.eq_of_mul_eq_mul_right (Int.ne_of_gt (Int.mul_pos yp1 yp2)) ?_
 have a1:nI g N * (Q1 * Q2) * ((val y1:Int) * (val y2:Int)) = nI g N * ((val y1:Int) * (val y2:Int)) * (Q1 * Q2):=by ac_rfl
 rw [a1,hv]
 have a2:(nI g1 (val x1) * (val y2:Int) + nI g2 (val x2) * (val y1:Int)) * (D:Int) * (Q1 * Q2) = (nI g1 (val x1) * Q1) * ((val y2:Int) * Q2 * (D:Int)) + (nI g2 (val x2) * Q2) * ((val y1:Int) * Q1 * (D:Int)):=by
  rw [Int.add_mul,Int.add_mul]
  congr 1
  ·ac_rfl
  ·ac_rfl
 rw [a2,k1,k2,Int.add_mul,Int.add_mul]
 congr 1
 ·ac_rfl
 ·ac_rfl
theorem Fr.mul {g1 g2 g:Bool} {x1 y1 x2 y2 x y:List Nat} {P1 Q1 P2 Q2:Int} (h1:Fr g1 x1 y1 P1 Q1) (h2:Fr g2 x2 y2 P2 Q2) (e:MulF g1 x1 y1 g2 x2 y2 = ((g,x,y),0)):Fr g x y (P1 * P2) (Q1 * Q2):=by
 obtain ⟨g',N,D,e2,m,hD,hv⟩:=mulF_ok h1.may h2.may (by rw [e])
 rw [e] at e2
 cases e2
 have yp1:=posI h1.may
 have yp2:=posI h2.may
 refine ⟨m,Int.mul_pos h1.pos h2.pos,?_⟩
 rw [(limbs_rep N).val,(limbs_rep D).val]
 have k1:=h1.eq
 have k2:=h2.eq
 refine Int.eq_of_mul_eq_mul_right (Int.ne_of_gt (Int.mul_pos yp1 yp2)) ?_
 have a1:nI g N * (Q1 * Q2) * ((val y1:Int) * (val y2:Int)) = nI g N * ((val y1:Int) * (val y2:Int)) * (Q1 * Q2):=by ac_rfl
 rw [a1,hv]
 have a2:nI g1 (val x1) * nI g2 (val x2) * (D:Int) * (Q1 * Q2) = (nI g1 (val x1) * Q1) * (nI g2 (val x2) * Q2) * (D:Int):=by ac_rfl
 rw [a2,k1,k2]
 ac_rfl
theorem Fr.same {g1 g2:Bool} {x1 y1 x2 y2:List Nat} {P1 Q1 P2 Q2:Int} (ox1:Ok x1) (oy1:Ok y1) (ox2:Ok x2) (oy2:Ok y2) (h1:Fr g1 x1 y1 P1 Q1) (h2:Fr g2 x2 y2 P2 Q2) (h:P1 * Q2 = P2 * Q1):sameR g1 x1 y1 g2 x2 y2 = true:=by
 rw [order_same ox1 oy1 ox2 oy2 h1.may h2.may,cmpF_may h1.may h2.may]
 have yp1:=posI h1.may
 have yp2:=posI h2.may
 have k1:=h1.eq
 have k2:=h2.eq
 have:nI g1 (val x1) * (val y2:Int) = nI g2 (val x2) * (val y1:Int):=by
  refine Int.eq_of_mul_eq_mul_right (Int.ne_of_gt (Int.mul_pos h1.pos h2.pos)) ?_
  have a1:nI g1 (val x1) * (val y2:Int) * (Q1 * Q2) = (nI g1 (val x1) * Q1) * ((val y2:Int) * Q2):=by ac_rfl
  have a2:nI g2 (val x2) * (val y1:Int) * (Q1 * Q2) = (nI g2 (val x2) * Q2) * ((val y1:Int) * Q1):=by ac_rfl
  rw [a1,a2,k1,k2]
  have a3:P1 * (val y1:Int) * ((val y2:Int) * Q2) = (P1 * Q2) * ((val y1:Int) * (val y2:Int)):=by ac_rfl
  have a4:P2 * (val y2:Int) * ((val y1:Int) * Q1) = (P2 * Q1) * ((val y1:Int) * (val y2:Int)):=by ac_rfl
  rw [a3,a4,h]
 rw [this,Int.sub_self]
 rfl
structure Vl (w:World) (g:Bool) (a:Option Addr) (n c:Nat) (x:List Nat) (b:Option Addr) (m d:Nat) (y:List Nat) (k:Bool) (P Q:Int):Prop where
 nm:Nm w a n c x b m d y
 ox:Ok x
 oy:Ok y
 fr:k = true → Fr g x y P Q
def fV (g:Bool) (a:Option Addr) (n c:Nat) (x:List Nat) (b:Option Addr) (m d:Nat) (y:List Nat) (k:Bool) (P Q:Int):Fct:=⟨fun w => Vl w g a n c x b m d y k P Q,fun h v => ⟨⟨v.nm.num.below h,v.nm.den.below h⟩,v.ox,v.oy,v.fr⟩⟩
theorem Fcts.v {w0 w:World} {L:List Fct} (h:Fcts w0 w L) {g:Bool} {a:Option Addr} {n c:Nat} {x:List Nat} {b:Option Addr} {m d:Nat} {y:List Nat} {k:Bool} {P Q:Int} (hm:fV g a n c x b m d y k P Q ∈ L):Vl w g a n c x b m d y k P Q:=h.all _ hm
theorem big_of_may {x:List Nat} (ox:Ok x) (m:MayL x = true):bigN (val x) = false:=by
 unfold bigN
 rw [limbs_val ox (MayL.norm m)]
 have:=MayL.len m
 simpa using this
theorem cross {S T V Y12 D D0 N0:Int} (hY:0 < Y12) (e1:S * Y12 = V * D) (e2:N0 * Y12 = V * D0):S * D0 = N0 * D:=by
 refine Int.eq_of_mul_eq_mul_right (Int.ne_of_gt hY) ?_
 have a1:S * D0 * Y12 = (S * Y12) * D0:=by ac_rfl
 have a2:N0 * D * Y12 = (N0 * Y12) * D:=by ac_rfl
 rw [a1,a2,e1,e2]
 ac_rfl
theorem subF_back {ga gb g:Bool} {xa ya xb yb x y:List Nat} (oa:Ok xa) (oa2:Ok ya) (ha:MayR ga xa ya = true) (hb:MayR gb xb yb = true) (h:Fr g x y (nI ga (val xa) * (val yb:Int) + nI gb (val xb) * (val ya:Int)) ((val ya:Int) * (val yb:Int))):SubF g x y gb xb yb = ((ga,xa,ya),0):=by
 have l1:=(MayR.parts h.may).2.2.2.2
 have l2:=(MayR.parts hb).2.2.2.2
 have p1:=mayR_pos h.may
 have p2:=mayR_pos hb
 have hG:0 < adG y yb:=Nat.gcd_pos_of_pos_right _ p2
 have lo:=add_low (G:=adG y yb) l1 l2 p1 p2 rfl (cmbV_abs g (!gb) (val x * (val yb / adG y yb)) (val xb * (val y / adG y yb)))
 have va:=add_val (X1:=val x) (Y1:=val y) (X2:=val xb) (Y2:=val yb) (G:=adG y yb) rfl p2 (cmbV_val g (!gb) (val x * (val yb / adG y yb)) (val xb * (val y / adG y yb)))
 have hD:0 < adD g x y (!gb) xb yb:=by
  unfold adD adC
  exact Nat.mul_pos (Nat.mul_pos (div_pos_of_dvd (Nat.gcd_dvd_left _ _) p1) (div_pos_of_dvd (Nat.gcd_dvd_right _ _) p2)) (div_pos_of_dvd (Nat.gcd_dvd_right _ _) hG)
 have lo':Nat.gcd (adN g x y (!gb) xb yb) (adD g x y (!gb) xb yb) = 1:=lo
 have va':nI (adS g x y (!gb) xb yb).2 (adN g x y (!gb) xb yb) * ((val y * val yb:Nat):Int) = (nI g (val x) * (val yb:Int) + nI (!gb) (val xb) * (val y:Int)) * (adD g x y (!gb) xb yb:Int):=va
 have hn:nI (!gb) (val xb) = -nI gb (val xb):=by cases gb <;> simp [nI]
 have e0:nI ga (val xa) * ((val y * val yb:Nat):Int) = (nI g (val x) * (val yb:Int) + nI (!gb) (val xb) * (val y:Int)) * (val ya:Int):=by
  have hq:=h.eq
  have yap:=posI ha
  have ybp:=posI hb
  refine Int.eq_of_mul_eq_mul_right (Int.ne_of_gt ybp) ?_
  rw [hn]
  push_cast
  have a1:(nI g (val x) * (val yb:Int) + -nI gb (val xb) * (val y:Int)) * (val ya:Int) * (val yb:Int) = (nI g (val x) * ((val ya:Int) * (val yb:Int))) * (val yb:Int) + -nI gb (val xb) * (val y:Int) * ((val ya:Int) * (val yb:Int)):=by
   rw [Int.add_mul,Int.add_mul]
   congr 1
   ·ac_rfl
   ·ac_rfl
  rw [a1,hq]
  grind
 have hY:(0:Int) < ((val y * val yb:Nat):Int):=by have:=Nat.mul_pos p1 p2; omega
 have hc:=cross (T:=0) hY va' e0
 obtain ⟨r1,r2,r3⟩:=low_one (g1:=(adS g x y (!gb) xb yb).2 && decide (adN g x y (!gb) xb yb ≠ 0)) lo' (MayR.parts ha).2.2.2.2 hD (mayR_pos ha) (fun hh => by simp at hh; exact hh.2) (mayR_neg ha) (by rw [nI_and]; exact hc)
 have ex:=limbs_val oa (MayL.norm (MayR.parts ha).1)
 have ey:=limbs_val oa2 (MayL.norm (MayR.parts ha).2.1)
 unfold SubF
 rw [h.may,hb,r2,r3,big_of_may oa (MayR.parts ha).1,big_of_may oa2 (MayR.parts ha).2.1]
 rw [r2] at r1
 simp only [Bool.and_self,if_true,Bool.or_self,Bool.false_eq_true,if_false]
 rw [ex,ey,r1]


theorem flL_val {g1 g2:Bool} {X Y:Nat} (hY:0 < Y):nI g1 X + nI (!g1) (flQ (g1 != g2) X Y * Y) = nI g2 (flL (g1 != g2) X Y):=by
 have h:=Nat.div_add_mod X Y
 have hl:=Nat.mod_lt X hY
 rw [Nat.mul_comm] at h
 unfold flQ flL
 by_cases hz:X % Y = 0
 ·simp only [hz,ne_eq,not_true_eq_false,decide_false,Bool.and_false,Bool.false_eq_true,if_false]
  rw [hz] at h
  have e:X / Y * Y = X:=by omega
  rw [e]
  cases g1 <;> cases g2 <;> simp [nI] <;> omega
 ·have e2:(X / Y + 1) * Y = X / Y * Y + Y:=by rw [Nat.add_mul,Nat.one_mul]
  have k1:decide (X % Y ≠ 0) = true:=decide_eq_true hz
  rw [k1,Bool.and_true]
  by_cases hg:g1 = g2
  ·subst hg
   rw [show (g1 != g1) = false from by simp,if_neg (by decide),if_neg (by decide)]
   generalize X / Y * Y = M at *
   cases g1 <;> simp [nI] <;> omega
  ·obtain rfl:g2 = !g1:=by cases g1 <;> cases g2 <;> simp at hg ⊢
   rw [show (g1 != !g1) = true from by cases g1 <;> rfl,if_pos rfl,if_pos rfl]
   generalize (X / Y + 1) * Y = N2 at *
   generalize X / Y * Y = M at *
   cases g1 <;> simp [nI] <;> omega
theorem flL_cop {g:Bool} {X Y A:Nat} (hY:0 < Y) (hA:A ∣ Y) (h:Nat.gcd X A = 1):Nat.gcd (flL g X Y) A = 1:=by
 have hX:=Nat.div_add_mod X Y
 have hl:=Nat.mod_lt X hY
 have h1:Nat.gcd (flL g X Y) A ∣ flL g X Y:=Nat.gcd_dvd_left _ _
 have h2:Nat.gcd (flL g X Y) A ∣ A:=Nat.gcd_dvd_right _ _
 have h3:Nat.gcd (flL g X Y) A ∣ Y:=Nat.dvd_trans h2 hA
 have h4:Nat.gcd (flL g X Y) A ∣ X % Y:=by
  generalize Nat.gcd (flL g X Y) A = d at *
  unfold flL at h1
  split at h1
  ·have:=Nat.dvd_sub h3 h1
   rwa [show Y - (Y - X % Y) = X % Y by omega] at this
  ·exact h1
 have h5:Nat.gcd (flL g X Y) A ∣ X:=by
  have h7:=(Nat.dvd_add_right (Nat.dvd_mul_right_of_dvd h3 (X / Y))).2 h4
  rw [hX] at h7
  exact h7
 have h6:=Nat.dvd_gcd h5 h2
 rw [h] at h6
 exact Nat.dvd_one.1 h6



theorem bigN_le {a b:Nat} (h:a ≤ b) (hb:bigN b = false):bigN a = false:=by
 have:=limbs_mono h
 unfold bigN at hb ⊢
 simp at hb ⊢
 omega
theorem flQ_les {g:Bool} {X Y:Nat} (hY:0 < Y):flQ g X Y ≤ X:=by
 unfold flQ
 split
 ·next h => exact incr_fit hY (by simp at h; exact h.2)
 ·exact Nat.div_le_self _ _
theorem big_1:bigN 1 = false:=by unfold bigN; rw [limbs_1]; decide
theorem may_whole {g:Bool} {Q:Nat} (h:bigN Q = false):MayR (g && decide (Q ≠ 0)) (limbs Q) [1] = true:=by
 have:=mayR_mk (g:=g) h big_1 (by decide) (Nat.gcd_one_right Q)
 rwa [limbs_1] at this
theorem lv (v:Nat):val (limbs v) = v:=(limbs_rep v).val
end Go.Proofs.YtpbcnkcnjnefiaaGreatDoor
