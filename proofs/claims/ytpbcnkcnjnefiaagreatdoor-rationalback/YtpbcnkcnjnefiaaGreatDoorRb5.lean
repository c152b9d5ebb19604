/- Rb5 -/
import Derived.Test.YtpbcnkcnjnefiaaGreatDoorWkb
import Derived.Test.YtpbcnkcnjnefiaaGreatDoorRy7
import Derived.Test.YtpbcnkcnjnefiaaGreatDoorRy9
import Derived.Test.YtpbcnkcnjnefiaaGreatDoorWrv
import Derived.Test.YtpbcnkcnjnefiaaGreatDoorRz9
import Derived.Test.YtpbcnkcnjnefiaaGreatDoorRp6
import Derived.Test.YtpbcnkcnjnefiaaGreatDoorRl2
namespace Go.Proofs.YtpbcnkcnjnefiaaGreatDoor
open Go.ChangeShapes Go.WideShapes Go.ChangeAt Go.RowKit Go.Deep
set_option linter.unusedVariables false
theorem makeF_same {g:Bool} {x y:List Nat} (ox:Ok x) (oy:Ok y) (h:MayR g x y = true):MakeF g x y = ((g,x,y),0):=by
 obtain ⟨kx,ky,ey,_,cp⟩:=MayR.parts h
 rw [← makeF_low kx ky ox oy ey]
 have e1:=limbs_val ox (MayL.norm kx)
 have e2:=limbs_val oy (MayL.norm ky)
 unfold lowF
 by_cases h0:val x = 0
 ·have hx:x = []:=(val_zero_iff kx).1 h0
  subst hx
  rw [if_pos h0]
  have hy:val y = 1:=by rw [h0,Nat.gcd_zero_left] at cp; exact cp
  rw [hy,limbs_1] at e2
  cases g
  ·rw [← e2]
  ·unfold MayR at h; simp at h
 ·rw [if_neg h0,cp,Nat.div_one,Nat.div_one,big_of_may ox kx,big_of_may oy ky,e1,e2]
  rfl
theorem tmR_facts {g:Bool} {x y:List Nat} {l:List (Bool × List Nat × List Nat)} {wh:Bool} {er:Int} (hm:MayR g x y = true) (h:TmR g x y 1024 l wh er):er = 0 ∧ 0 < l.length ∧ l.length ≤ 1024:=by
 cases h with
 | bad h => rw [hm] at h; cases h
 | arg h hp => omega
 | ok f h hp hf =>
  refine ⟨rfl,by simp,?_⟩
  have h2:=cf_len f (val y) (flL g (val x) (val y))
  simp only [List.length_cons,List.length_map]
  omega
theorem sameR_self (g:Bool) (x y:List Nat):sameR g x y g x y = true:=by unfold sameR; simp
theorem rfromFloat_RB (b:Nat) (w:World) (hb:b < 18446744073709551616) (hT:Tab64 w):Calls Tryz.prog 14 #[.int .u64 (b:Nat)] w fun e w' => ResR w w' (FfF b).1.1 (FfF b).1.2.1 (FfF b).1.2.2 (FfF b).2 e:=rfromFloat_any b w hb hT
theorem ratMake_R (neg:Bool) (a1 a2:Option Addr) (n1 c1 n2 c2:Nat) (xs ys:List Nat) (w:World) (h1:Sl w a1 n1 c1 xs) (h2:Sl w a2 n2 c2 ys) (ox:Ok xs) (oy:Ok ys) (hT:Tab64 w) :
  Calls Tryz.prog 9 #[.bool neg,.slice a1 n1 c1,.slice a2 n2 c2] w fun e w' => ResR w w' (MakeF neg xs ys).1.1 (MakeF neg xs ys).1.2.1 (MakeF neg xs ys).1.2.2 (MakeF neg xs ys).2 e:=ratMake_F neg a1 a2 n1 c1 n2 c2 xs ys w h1 h2 ox oy hT
theorem rfromTerms_R (a:Option Addr) (n c:Nat) (ps:List Nq) (w:World) (h:SlQ w a n c ps) (hn:n ≤ 140737488355328) (hT:Tab64 w) :
  Calls Tryz.prog 13 #[.slice a n c] w fun e w' => ResR w w' (FtF ps).1.1 (FtF ps).1.2.1 (FtF ps).1.2.2 (FtF ps).2 e:=rfromTerms_any a n c ps w h hn hT
def fQl (a:Option Addr) (n c:Nat) (ps:List Nq):Fct:=⟨fun w => SlQ w a n c ps,fun k h => h.below k⟩
theorem ex_back {b:Nat} (hb:b < 18446744073709551616):bits .and .u64 ((b:Int) / 4503599627370496) 2047 = (exB b:Int):=ex_bits hb
set_option maxRecDepth 100000 in
set_option maxHeartbeats 64000000 in
theorem back_no (g_a:Bool) (a_a:Option Addr) (n_a c_a:Nat) (x_a:List Nat) (b_a:Option Addr) (m_a d_a:Nat) (y_a:List Nat) (i_b:Nat) (w:World) (hx_a:Sl w a_a n_a c_a x_a) (hy_a:Sl w b_a m_a d_a y_a) (ox_a:Ok x_a) (oy_a:Ok y_a) (hb_b:i_b < 18446744073709551616) (hT:Tab64 w) (hT2:Tab32 w) (hTB:TabBh w) (hm:MayR g_a x_a y_a = false) :
  Calls Tryz.prog 3 #[ratV g_a a_a n_a c_a b_a m_a d_a,.int .u64 (i_b:Nat)] w fun e w' => e = .returned (.bool true) ∧ Below w.heap.size w w':=by
 have A00:Fcts w w [fTab]:=⟨Below.refl _ _,fun f hf => by simp at hf; subst hf; exact hT⟩
 have A01:=A00.add (fN a_a n_a c_a x_a b_a m_a d_a y_a) ⟨hx_a,hy_a⟩
 have O_a:=Hd (And.intro ox_a oy_a)
 have A0:=Hd A01
 have HBb:=Hd hb_b
 have HT2:=Hd (And.intro hT2 hTB)
 have HX:=Hd (ex_back hb_b)
 have HFB:=Hd (fun he => float_back hb_b he)
 clear hb_b hT2 hTB
 have HM:=Hd hm
 clear hm
 clear A00 hT hx_a hy_a A01 ox_a oy_a
 unfold ratV
 obtain ⟨w1,hw1⟩:∃ x,w.alloc (.cells #[.bool g_a,.slice a_a n_a c_a,.slice b_a m_a d_a] 25) = x:=⟨_,rfl⟩
 have Aw1:=Hd ((Uh A0).box (.bool g_a) (.slice a_a n_a c_a) (.slice b_a m_a d_a) 25)
 rw [hw1] at Aw1
 clear A0
 go_enter Tryz.func3,Tryz.ntmps3
 have t2:=(Uh Aw1).r (w.heap.size) (.bool g_a) (.slice a_a n_a c_a) (.slice b_a m_a d_a) (.head _)
 have t2a:=t2.c0
 have t2b:=t2.c1
 have t2c:=t2.c2
 clear t2
 go_wp2_with fail
 clear t2a t2b t2c
 have K:=ratMay_any g_a (a_a) (b_a) n_a c_a m_a d_a (x_a) (y_a)  w1 ((Uh Aw1).n (a_a) n_a c_a (x_a) (b_a) m_a d_a (y_a) mM1).num ((Uh Aw1).n (a_a) n_a c_a (x_a) (b_a) m_a d_a (y_a) mM1).den (Uh O_a).1 (Uh O_a).2 ((Uh Aw1).tab mM2)
 rw [Uh HM] at K
 unfold ratV at K
 refine K.mono ?_
 clear K
 rintro _ w3 ⟨rfl,hb⟩
 have Aw3:=Hd ((Uh Aw1).step hb)
 clear Aw1 hb
 go_wp2_with fail
 by_cases he:exB i_b = 2047
 ·have hff:FfF i_b = ((false,[],[]),1):=by unfold FfF; rw [if_pos he]
  have HR1:=Hd hff
  have tx:=Uh HX
  rw [he] at tx
  have HXX:=Hd tx
  clear hff he tx
  have K:=rfromFloat_RB i_b w3 (Uh HBb) ((Uh Aw3).tab mM2)
  rw [Uh HR1] at K
  try dsimp only at K
  try unfold ratV at K
  refine K.mono ?_
  clear K
  rintro _ w4 ⟨v,rfl,a_q4,n_q4,c_q4,b_q4,m_q4,d_q4,rfl,sx,sy,nx,ny,hb⟩
  try dsimp only at sx sy
  unfold ratV
  have Aw4:=Hd (((Uh Aw3).step hb).add (fN a_q4 n_q4 c_q4 [] b_q4 m_q4 d_q4 []) ⟨sx,sy⟩)
  clear Aw3 sx sy nx ny hb
  obtain ⟨w5,hw5⟩:∃ x,w4.alloc (.cells #[.bool false,.slice a_q4 n_q4 c_q4,.slice b_q4 m_q4 d_q4] 25) = x:=⟨_,rfl⟩
  have Aw5:=Hd ((Uh Aw4).box (.bool false) (.slice a_q4 n_q4 c_q4) (.slice b_q4 m_q4 d_q4) 25)
  rw [hw5] at Aw5
  clear Aw4
  go_wp2_with fail
  refine (rnum2_any 1 w5).mono ?_
  rintro _ w' ⟨rfl,hw⟩
  obtain rfl:=hw.symm
  clear hw
  have tx:=Uh HXX
  go_wp2_with fail
  refine (ralive_any w5 ((Uh Aw5).tab mM4)).mono ?_
  rintro _ wz ⟨rfl,hb⟩
  have HZ:=Hd (((Uh Aw5).step hb).bel)
  clear hb
  go_wp2_with fail
  go_ret
  exact ⟨rfl,Uh HZ⟩
 ·obtain ⟨gq,xq,yq,hf1,hf2,hf3,hf4⟩:=Uh HFB he
  have HR1:=Hd hf1
  have O_q:=Hd (And.intro hf2 hf3)
  have HF4:=Hd hf4
  have HE:=Hd he
  clear hf1 hf2 hf3 hf4 he
  have K:=rfromFloat_RB i_b w3 (Uh HBb) ((Uh Aw3).tab mM2)
  rw [Uh HR1] at K
  try dsimp only at K
  try unfold ratV at K
  refine K.mono ?_
  clear K
  rintro _ w6 ⟨v,rfl,a_q6,n_q6,c_q6,b_q6,m_q6,d_q6,rfl,sx,sy,nx,ny,hb⟩
  try dsimp only at sx sy
  unfold ratV
  have Aw6:=Hd (((Uh Aw3).step hb).add (fN a_q6 n_q6 c_q6 xq b_q6 m_q6 d_q6 yq) ⟨sx,sy⟩)
  clear Aw3 sx sy nx ny hb
  obtain ⟨w7,hw7⟩:∃ x,w6.alloc (.cells #[.bool gq,.slice a_q6 n_q6 c_q6,.slice b_q6 m_q6 d_q6] 25) = x:=⟨_,rfl⟩
  have Aw7:=Hd ((Uh Aw6).box (.bool gq) (.slice a_q6 n_q6 c_q6) (.slice b_q6 m_q6 d_q6) 25)
  rw [hw7] at Aw7
  clear Aw6
  go_wp2_with fail
  refine (rnum2_any 0 w7).mono ?_
  rintro _ w' ⟨rfl,hw⟩
  obtain rfl:=hw.symm
  clear hw
  have t8:=(Uh Aw7).r (w6.heap.size) (.bool gq) (.slice a_q6 n_q6 c_q6) (.slice b_q6 m_q6 d_q6) (.head _)
  have t8a:=t8.c0
  have t8b:=t8.c1
  have t8c:=t8.c2
  clear t8
  go_wp2_with fail
  clear t8a t8b t8c
  have K:=rfloat_any gq (a_q6) (b_q6) n_q6 c_q6 m_q6 d_q6 (xq) (yq)  w7 ((Uh Aw7).n (a_q6) n_q6 c_q6 (xq) (b_q6) m_q6 d_q6 (yq) mM1).num ((Uh Aw7).n (a_q6) n_q6 c_q6 (xq) (b_q6) m_q6 d_q6 (yq) mM1).den (Uh O_q).1 (Uh O_q).2 ((Uh Aw7).tab mM4) ((Uh HT2).1.below (Uh Aw7).bel)
  rw [Uh HF4] at K
  dsimp only at K
  unfold ratV at K
  have HK:=Hd K
  clear K
  by_cases hz:i_b = 9223372036854775808
  ·have HK:=Uh HK
   rw [if_pos hz] at HK
   have tz:((i_b:Int) == 9223372036854775808) = true:=by simp; omega
   have HTz:=Hd tz
   clear tz hz
   refine HK.mono ?_
   clear HK
   rintro _ w9 ⟨rfl,hb⟩
   have Aw9:=Hd ((Uh Aw7).step hb)
   clear Aw7 hb
   have tz:=Uh HTz
   go_wp2_with fail
   refine (rnum2_any 0 w9).mono ?_
   rintro _ w' ⟨rfl,hw⟩
   obtain rfl:=hw.symm
   clear hw
   go_wp2_with fail
   refine (ralive_any w9 ((Uh Aw9).tab mM4)).mono ?_
   rintro _ wz ⟨rfl,hb⟩
   have HZ:=Hd (((Uh Aw9).step hb).bel)
   clear hb
   go_wp2_with fail
   go_ret
   exact ⟨rfl,Uh HZ⟩
  ·have HK:=Uh HK
   rw [if_neg hz] at HK
   have tz:((i_b:Int) == 9223372036854775808) = false:=by simp; omega
   have HTz:=Hd tz
   clear tz hz
   refine HK.mono ?_
   clear HK
   rintro _ w9 ⟨rfl,hb⟩
   have Aw9:=Hd ((Uh Aw7).step hb)
   clear Aw7 hb
   have tz:=Uh HTz
   have tb:((i_b:Int) == (i_b:Int)) = true:=by simp
   obtain ⟨EX,hEX⟩:∃ z,exB i_b = z:=⟨_,rfl⟩
   have tx:=Uh HX
   have hE:=Uh HE
   rw [hEX] at tx hE
   have te:((EX:Int) != 2047) = true:=by simp; omega
   have te2:((EX:Int) == 2047) = false:=by simp; omega
   clear hEX hE
   go_wp2_with fail
   refine (rnum2_any 0 w9).mono ?_
   rintro _ w' ⟨rfl,hw⟩
   obtain rfl:=hw.symm
   clear hw
   go_wp2_with fail
   refine (ralive_any w9 ((Uh Aw9).tab mM4)).mono ?_
   rintro _ wz ⟨rfl,hb⟩
   have HZ:=Hd (((Uh Aw9).step hb).bel)
   clear hb
   go_wp2_with fail
   go_ret
   exact ⟨rfl,Uh HZ⟩
set_option maxRecDepth 100000 in
set_option maxHeartbeats 64000000 in
theorem back_yes (g_a:Bool) (a_a:Option Addr) (n_a c_a:Nat) (x_a:List Nat) (b_a:Option Addr) (m_a d_a:Nat) (y_a:List Nat) (i_b:Nat) (w:World) (hx_a:Sl w a_a n_a c_a x_a) (hy_a:Sl w b_a m_a d_a y_a) (ox_a:Ok x_a) (oy_a:Ok y_a) (hb_b:i_b < 18446744073709551616) (hT:Tab64 w) (hT2:Tab32 w) (hTB:TabBh w) (hm:MayR g_a x_a y_a = true) :
  Calls Tryz.prog 3 #[ratV g_a a_a n_a c_a b_a m_a d_a,.int .u64 (i_b:Nat)] w fun e w' => e = .returned (.bool true) ∧ Below w.heap.size w w':=by
 have A00:Fcts w w [fTab]:=⟨Below.refl _ _,fun f hf => by simp at hf; subst hf; exact hT⟩
 have A01:=A00.add (fN a_a n_a c_a x_a b_a m_a d_a y_a) ⟨hx_a,hy_a⟩
 have O_a:=Hd (And.intro ox_a oy_a)
 have A0:=Hd A01
 have HBb:=Hd hb_b
 have HT2:=Hd (And.intro hT2 hTB)
 have HX:=Hd (ex_back hb_b)
 have HFB:=Hd (fun he => float_back hb_b he)
 clear hb_b hT2 hTB
 have HM:=Hd hm
 have HMK:=Hd (makeF_same ox_a oy_a hm)
 have HTB:=Hd (fun (ps:List Nq) (most e:Int) (ht:TmR g_a x_a y_a most (ps.map conQ) true e) => terms_back ox_a oy_a hm ht)
 have O_r:=Hd (And.intro ox_a oy_a)
 have O_m:=Hd (And.intro ox_a oy_a)
 have O_t:=Hd (And.intro ox_a oy_a)
 have HSA:=Hd (sameR_self g_a x_a y_a)
 clear hm
 clear A00 hT hx_a hy_a A01 ox_a oy_a
 unfold ratV
 obtain ⟨w1,hw1⟩:∃ x,w.alloc (.cells #[.bool g_a,.slice a_a n_a c_a,.slice b_a m_a d_a] 25) = x:=⟨_,rfl⟩
 have Aw1:=Hd ((Uh A0).box (.bool g_a) (.slice a_a n_a c_a) (.slice b_a m_a d_a) 25)
 rw [hw1] at Aw1
 clear A0
 go_enter Tryz.func3,Tryz.ntmps3
 have t2:=(Uh Aw1).r (w.heap.size) (.bool g_a) (.slice a_a n_a c_a) (.slice b_a m_a d_a) (.head _)
 have t2a:=t2.c0
 have t2b:=t2.c1
 have t2c:=t2.c2
 clear t2
 go_wp2_with fail
 clear t2a t2b t2c
 have K:=ratMay_any g_a (a_a) (b_a) n_a c_a m_a d_a (x_a) (y_a)  w1 ((Uh Aw1).n (a_a) n_a c_a (x_a) (b_a) m_a d_a (y_a) mM1).num ((Uh Aw1).n (a_a) n_a c_a (x_a) (b_a) m_a d_a (y_a) mM1).den (Uh O_a).1 (Uh O_a).2 ((Uh Aw1).tab mM2)
 rw [Uh HM] at K
 unfold ratV at K
 refine K.mono ?_
 clear K
 rintro _ w3 ⟨rfl,hb⟩
 have Aw3:=Hd ((Uh Aw1).step hb)
 clear Aw1 hb
 have t4:=(Uh Aw3).r (w.heap.size) (.bool g_a) (.slice a_a n_a c_a) (.slice b_a m_a d_a) (.head _)
 have t4a:=t4.c0
 have t4b:=t4.c1
 have t4c:=t4.c2
 clear t4
 go_wp2_with fail
 clear t4a t4b t4c
 have K:=ratPrint_any g_a (a_a) (b_a) n_a c_a m_a d_a (x_a) (y_a)  w3 ((Uh Aw3).n (a_a) n_a c_a (x_a) (b_a) m_a d_a (y_a) mM1).num ((Uh Aw3).n (a_a) n_a c_a (x_a) (b_a) m_a d_a (y_a) mM1).den (Uh O_a).1 (Uh O_a).2 ((Uh Aw3).tab mM2)
 unfold ratV at K
 refine K.mono ?_
 clear K
 rintro _ w5 ⟨s,er,rfl,hP,hb⟩
 have her:er = 0:=by
   cases hP with
   | bad h => rw [Uh HM] at h; cases h
   | whole n h hy ht => rfl
   | frac n m h hy ht hm => rfl
 subst her
 have HPR:=Hd hP
 have Aw5:=Hd ((Uh Aw3).step hb)
 clear Aw3 hb hP
 go_wp2_with fail
 have K:=rparse_print g_a x_a y_a s w5 (Uh O_a).1 (Uh O_a).2 (Uh HPR) ((Uh Aw5).tab mM2) ((Uh HT2).2.below (Uh Aw5).bel)
 refine K.mono ?_
 clear K
 rintro _ w6 ⟨v,rfl,a_r,n_r,c_r,b_r,m_r,d_r,rfl,sx,sy,nx,ny,hb⟩
 unfold ratV
 have Aw6:=Hd (((Uh Aw5).step hb).add (fN a_r n_r c_r x_a b_r m_r d_r y_a) ⟨sx,sy⟩)
 clear Aw5 sx sy nx ny hb
 obtain ⟨w7,hw7⟩:∃ x,w6.alloc (.cells #[.bool g_a,.slice a_r n_r c_r,.slice b_r m_r d_r] 25) = x:=⟨_,rfl⟩
 have Aw7:=Hd ((Uh Aw6).box (.bool g_a) (.slice a_r n_r c_r) (.slice b_r m_r d_r) 25)
 rw [hw7] at Aw7
 clear Aw6
 have t8:=(Uh Aw7).r (w.heap.size) (.bool g_a) (.slice a_a n_a c_a) (.slice b_a m_a d_a) mM2
 have t8a:=t8.c0
 have t8b:=t8.c1
 have t8c:=t8.c2
 clear t8
 go_wp2_with fail
 clear t8a t8b t8c
 have K:=ratMake_R g_a a_a b_a n_a c_a m_a d_a x_a y_a w7 ((Uh Aw7).n (a_a) n_a c_a (x_a) (b_a) m_a d_a (y_a) mM3).num ((Uh Aw7).n (a_a) n_a c_a (x_a) (b_a) m_a d_a (y_a) mM3).den (Uh O_a).1 (Uh O_a).2 ((Uh Aw7).tab mM4)
 rw [Uh HMK] at K
 try dsimp only at K
 try unfold ratV at K
 refine K.mono ?_
 clear K
 rintro _ w9 ⟨v,rfl,a_m9,n_m9,c_m9,b_m9,m_m9,d_m9,rfl,sx,sy,nx,ny,hb⟩
 try dsimp only at sx sy
 unfold ratV
 have Aw9:=Hd (((Uh Aw7).step hb).add (fN a_m9 n_m9 c_m9 x_a b_m9 m_m9 d_m9 y_a) ⟨sx,sy⟩)
 clear Aw7 sx sy nx ny hb
 obtain ⟨w10,hw10⟩:∃ x,w9.alloc (.cells #[.bool g_a,.slice a_m9 n_m9 c_m9,.slice b_m9 m_m9 d_m9] 25) = x:=⟨_,rfl⟩
 have Aw10:=Hd ((Uh Aw9).box (.bool g_a) (.slice a_m9 n_m9 c_m9) (.slice b_m9 m_m9 d_m9) 25)
 rw [hw10] at Aw10
 clear Aw9
 go_wp2_with fail
 refine (rnum2_any 0 w10).mono ?_
 rintro _ w' ⟨rfl,hw⟩
 obtain rfl:=hw.symm
 clear hw
 go_wp2_with fail
 refine (rnum2_any 0 w10).mono ?_
 rintro _ w' ⟨rfl,hw⟩
 obtain rfl:=hw.symm
 clear hw
 go_wp2_with fail
 refine (rnum2_any 0 w10).mono ?_
 rintro _ w' ⟨rfl,hw⟩
 obtain rfl:=hw.symm
 clear hw
 have t11:=(Uh Aw10).r (w6.heap.size) (.bool g_a) (.slice a_r n_r c_r) (.slice b_r m_r d_r) mM2
 have t11a:=t11.c0
 have t11b:=t11.c1
 have t11c:=t11.c2
 clear t11
 have t12:=(Uh Aw10).r (w.heap.size) (.bool g_a) (.slice a_a n_a c_a) (.slice b_a m_a d_a) mM4
 have t12a:=t12.c0
 have t12b:=t12.c1
 have t12c:=t12.c2
 clear t12
 go_wp2_with fail
 clear t11a t11b t11c t12a t12b t12c
 have K:=sameRat_any g_a g_a (a_r) (b_r) (a_a) (b_a) n_r c_r m_r d_r n_a c_a m_a d_a (x_a) (y_a) (x_a) (y_a) w10 ((Uh Aw10).n (a_r) n_r c_r (x_a) (b_r) m_r d_r (y_a) mM3).num ((Uh Aw10).n (a_r) n_r c_r (x_a) (b_r) m_r d_r (y_a) mM3).den ((Uh Aw10).n (a_a) n_a c_a (x_a) (b_a) m_a d_a (y_a) mM5).num ((Uh Aw10).n (a_a) n_a c_a (x_a) (b_a) m_a d_a (y_a) mM5).den
 rw [Uh HSA] at K
 unfold ratV at K
 refine K.mono ?_
 clear K
 rintro _ w13 ⟨rfl,hb⟩
 have Aw13:=Hd ((Uh Aw10).step hb)
 clear Aw10 hb
 have t14:=(Uh Aw13).r (w9.heap.size) (.bool g_a) (.slice a_m9 n_m9 c_m9) (.slice b_m9 m_m9 d_m9) (.head _)
 have t14a:=t14.c0
 have t14b:=t14.c1
 have t14c:=t14.c2
 clear t14
 have t15:=(Uh Aw13).r (w.heap.size) (.bool g_a) (.slice a_a n_a c_a) (.slice b_a m_a d_a) mM4
 have t15a:=t15.c0
 have t15b:=t15.c1
 have t15c:=t15.c2
 clear t15
 go_wp2_with fail
 clear t14a t14b t14c t15a t15b t15c
 have K:=sameRat_any g_a g_a (a_m9) (b_m9) (a_a) (b_a) n_m9 c_m9 m_m9 d_m9 n_a c_a m_a d_a (x_a) (y_a) (x_a) (y_a) w13 ((Uh Aw13).n (a_m9) n_m9 c_m9 (x_a) (b_m9) m_m9 d_m9 (y_a) mM1).num ((Uh Aw13).n (a_m9) n_m9 c_m9 (x_a) (b_m9) m_m9 d_m9 (y_a) mM1).den ((Uh Aw13).n (a_a) n_a c_a (x_a) (b_a) m_a d_a (y_a) mM5).num ((Uh Aw13).n (a_a) n_a c_a (x_a) (b_a) m_a d_a (y_a) mM5).den
 rw [Uh HSA] at K
 unfold ratV at K
 refine K.mono ?_
 clear K
 rintro _ w16 ⟨rfl,hb⟩
 have Aw16:=Hd ((Uh Aw13).step hb)
 clear Aw13 hb
 have t17:=(Uh Aw16).r (w.heap.size) (.bool g_a) (.slice a_a n_a c_a) (.slice b_a m_a d_a) mM4
 have t17a:=t17.c0
 have t17b:=t17.c1
 have t17c:=t17.c2
 clear t17
 go_wp2_with fail
 clear t17a t17b t17c
 have K:=rterms_any g_a (a_a) (b_a) n_a c_a m_a d_a x_a y_a 1024 w16 ((Uh Aw16).n (a_a) n_a c_a (x_a) (b_a) m_a d_a (y_a) mM5).num ((Uh Aw16).n (a_a) n_a c_a (x_a) (b_a) m_a d_a (y_a) mM5).den (Uh O_a).1 (Uh O_a).2 ((Uh Aw16).tab mM6)
 unfold ratV at K
 refine K.mono ?_
 clear K
 rintro _ w18 ⟨a_l,k_l,c_l,ps,wh,er,rfl,hQ,hTm,hb⟩
 obtain ⟨her,hk0,hk1⟩:=tmR_facts (Uh HM) hTm
 subst her
 have hlen:ps.length = k_l:=hQ.len
 rw [List.length_map,hlen] at hk0 hk1
 have tl:((k_l:Int) == 0) = false:=by simp; omega
 have HTM:=Hd hTm
 have Aw18:=Hd (((Uh Aw16).step hb).add (fQl a_l k_l c_l ps) hQ)
 clear Aw16 hb hQ hTm hlen
 go_wp2_with fail
 refine (rnum2_any 0 w18).mono ?_
 rintro _ w' ⟨rfl,hw⟩
 obtain rfl:=hw.symm
 clear hw
 cases wh
 ·skip
  go_wp2_with fail
  by_cases he:exB i_b = 2047
  ·have hff:FfF i_b = ((false,[],[]),1):=by unfold FfF; rw [if_pos he]
   have HR1:=Hd hff
   have tx:=Uh HX
   rw [he] at tx
   have HXX:=Hd tx
   clear hff he tx
   have K:=rfromFloat_RB i_b w18 (Uh HBb) ((Uh Aw18).tab mM7)
   rw [Uh HR1] at K
   try dsimp only at K
   try unfold ratV at K
   refine K.mono ?_
   clear K
   rintro _ w19 ⟨v,rfl,a_q19,n_q19,c_q19,b_q19,m_q19,d_q19,rfl,sx,sy,nx,ny,hb⟩
   try dsimp only at sx sy
   unfold ratV
   have Aw19:=Hd (((Uh Aw18).step hb).add (fN a_q19 n_q19 c_q19 [] b_q19 m_q19 d_q19 []) ⟨sx,sy⟩)
   clear Aw18 sx sy nx ny hb
   obtain ⟨w20,hw20⟩:∃ x,w19.alloc (.cells #[.bool false,.slice a_q19 n_q19 c_q19,.slice b_q19 m_q19 d_q19] 25) = x:=⟨_,rfl⟩
   have Aw20:=Hd ((Uh Aw19).box (.bool false) (.slice a_q19 n_q19 c_q19) (.slice b_q19 m_q19 d_q19) 25)
   rw [hw20] at Aw20
   clear Aw19
   go_wp2_with fail
   refine (rnum2_any 1 w20).mono ?_
   rintro _ w' ⟨rfl,hw⟩
   obtain rfl:=hw.symm
   clear hw
   have tx:=Uh HXX
   go_wp2_with fail
   refine (ralive_any w20 ((Uh Aw20).tab mM9)).mono ?_
   rintro _ wz ⟨rfl,hb⟩
   have HZ:=Hd (((Uh Aw20).step hb).bel)
   clear hb
   go_wp2_with fail
   go_ret
   exact ⟨rfl,Uh HZ⟩
  ·obtain ⟨gq,xq,yq,hf1,hf2,hf3,hf4⟩:=Uh HFB he
   have HR1:=Hd hf1
   have O_q:=Hd (And.intro hf2 hf3)
   have HF4:=Hd hf4
   have HE:=Hd he
   clear hf1 hf2 hf3 hf4 he
   have K:=rfromFloat_RB i_b w18 (Uh HBb) ((Uh Aw18).tab mM7)
   rw [Uh HR1] at K
   try dsimp only at K
   try unfold ratV at K
   refine K.mono ?_
   clear K
   rintro _ w21 ⟨v,rfl,a_q21,n_q21,c_q21,b_q21,m_q21,d_q21,rfl,sx,sy,nx,ny,hb⟩
   try dsimp only at sx sy
   unfold ratV
   have Aw21:=Hd (((Uh Aw18).step hb).add (fN a_q21 n_q21 c_q21 xq b_q21 m_q21 d_q21 yq) ⟨sx,sy⟩)
   clear Aw18 sx sy nx ny hb
   obtain ⟨w22,hw22⟩:∃ x,w21.alloc (.cells #[.bool gq,.slice a_q21 n_q21 c_q21,.slice b_q21 m_q21 d_q21] 25) = x:=⟨_,rfl⟩
   have Aw22:=Hd ((Uh Aw21).box (.bool gq) (.slice a_q21 n_q21 c_q21) (.slice b_q21 m_q21 d_q21) 25)
   rw [hw22] at Aw22
   clear Aw21
   go_wp2_with fail
   refine (rnum2_any 0 w22).mono ?_
   rintro _ w' ⟨rfl,hw⟩
   obtain rfl:=hw.symm
   clear hw
   have t23:=(Uh Aw22).r (w21.heap.size) (.bool gq) (.slice a_q21 n_q21 c_q21) (.slice b_q21 m_q21 d_q21) (.head _)
   have t23a:=t23.c0
   have t23b:=t23.c1
   have t23c:=t23.c2
   clear t23
   go_wp2_with fail
   clear t23a t23b t23c
   have K:=rfloat_any gq (a_q21) (b_q21) n_q21 c_q21 m_q21 d_q21 (xq) (yq)  w22 ((Uh Aw22).n (a_q21) n_q21 c_q21 (xq) (b_q21) m_q21 d_q21 (yq) mM1).num ((Uh Aw22).n (a_q21) n_q21 c_q21 (xq) (b_q21) m_q21 d_q21 (yq) mM1).den (Uh O_q).1 (Uh O_q).2 ((Uh Aw22).tab mM9) ((Uh HT2).1.below (Uh Aw22).bel)
   rw [Uh HF4] at K
   dsimp only at K
   unfold ratV at K
   have HK:=Hd K
   clear K
   by_cases hz:i_b = 9223372036854775808
   ·have HK:=Uh HK
    rw [if_pos hz] at HK
    have tz:((i_b:Int) == 9223372036854775808) = true:=by simp; omega
    have HTz:=Hd tz
    clear tz hz
    refine HK.mono ?_
    clear HK
    rintro _ w24 ⟨rfl,hb⟩
    have Aw24:=Hd ((Uh Aw22).step hb)
    clear Aw22 hb
    have tz:=Uh HTz
    go_wp2_with fail
    refine (rnum2_any 0 w24).mono ?_
    rintro _ w' ⟨rfl,hw⟩
    obtain rfl:=hw.symm
    clear hw
    go_wp2_with fail
    refine (ralive_any w24 ((Uh Aw24).tab mM9)).mono ?_
    rintro _ wz ⟨rfl,hb⟩
    have HZ:=Hd (((Uh Aw24).step hb).bel)
    clear hb
    go_wp2_with fail
    go_ret
    exact ⟨rfl,Uh HZ⟩
   ·have HK:=Uh HK
    rw [if_neg hz] at HK
    have tz:((i_b:Int) == 9223372036854775808) = false:=by simp; omega
    have HTz:=Hd tz
    clear tz hz
    refine HK.mono ?_
    clear HK
    rintro _ w24 ⟨rfl,hb⟩
    have Aw24:=Hd ((Uh Aw22).step hb)
    clear Aw22 hb
    have tz:=Uh HTz
    have tb:((i_b:Int) == (i_b:Int)) = true:=by simp
    obtain ⟨EX,hEX⟩:∃ z,exB i_b = z:=⟨_,rfl⟩
    have tx:=Uh HX
    have hE:=Uh HE
    rw [hEX] at tx hE
    have te:((EX:Int) != 2047) = true:=by simp; omega
    have te2:((EX:Int) == 2047) = false:=by simp; omega
    clear hEX hE
    go_wp2_with fail
    refine (rnum2_any 0 w24).mono ?_
    rintro _ w' ⟨rfl,hw⟩
    obtain rfl:=hw.symm
    clear hw
    go_wp2_with fail
    refine (ralive_any w24 ((Uh Aw24).tab mM9)).mono ?_
    rintro _ wz ⟨rfl,hb⟩
    have HZ:=Hd (((Uh Aw24).step hb).bel)
    clear hb
    go_wp2_with fail
    go_ret
    exact ⟨rfl,Uh HZ⟩
 ·have HFT:=Hd (Uh HTB ps _ _ (Uh HTM))
  go_wp2_with fail
  have K:=rfromTerms_R a_l k_l c_l ps w18 ((Uh Aw18).all (fQl a_l k_l c_l ps) (.head _)) (by omega) ((Uh Aw18).tab mM7)
  rw [Uh HFT] at K
  try dsimp only at K
  try unfold ratV at K
  refine K.mono ?_
  clear K
  rintro _ w25 ⟨v,rfl,a_t25,n_t25,c_t25,b_t25,m_t25,d_t25,rfl,sx,sy,nx,ny,hb⟩
  try dsimp only at sx sy
  unfold ratV
  have Aw25:=Hd (((Uh Aw18).step hb).add (fN a_t25 n_t25 c_t25 x_a b_t25 m_t25 d_t25 y_a) ⟨sx,sy⟩)
  clear Aw18 sx sy nx ny hb
  obtain ⟨w26,hw26⟩:∃ x,w25.alloc (.cells #[.bool g_a,.slice a_t25 n_t25 c_t25,.slice b_t25 m_t25 d_t25] 25) = x:=⟨_,rfl⟩
  have Aw26:=Hd ((Uh Aw25).box (.bool g_a) (.slice a_t25 n_t25 c_t25) (.slice b_t25 m_t25 d_t25) 25)
  rw [hw26] at Aw26
  clear Aw25
  go_wp2_with fail
  refine (rnum2_any 0 w26).mono ?_
  rintro _ w' ⟨rfl,hw⟩
  obtain rfl:=hw.symm
  clear hw
  have t27:=(Uh Aw26).r (w25.heap.size) (.bool g_a) (.slice a_t25 n_t25 c_t25) (.slice b_t25 m_t25 d_t25) (.head _)
  have t27a:=t27.c0
  have t27b:=t27.c1
  have t27c:=t27.c2
  clear t27
  have t28:=(Uh Aw26).r (w.heap.size) (.bool g_a) (.slice a_a n_a c_a) (.slice b_a m_a d_a) mM7
  have t28a:=t28.c0
  have t28b:=t28.c1
  have t28c:=t28.c2
  clear t28
  go_wp2_with fail
  clear t27a t27b t27c t28a t28b t28c
  have K:=sameRat_any g_a g_a (a_t25) (b_t25) (a_a) (b_a) n_t25 c_t25 m_t25 d_t25 n_a c_a m_a d_a (x_a) (y_a) (x_a) (y_a) w26 ((Uh Aw26).n (a_t25) n_t25 c_t25 (x_a) (b_t25) m_t25 d_t25 (y_a) mM1).num ((Uh Aw26).n (a_t25) n_t25 c_t25 (x_a) (b_t25) m_t25 d_t25 (y_a) mM1).den ((Uh Aw26).n (a_a) n_a c_a (x_a) (b_a) m_a d_a (y_a) mM8).num ((Uh Aw26).n (a_a) n_a c_a (x_a) (b_a) m_a d_a (y_a) mM8).den
  rw [Uh HSA] at K
  unfold ratV at K
  refine K.mono ?_
  clear K
  rintro _ w29 ⟨rfl,hb⟩
  have Aw29:=Hd ((Uh Aw26).step hb)
  clear Aw26 hb
  go_wp2_with fail
  by_cases he:exB i_b = 2047
  ·have hff:FfF i_b = ((false,[],[]),1):=by unfold FfF; rw [if_pos he]
   have HR1:=Hd hff
   have tx:=Uh HX
   rw [he] at tx
   have HXX:=Hd tx
   clear hff he tx
   have K:=rfromFloat_RB i_b w29 (Uh HBb) ((Uh Aw29).tab mM9)
   rw [Uh HR1] at K
   try dsimp only at K
   try unfold ratV at K
   refine K.mono ?_
   clear K
   rintro _ w30 ⟨v,rfl,a_q30,n_q30,c_q30,b_q30,m_q30,d_q30,rfl,sx,sy,nx,ny,hb⟩
   try dsimp only at sx sy
   unfold ratV
   have Aw30:=Hd (((Uh Aw29).step hb).add (fN a_q30 n_q30 c_q30 [] b_q30 m_q30 d_q30 []) ⟨sx,sy⟩)
   clear Aw29 sx sy nx ny hb
   obtain ⟨w31,hw31⟩:∃ x,w30.alloc (.cells #[.bool false,.slice a_q30 n_q30 c_q30,.slice b_q30 m_q30 d_q30] 25) = x:=⟨_,rfl⟩
   have Aw31:=Hd ((Uh Aw30).box (.bool false) (.slice a_q30 n_q30 c_q30) (.slice b_q30 m_q30 d_q30) 25)
   rw [hw31] at Aw31
   clear Aw30
   go_wp2_with fail
   refine (rnum2_any 1 w31).mono ?_
   rintro _ w' ⟨rfl,hw⟩
   obtain rfl:=hw.symm
   clear hw
   have tx:=Uh HXX
   go_wp2_with fail
   refine (ralive_any w31 ((Uh Aw31).tab mM11)).mono ?_
   rintro _ wz ⟨rfl,hb⟩
   have HZ:=Hd (((Uh Aw31).step hb).bel)
   clear hb
   go_wp2_with fail
   go_ret
   exact ⟨rfl,Uh HZ⟩
  ·obtain ⟨gq,xq,yq,hf1,hf2,hf3,hf4⟩:=Uh HFB he
   have HR1:=Hd hf1
   have O_q:=Hd (And.intro hf2 hf3)
   have HF4:=Hd hf4
   have HE:=Hd he
   clear hf1 hf2 hf3 hf4 he
   have K:=rfromFloat_RB i_b w29 (Uh HBb) ((Uh Aw29).tab mM9)
   rw [Uh HR1] at K
   try dsimp only at K
   try unfold ratV at K
   refine K.mono ?_
   clear K
   rintro _ w32 ⟨v,rfl,a_q32,n_q32,c_q32,b_q32,m_q32,d_q32,rfl,sx,sy,nx,ny,hb⟩
   try dsimp only at sx sy
   unfold ratV
   have Aw32:=Hd (((Uh Aw29).step hb).add (fN a_q32 n_q32 c_q32 xq b_q32 m_q32 d_q32 yq) ⟨sx,sy⟩)
   clear Aw29 sx sy nx ny hb
   obtain ⟨w33,hw33⟩:∃ x,w32.alloc (.cells #[.bool gq,.slice a_q32 n_q32 c_q32,.slice b_q32 m_q32 d_q32] 25) = x:=⟨_,rfl⟩
   have Aw33:=Hd ((Uh Aw32).box (.bool gq) (.slice a_q32 n_q32 c_q32) (.slice b_q32 m_q32 d_q32) 25)
   rw [hw33] at Aw33
   clear Aw32
   go_wp2_with fail
   refine (rnum2_any 0 w33).mono ?_
   rintro _ w' ⟨rfl,hw⟩
   obtain rfl:=hw.symm
   clear hw
   have t34:=(Uh Aw33).r (w32.heap.size) (.bool gq) (.slice a_q32 n_q32 c_q32) (.slice b_q32 m_q32 d_q32) (.head _)
   have t34a:=t34.c0
   have t34b:=t34.c1
   have t34c:=t34.c2
   clear t34
   go_wp2_with fail
   clear t34a t34b t34c
   have K:=rfloat_any gq (a_q32) (b_q32) n_q32 c_q32 m_q32 d_q32 (xq) (yq)  w33 ((Uh Aw33).n (a_q32) n_q32 c_q32 (xq) (b_q32) m_q32 d_q32 (yq) mM1).num ((Uh Aw33).n (a_q32) n_q32 c_q32 (xq) (b_q32) m_q32 d_q32 (yq) mM1).den (Uh O_q).1 (Uh O_q).2 ((Uh Aw33).tab mM11) ((Uh HT2).1.below (Uh Aw33).bel)
   rw [Uh HF4] at K
   dsimp only at K
   unfold ratV at K
   have HK:=Hd K
   clear K
   by_cases hz:i_b = 9223372036854775808
   ·have HK:=Uh HK
    rw [if_pos hz] at HK
    have tz:((i_b:Int) == 9223372036854775808) = true:=by simp; omega
    have HTz:=Hd tz
    clear tz hz
    refine HK.mono ?_
    clear HK
    rintro _ w35 ⟨rfl,hb⟩
    have Aw35:=Hd ((Uh Aw33).step hb)
    clear Aw33 hb
    have tz:=Uh HTz
    go_wp2_with fail
    refine (rnum2_any 0 w35).mono ?_
    rintro _ w' ⟨rfl,hw⟩
    obtain rfl:=hw.symm
    clear hw
    go_wp2_with fail
    refine (ralive_any w35 ((Uh Aw35).tab mM11)).mono ?_
    rintro _ wz ⟨rfl,hb⟩
    have HZ:=Hd (((Uh Aw35).step hb).bel)
    clear hb
    go_wp2_with fail
    go_ret
    exact ⟨rfl,Uh HZ⟩
   ·have HK:=Uh HK
    rw [if_neg hz] at HK
    have tz:((i_b:Int) == 9223372036854775808) = false:=by simp; omega
    have HTz:=Hd tz
    clear tz hz
    refine HK.mono ?_
    clear HK
    rintro _ w35 ⟨rfl,hb⟩
    have Aw35:=Hd ((Uh Aw33).step hb)
    clear Aw33 hb
    have tz:=Uh HTz
    have tb:((i_b:Int) == (i_b:Int)) = true:=by simp
    obtain ⟨EX,hEX⟩:∃ z,exB i_b = z:=⟨_,rfl⟩
    have tx:=Uh HX
    have hE:=Uh HE
    rw [hEX] at tx hE
    have te:((EX:Int) != 2047) = true:=by simp; omega
    have te2:((EX:Int) == 2047) = false:=by simp; omega
    clear hEX hE
    go_wp2_with fail
    refine (rnum2_any 0 w35).mono ?_
    rintro _ w' ⟨rfl,hw⟩
    obtain rfl:=hw.symm
    clear hw
    go_wp2_with fail
    refine (ralive_any w35 ((Uh Aw35).tab mM11)).mono ?_
    rintro _ wz ⟨rfl,hb⟩
    have HZ:=Hd (((Uh Aw35).step hb).bel)
    clear hb
    go_wp2_with fail
    go_ret
    exact ⟨rfl,Uh HZ⟩
theorem rationalBack_walk (g_a:Bool) (a_a:Option Addr) (n_a c_a:Nat) (x_a:List Nat) (b_a:Option Addr) (m_a d_a:Nat) (y_a:List Nat) (i_b:Nat) (w:World) (hx_a:Sl w a_a n_a c_a x_a) (hy_a:Sl w b_a m_a d_a y_a) (ox_a:Ok x_a) (oy_a:Ok y_a) (hb_b:i_b < 18446744073709551616) (hT:Tab64 w) (hT2:Tab32 w) (hTB:TabBh w) :
  Calls Tryz.prog 3 #[ratV g_a a_a n_a c_a b_a m_a d_a,.int .u64 (i_b:Nat)] w fun e w' => e = .returned (.bool true) ∧ Below w.heap.size w w':=by
 cases hm:MayR g_a x_a y_a
 ·exact back_no g_a a_a n_a c_a x_a b_a m_a d_a y_a i_b w hx_a hy_a ox_a oy_a hb_b hT hT2 hTB hm
 ·exact back_yes g_a a_a n_a c_a x_a b_a m_a d_a y_a i_b w hx_a hy_a ox_a oy_a hb_b hT hT2 hTB hm
end Go.Proofs.YtpbcnkcnjnefiaaGreatDoor
