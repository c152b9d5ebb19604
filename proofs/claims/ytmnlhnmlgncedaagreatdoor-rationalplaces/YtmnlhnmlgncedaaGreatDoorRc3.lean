/- Rc3 -/
import Derived.Test.YtmnlhnmlgncedaaGreatDoorMy2
import Derived.Test.YtmnlhnmlgncedaaGreatDoorRxeF
import Derived.Test.YtmnlhnmlgncedaaGreatDoorRg2
import Derived.Test.YtmnlhnmlgncedaaGreatDoorRu3
import Derived.Test.YtmnlhnmlgncedaaGreatDoorRl2
namespace Go.Proofs.YtmnlhnmlgncedaaGreatDoor
open Go.ChangeShapes Go.WideShapes Go.ChangeAt Go.RowKit Go.Deep
set_option linter.unusedVariables false
theorem dc_arg {g:Bool} {x y:List Nat} {pl:Int} {s:ByteArray} {er:Int} (hm:MayR g x y = true) (hp:pl < 0 ∨ 1000 < pl) (h:DcR g x y pl s er):s = ⟨#[]⟩ ∧ er = 1:=by
 cases h with
 | bad h => rw [hm] at h; cases h
 | arg h hp => exact ⟨rfl,rfl⟩
 | text k L N h hk hk2 hN ht => omega
theorem nil_bad:TkBad ⟨#[]⟩ 0:=by
 have hk:kdA ⟨#[]⟩ 0 = 7:=kdA_top ⟨#[]⟩
 exact bad_none (s:=⟨#[]⟩) (g:=false) (i:=0) ⟨(fun h => by cases h),(fun _ => ⟨rfl,by rw [hk]; decide⟩)⟩ ⟨Nat.le_refl _,Nat.le_refl _,fun q h1 h2 => by omega,by rw [hk]; decide⟩
set_option maxRecDepth 100000 in
set_option maxHeartbeats 64000000 in
theorem places_no (g_a:Bool) (a_a:Option Addr) (n_a c_a:Nat) (x_a:List Nat) (b_a:Option Addr) (m_a d_a:Nat) (y_a:List Nat) (i_pl:Int) (w:World) (hx_a:Sl w a_a n_a c_a x_a) (hy_a:Sl w b_a m_a d_a y_a) (ox_a:Ok x_a) (oy_a:Ok y_a) (hT:Tab64 w) (hTB:TabBh w) (hm:MayR g_a x_a y_a = false) :
  Calls Tryz.prog 4 #[ratV g_a a_a n_a c_a b_a m_a d_a,.int .i64 i_pl] w fun e w' => e = .returned (.bool true) ∧ Below w.heap.size w w':=by
 have A00:Fcts w w [fTab]:=⟨Below.refl _ _,fun f hf => by simp at hf; subst hf; exact hT⟩
 have A01:=A00.add (fN a_a n_a c_a x_a b_a m_a d_a y_a) ⟨hx_a,hy_a⟩
 have O_a:=Hj (And.intro ox_a oy_a)
 have A0:=Hj A01
 have HM:=Hj hm
 have HT2:=Hj hTB
 clear hm hTB
 clear A00 hT hx_a hy_a A01 ox_a oy_a
 unfold ratV
 obtain ⟨w1,hw1⟩:∃ x,w.alloc (.cells #[.bool g_a,.slice a_a n_a c_a,.slice b_a m_a d_a] 25) = x:=⟨_,rfl⟩
 have Aw1:=Hj ((Uh A0).box (.bool g_a) (.slice a_a n_a c_a) (.slice b_a m_a d_a) 25)
 rw [hw1] at Aw1
 clear A0
 go_enter Tryz.func4,Tryz.ntmps4
 have t2:=(Uh Aw1).r (w.heap.size) (.bool g_a) (.slice a_a n_a c_a) (.slice b_a m_a d_a) (.head _)
 have t2a:=t2.c0
 have t2b:=t2.c1
 have t2c:=t2.c2
 clear t2
 go_wp2_with fail
 clear t2a t2b t2c
 have K:=ratMay_any g_a (a_a) (b_a) n_a c_a m_a d_a (x_a) (y_a)  w1 ((Uh Aw1).n (a_a) n_a c_a (x_a) (b_a) m_a d_a (y_a) mM1).num ((Uh Aw1).n (a_a) n_a c_a (x_a) (b_a) m_a d_a (y_a) mM1).den (Uh O_a).1 (Uh O_a).2 ((Uh Aw1).tab mM2)
 rw [Uh HM] at K
 try unfold ratV at K
 refine K.mono ?_
 clear K
 rintro _ w3 ⟨rfl,hb⟩
 have Aw3:=Hj ((Uh Aw1).step hb)
 clear Aw1 hb
 go_wp2_with fail
 refine (ralive_any w3 ((Uh Aw3).tab mM2)).mono ?_
 rintro _ wz ⟨rfl,hb⟩
 have HZ:=Hj (((Uh Aw3).step hb).bel)
 clear hb
 go_wp2_with fail
 go_ret
 exact ⟨rfl,Uh HZ⟩
set_option maxRecDepth 100000 in
set_option maxHeartbeats 64000000 in
theorem places_n (g_a:Bool) (a_a:Option Addr) (n_a c_a:Nat) (x_a:List Nat) (b_a:Option Addr) (m_a d_a:Nat) (y_a:List Nat) (i_pl:Int) (w:World) (hx_a:Sl w a_a n_a c_a x_a) (hy_a:Sl w b_a m_a d_a y_a) (ox_a:Ok x_a) (oy_a:Ok y_a) (hT:Tab64 w) (hTB:TabBh w) (hm:MayR g_a x_a y_a = true) (hp:i_pl < 0) :
  Calls Tryz.prog 4 #[ratV g_a a_a n_a c_a b_a m_a d_a,.int .i64 i_pl] w fun e w' => e = .returned (.bool true) ∧ Below w.heap.size w w':=by
 have A00:Fcts w w [fTab]:=⟨Below.refl _ _,fun f hf => by simp at hf; subst hf; exact hT⟩
 have A01:=A00.add (fN a_a n_a c_a x_a b_a m_a d_a y_a) ⟨hx_a,hy_a⟩
 have O_a:=Hj (And.intro ox_a oy_a)
 have A0:=Hj A01
 have HM:=Hj hm
 have HT2:=Hj hTB
 clear hm hTB
 have HPL:=Hj hp
 clear A00 hT hx_a hy_a A01 ox_a oy_a
 unfold ratV
 obtain ⟨w1,hw1⟩:∃ x,w.alloc (.cells #[.bool g_a,.slice a_a n_a c_a,.slice b_a m_a d_a] 25) = x:=⟨_,rfl⟩
 have Aw1:=Hj ((Uh A0).box (.bool g_a) (.slice a_a n_a c_a) (.slice b_a m_a d_a) 25)
 rw [hw1] at Aw1
 clear A0
 go_enter Tryz.func4,Tryz.ntmps4
 have t2:=(Uh Aw1).r (w.heap.size) (.bool g_a) (.slice a_a n_a c_a) (.slice b_a m_a d_a) (.head _)
 have t2a:=t2.c0
 have t2b:=t2.c1
 have t2c:=t2.c2
 clear t2
 go_wp2_with fail
 clear t2a t2b t2c
 have K:=ratMay_any g_a (a_a) (b_a) n_a c_a m_a d_a (x_a) (y_a)  w1 ((Uh Aw1).n (a_a) n_a c_a (x_a) (b_a) m_a d_a (y_a) mM1).num ((Uh Aw1).n (a_a) n_a c_a (x_a) (b_a) m_a d_a (y_a) mM1).den (Uh O_a).1 (Uh O_a).2 ((Uh Aw1).tab mM2)
 rw [Uh HM] at K
 try unfold ratV at K
 refine K.mono ?_
 clear K
 rintro _ w3 ⟨rfl,hb⟩
 have Aw3:=Hj ((Uh Aw1).step hb)
 clear Aw1 hb
 have t4:=(Uh Aw3).r (w.heap.size) (.bool g_a) (.slice a_a n_a c_a) (.slice b_a m_a d_a) (.head _)
 have t4a:=t4.c0
 have t4b:=t4.c1
 have t4c:=t4.c2
 clear t4
 go_wp2_with fail
 clear t4a t4b t4c
 have K:=rdec_any g_a (a_a) (b_a) n_a c_a m_a d_a x_a y_a i_pl w3 ((Uh Aw3).n (a_a) n_a c_a (x_a) (b_a) m_a d_a (y_a) mM1).num ((Uh Aw3).n (a_a) n_a c_a (x_a) (b_a) m_a d_a (y_a) mM1).den (Uh O_a).1 (Uh O_a).2 ((Uh Aw3).tab mM2) rep0
 unfold ratV at K
 refine K.mono ?_
 clear K
 rintro _ w5 ⟨s,er,rfl,hD,hb⟩
 have Aw5:=Hj ((Uh Aw3).step hb)
 clear Aw3 hb
 obtain ⟨rfl,rfl⟩:=dc_arg (Uh HM) (.inl (Uh HPL)) hD
 clear hD
 go_wp2_with fail
 have K:=rparse_bad nil_bad (by decide) w5 ((Uh HT2).below (Uh Aw5).bel)
 refine K.mono ?_
 clear K
 rintro _ w6 ⟨v,rfl,a_r,n_r,c_r,b_r,m_r,d_r,rfl,sx,sy,nx,ny,hb⟩
 unfold ratV
 have Aw6:=Hj (((Uh Aw5).step hb).add (fN a_r n_r c_r [] b_r m_r d_r []) ⟨sx,sy⟩)
 clear Aw5 sx sy nx ny hb
 obtain ⟨w7,hw7⟩:∃ x,w6.alloc (.cells #[.bool false,.slice a_r n_r c_r,.slice b_r m_r d_r] 25) = x:=⟨_,rfl⟩
 have Aw7:=Hj ((Uh Aw6).box (.bool false) (.slice a_r n_r c_r) (.slice b_r m_r d_r) 25)
 rw [hw7] at Aw7
 clear Aw6
 go_wp2_with fail
 refine (rnum2_any 1 w7).mono ?_
 rintro _ w' ⟨rfl,hw⟩
 obtain rfl:=hw.symm
 clear hw
 go_wp2_with fail
 refine (ralive_any w7 ((Uh Aw7).tab mM4)).mono ?_
 rintro _ wz ⟨rfl,hb⟩
 have HZ:=Hj (((Uh Aw7).step hb).bel)
 clear hb
 go_wp2_with fail
 go_ret
 exact ⟨rfl,Uh HZ⟩
set_option maxRecDepth 100000 in
set_option maxHeartbeats 64000000 in
theorem places_b (g_a:Bool) (a_a:Option Addr) (n_a c_a:Nat) (x_a:List Nat) (b_a:Option Addr) (m_a d_a:Nat) (y_a:List Nat) (i_pl:Int) (w:World) (hx_a:Sl w a_a n_a c_a x_a) (hy_a:Sl w b_a m_a d_a y_a) (ox_a:Ok x_a) (oy_a:Ok y_a) (hT:Tab64 w) (hTB:TabBh w) (hm:MayR g_a x_a y_a = true) (hp:1000 < i_pl) :
  Calls Tryz.prog 4 #[ratV g_a a_a n_a c_a b_a m_a d_a,.int .i64 i_pl] w fun e w' => e = .returned (.bool true) ∧ Below w.heap.size w w':=by
 have A00:Fcts w w [fTab]:=⟨Below.refl _ _,fun f hf => by simp at hf; subst hf; exact hT⟩
 have A01:=A00.add (fN a_a n_a c_a x_a b_a m_a d_a y_a) ⟨hx_a,hy_a⟩
 have O_a:=Hj (And.intro ox_a oy_a)
 have A0:=Hj A01
 have HM:=Hj hm
 have HT2:=Hj hTB
 clear hm hTB
 have HPL:=Hj hp
 have hp2:¬ i_pl < 0:=by omega
 clear A00 hT hx_a hy_a A01 ox_a oy_a
 unfold ratV
 obtain ⟨w1,hw1⟩:∃ x,w.alloc (.cells #[.bool g_a,.slice a_a n_a c_a,.slice b_a m_a d_a] 25) = x:=⟨_,rfl⟩
 have Aw1:=Hj ((Uh A0).box (.bool g_a) (.slice a_a n_a c_a) (.slice b_a m_a d_a) 25)
 rw [hw1] at Aw1
 clear A0
 go_enter Tryz.func4,Tryz.ntmps4
 have t2:=(Uh Aw1).r (w.heap.size) (.bool g_a) (.slice a_a n_a c_a) (.slice b_a m_a d_a) (.head _)
 have t2a:=t2.c0
 have t2b:=t2.c1
 have t2c:=t2.c2
 clear t2
 go_wp2_with fail
 clear t2a t2b t2c
 have K:=ratMay_any g_a (a_a) (b_a) n_a c_a m_a d_a (x_a) (y_a)  w1 ((Uh Aw1).n (a_a) n_a c_a (x_a) (b_a) m_a d_a (y_a) mM1).num ((Uh Aw1).n (a_a) n_a c_a (x_a) (b_a) m_a d_a (y_a) mM1).den (Uh O_a).1 (Uh O_a).2 ((Uh Aw1).tab mM2)
 rw [Uh HM] at K
 try unfold ratV at K
 refine K.mono ?_
 clear K
 rintro _ w3 ⟨rfl,hb⟩
 have Aw3:=Hj ((Uh Aw1).step hb)
 clear Aw1 hb
 have t4:=(Uh Aw3).r (w.heap.size) (.bool g_a) (.slice a_a n_a c_a) (.slice b_a m_a d_a) (.head _)
 have t4a:=t4.c0
 have t4b:=t4.c1
 have t4c:=t4.c2
 clear t4
 go_wp2_with fail
 clear t4a t4b t4c
 have K:=rdec_any g_a (a_a) (b_a) n_a c_a m_a d_a x_a y_a i_pl w3 ((Uh Aw3).n (a_a) n_a c_a (x_a) (b_a) m_a d_a (y_a) mM1).num ((Uh Aw3).n (a_a) n_a c_a (x_a) (b_a) m_a d_a (y_a) mM1).den (Uh O_a).1 (Uh O_a).2 ((Uh Aw3).tab mM2) rep0
 unfold ratV at K
 refine K.mono ?_
 clear K
 rintro _ w5 ⟨s,er,rfl,hD,hb⟩
 have Aw5:=Hj ((Uh Aw3).step hb)
 clear Aw3 hb
 obtain ⟨rfl,rfl⟩:=dc_arg (Uh HM) (.inr (Uh HPL)) hD
 clear hD
 go_wp2_with fail
 have K:=rparse_bad nil_bad (by decide) w5 ((Uh HT2).below (Uh Aw5).bel)
 refine K.mono ?_
 clear K
 rintro _ w6 ⟨v,rfl,a_r,n_r,c_r,b_r,m_r,d_r,rfl,sx,sy,nx,ny,hb⟩
 unfold ratV
 have Aw6:=Hj (((Uh Aw5).step hb).add (fN a_r n_r c_r [] b_r m_r d_r []) ⟨sx,sy⟩)
 clear Aw5 sx sy nx ny hb
 obtain ⟨w7,hw7⟩:∃ x,w6.alloc (.cells #[.bool false,.slice a_r n_r c_r,.slice b_r m_r d_r] 25) = x:=⟨_,rfl⟩
 have Aw7:=Hj ((Uh Aw6).box (.bool false) (.slice a_r n_r c_r) (.slice b_r m_r d_r) 25)
 rw [hw7] at Aw7
 clear Aw6
 go_wp2_with fail
 refine (rnum2_any 1 w7).mono ?_
 rintro _ w' ⟨rfl,hw⟩
 obtain rfl:=hw.symm
 clear hw
 go_wp2_with fail
 refine (ralive_any w7 ((Uh Aw7).tab mM4)).mono ?_
 rintro _ wz ⟨rfl,hb⟩
 have HZ:=Hj (((Uh Aw7).step hb).bel)
 clear hb
 go_wp2_with fail
 go_ret
 exact ⟨rfl,Uh HZ⟩
set_option maxRecDepth 100000 in
set_option maxHeartbeats 64000000 in
theorem places_text (g_a:Bool) (a_a:Option Addr) (n_a c_a:Nat) (x_a:List Nat) (b_a:Option Addr) (m_a d_a:Nat) (y_a:List Nat) (k:Nat) (w:World) (hx_a:Sl w a_a n_a c_a x_a) (hy_a:Sl w b_a m_a d_a y_a) (ox_a:Ok x_a) (oy_a:Ok y_a) (hT:Tab64 w) (hTB:TabBh w) (hm:MayR g_a x_a y_a = true) (hk:k ≤ 1000) :
  Calls Tryz.prog 4 #[ratV g_a a_a n_a c_a b_a m_a d_a,.int .i64 (k:Nat)] w fun e w' => e = .returned (.bool true) ∧ Below w.heap.size w w':=by
 have A00:Fcts w w [fTab]:=⟨Below.refl _ _,fun f hf => by simp at hf; subst hf; exact hT⟩
 have A01:=A00.add (fN a_a n_a c_a x_a b_a m_a d_a y_a) ⟨hx_a,hy_a⟩
 have O_a:=Hj (And.intro ox_a oy_a)
 have A0:=Hj A01
 have HPL:=Hj (fun (s:ByteArray) (er:Int) (h:DcR g_a x_a y_a (k:Int) s er) => pl_of ox_a hm hk h)
 have HM:=Hj hm
 have HT2:=Hj hTB
 clear hm hTB
 have HK:=Hj hk
 obtain ⟨XT,hXT⟩:∃ z,limbs (10 ^ k) = z:=⟨_,rfl⟩
 have HPW:=Hj (show PowF false (limbs 10) [1] (k:Int) = ((false,XT,[1]),0) by have h:=ppow_ten hk; rw [hXT] at h; exact h)
 have O_t:=Hj (And.intro (show Ok XT by rw [← hXT]; exact limbs_ok _) (ok_one (v:=1) (by decide)))
 have O_u:=Hj (And.intro (limbs_ok 10) (ok_one (v:=1) (by decide)))
 have HXT:=Hj hXT
 clear hk hXT
 clear A00 hT hx_a hy_a A01 ox_a oy_a
 unfold ratV
 obtain ⟨w1,hw1⟩:∃ x,w.alloc (.cells #[.bool g_a,.slice a_a n_a c_a,.slice b_a m_a d_a] 25) = x:=⟨_,rfl⟩
 have Aw1:=Hj ((Uh A0).box (.bool g_a) (.slice a_a n_a c_a) (.slice b_a m_a d_a) 25)
 rw [hw1] at Aw1
 clear A0
 go_enter Tryz.func4,Tryz.ntmps4
 have t2:=(Uh Aw1).r (w.heap.size) (.bool g_a) (.slice a_a n_a c_a) (.slice b_a m_a d_a) (.head _)
 have t2a:=t2.c0
 have t2b:=t2.c1
 have t2c:=t2.c2
 clear t2
 go_wp2_with fail
 clear t2a t2b t2c
 have K:=ratMay_any g_a (a_a) (b_a) n_a c_a m_a d_a (x_a) (y_a)  w1 ((Uh Aw1).n (a_a) n_a c_a (x_a) (b_a) m_a d_a (y_a) mM1).num ((Uh Aw1).n (a_a) n_a c_a (x_a) (b_a) m_a d_a (y_a) mM1).den (Uh O_a).1 (Uh O_a).2 ((Uh Aw1).tab mM2)
 rw [Uh HM] at K
 try unfold ratV at K
 refine K.mono ?_
 clear K
 rintro _ w3 ⟨rfl,hb⟩
 have Aw3:=Hj ((Uh Aw1).step hb)
 clear Aw1 hb
 have t4:=(Uh Aw3).r (w.heap.size) (.bool g_a) (.slice a_a n_a c_a) (.slice b_a m_a d_a) (.head _)
 have t4a:=t4.c0
 have t4b:=t4.c1
 have t4c:=t4.c2
 clear t4
 go_wp2_with fail
 clear t4a t4b t4c
 have K:=rdec_any g_a (a_a) (b_a) n_a c_a m_a d_a x_a y_a (k:Int) w3 ((Uh Aw3).n (a_a) n_a c_a (x_a) (b_a) m_a d_a (y_a) mM1).num ((Uh Aw3).n (a_a) n_a c_a (x_a) (b_a) m_a d_a (y_a) mM1).den (Uh O_a).1 (Uh O_a).2 ((Uh Aw3).tab mM2) rep0
 unfold ratV at K
 refine K.mono ?_
 clear K
 rintro _ w5 ⟨s,er,rfl,hD,hb⟩
 have Aw5:=Hj ((Uh Aw3).step hb)
 clear Aw3 hb
 obtain ⟨rfl,N,D,gs,hS⟩:=Uh HPL s er hD
 have HS:=Hj hS
 have hsz:=hS.top
 clear hD hS HPL
 rcases wf_or gs N k (Uh HK) with hW | ⟨gr,xr,yr,hW,oxr,oyr,hF⟩
 ·have HW:=Hj hW
  clear hW
  go_wp2_with fail
  have K:=(Uh HS).parse w5 ((Uh Aw5).tab mM2) ((Uh HT2).below (Uh Aw5).bel)
  rw [Uh HW] at K
  dsimp only at K
  refine K.mono ?_
  clear K
  rintro _ w6 ⟨v,rfl,a_r,n_r,c_r,b_r,m_r,d_r,rfl,sx,sy,nx,ny,hb⟩
  unfold ratV
  have Aw6:=Hj (((Uh Aw5).step hb).add (fN a_r n_r c_r [] b_r m_r d_r []) ⟨sx,sy⟩)
  clear Aw5 sx sy nx ny hb
  obtain ⟨w7,hw7⟩:∃ x,w6.alloc (.cells #[.bool false,.slice a_r n_r c_r,.slice b_r m_r d_r] 25) = x:=⟨_,rfl⟩
  have Aw7:=Hj ((Uh Aw6).box (.bool false) (.slice a_r n_r c_r) (.slice b_r m_r d_r) 25)
  rw [hw7] at Aw7
  clear Aw6
  go_wp2_with fail
  refine (rnum2_any 0 w7).mono ?_
  rintro _ w' ⟨rfl,hw⟩
  obtain rfl:=hw.symm
  clear hw
  go_wp2_with fail
  refine (rnum2_any 2 w7).mono ?_
  rintro _ w' ⟨rfl,hw⟩
  obtain rfl:=hw.symm
  clear hw
  go_wp2_with fail
  refine (rnum2_any 2 w7).mono ?_
  rintro _ w' ⟨rfl,hw⟩
  obtain rfl:=hw.symm
  clear hw
  go_wp2_with fail
  go_ret
  exact ⟨rfl,(Uh Aw7).bel⟩
 ·have HW:=Hj hW
  have O_r:=Hj (And.intro oxr oyr)
  have hF2:=hF
  rw [(Uh HS).neg] at hF2
  have HF:=Hj hF2
  clear hW oxr oyr hF hF2
  go_wp2_with fail
  have K:=(Uh HS).parse w5 ((Uh Aw5).tab mM2) ((Uh HT2).below (Uh Aw5).bel)
  rw [Uh HW] at K
  dsimp only at K
  refine K.mono ?_
  clear K
  rintro _ w8 ⟨v,rfl,a_r,n_r,c_r,b_r,m_r,d_r,rfl,sx,sy,nx,ny,hb⟩
  unfold ratV
  have Aw8:=Hj (((Uh Aw5).step hb).add (fN a_r n_r c_r xr b_r m_r d_r yr) ⟨sx,sy⟩)
  clear Aw5 sx sy nx ny hb
  obtain ⟨w9,hw9⟩:∃ x,w8.alloc (.cells #[.bool gr,.slice a_r n_r c_r,.slice b_r m_r d_r] 25) = x:=⟨_,rfl⟩
  have Aw9:=Hj ((Uh Aw8).box (.bool gr) (.slice a_r n_r c_r) (.slice b_r m_r d_r) 25)
  rw [hw9] at Aw9
  clear Aw8
  go_wp2_with fail
  refine (rnum2_any 0 w9).mono ?_
  rintro _ w' ⟨rfl,hw⟩
  obtain rfl:=hw.symm
  clear hw
  go_wp2_with fail
  refine (rnum2_any 0 w9).mono ?_
  rintro _ w' ⟨rfl,hw⟩
  obtain rfl:=hw.symm
  clear hw
  go_wp2_with fail
  go_loopw [10,11] (fun dv iv wr => ∃ q:Nat,q ≤ s.size ∧ dv = .int .i64 ((if D < q then D else s.size:Nat):Int) ∧ iv = .int .i64 (q:Nat) ∧ Hid (wr = w9)) (fun _ iv _ => s.size - (intOf iv).toNat)
  case atStart => exact ⟨0,Nat.zero_le _,by rw [if_neg (by omega)],rfl,rfl⟩
  case round =>
   obtain ⟨q,h1,rfl,rfl,HWQ⟩:=hrel
   obtain rfl:=(Uh HWQ).symm
   clear HWQ
   by_cases hlt:q < s.size
   ·have hlt':(q:Int) < (s.size:Int):=by omega
    have hd:=(Uh HS).dot q hlt
    have hb:=byA_get s q hlt
    by_cases hq:q = D
    ·have h46:=hd.2 hq
     subst hq
     have t46:(((s[q]'hlt).toNat:Int) == 46) = true:=by rw [hb,h46]; rfl
     have t46':((s[q]'hlt).toNat:Int) = 46:=by omega
     have hqq:¬ q < q:=by omega
     rw [if_neg hqq]
     clear hb hd hqq
     go_wp2_with fail
     exact ⟨⟨q + 1,by omega,by rw [if_pos (by omega)],by (first | rfl | go_num),Hj trivial⟩,by simp [intOf]; omega⟩
    ·have h46:byA s q ≠ 46:=fun c => hq (hd.1 c)
     have t46:(((s[q]'hlt).toNat:Int) == 46) = false:=by simp; omega
     have t46':¬ ((s[q]'hlt).toNat:Int) = 46:=by omega
     clear hb hd
     obtain ⟨u,hu⟩:∃ u:Nat,(if D < q then D else s.size) = u:=⟨_,rfl⟩
     rw [hu]
     have hu2:(if D < q + 1 then D else s.size) = u:=by rw [← hu]; by_cases c:D < q; rw [if_pos c,if_pos (by omega)]; rw [if_neg c,if_neg (by omega)]
     clear hu
     go_wp2_with fail
     exact ⟨⟨q + 1,by omega,by rw [hu2],by (first | rfl | go_num),Hj trivial⟩,by simp [intOf]; omega⟩
   ·have hq:q = s.size:=by omega
    subst hq
    have hlt':¬ (s.size:Int) < (s.size:Int):=by omega
    have hDs:(if D < s.size then D else s.size) = D:=by
     by_cases c:D < s.size
     ·rw [if_pos c]
     ·rw [if_neg c]
      by_cases c0:k = 0
      ·exact ((Uh HS).zero c0).symm
      ·exact absurd ((Uh HS).more c0).1 c
    rw [hDs]
    clear hDs hlt
    have hd:(((k:Int) == 0) = true ∧ ((D:Int) == (s.size:Int)) = true ∧ ¬ (0:Int) < (k:Int)) ∨ (((k:Int) == 0) = false ∧ ((D:Int) == (s.size:Int)) = false ∧ (0:Int) < (k:Int) ∧ (s.size:Int) - (D:Int) - 1 = (k:Int)):=by
     have hz:=(Uh HS).zero
     have hmo:=(Uh HS).more
     by_cases c0:k = 0
     ·have:=hz c0
      exact .inl ⟨by simp; omega,by simp; omega,by omega⟩
     ·have:=hmo c0
      exact .inr ⟨by simp; omega,by simp; omega,by omega,by omega⟩
    rcases hd with ⟨e1,e2,e3⟩ | ⟨e1,e2,e3,e4⟩
    all_goals
     go_wp2_with fail
     have K:=fromInt_any 10 (by decide) (by decide) w9
     rw [show decide ((10:Int) < 0) = false from rfl,show (10:Int).natAbs = 10 from rfl] at K
     refine K.mono ?_
     clear K
     rintro _ w10 ⟨v,rfl,a_u,n_u,c_u,b_u,m_u,d_u,rfl,sx,sy,nx,ny,hb⟩
     unfold ratV
     have Aw10:=Hj (((Uh Aw9).step hb).add (fN a_u n_u c_u (limbs 10) b_u m_u d_u [1]) ⟨sx,sy⟩)
     clear Aw9 sx sy nx ny hb
     go_wp2_with fail
     have K:=ratPow_any false (a_u) (b_u) n_u c_u m_u d_u ((limbs 10)) ([1]) (k:Int) w10 ((Uh Aw10).n (a_u) n_u c_u ((limbs 10)) (b_u) m_u d_u ([1]) (.head _)).num ((Uh Aw10).n (a_u) n_u c_u ((limbs 10)) (b_u) m_u d_u ([1]) (.head _)).den (Uh O_u).1 (Uh O_u).2 ((Uh Aw10).tab mM5)
     rw [Uh HPW] at K
     try dsimp only at K
     try unfold ratV at K
     refine K.mono ?_
     clear K
     rintro _ w11 ⟨v,rfl,a_t11,n_t11,c_t11,b_t11,m_t11,d_t11,rfl,sx,sy,nx,ny,hb⟩
     try dsimp only at sx sy
     unfold ratV
     have Aw11:=Hj (((Uh Aw10).step hb).add (fN a_t11 n_t11 c_t11 XT b_t11 m_t11 d_t11 [1]) ⟨sx,sy⟩)
     clear Aw10 sx sy nx ny hb
     obtain ⟨w12,hw12⟩:∃ x,w11.alloc (.cells #[.bool false,.slice a_t11 n_t11 c_t11,.slice b_t11 m_t11 d_t11] 25) = x:=⟨_,rfl⟩
     have Aw12:=Hj ((Uh Aw11).box (.bool false) (.slice a_t11 n_t11 c_t11) (.slice b_t11 m_t11 d_t11) 25)
     rw [hw12] at Aw12
     clear Aw11
     have t13:=(Uh Aw12).r (w.heap.size) (.bool g_a) (.slice a_a n_a c_a) (.slice b_a m_a d_a) mM5
     have t13a:=t13.c0
     have t13b:=t13.c1
     have t13c:=t13.c2
     clear t13
     have t14:=(Uh Aw12).r (w8.heap.size) (.bool gr) (.slice a_r n_r c_r) (.slice b_r m_r d_r) mM3
     have t14a:=t14.c0
     have t14b:=t14.c1
     have t14c:=t14.c2
     clear t14
     go_wp2_with fail
     clear t13a t13b t13c t14a t14b t14c
     have K:=gap_fl g_a gr (a_a) (b_a) (a_r) (b_r) n_a c_a m_a d_a n_r c_r m_r d_r (x_a) (y_a) (xr) (yr) N (10 ^ k) w12 ((Uh Aw12).n (a_a) n_a c_a (x_a) (b_a) m_a d_a (y_a) mM6).num ((Uh Aw12).n (a_a) n_a c_a (x_a) (b_a) m_a d_a (y_a) mM6).den ((Uh Aw12).n (a_r) n_r c_r (xr) (b_r) m_r d_r (yr) mM4).num ((Uh Aw12).n (a_r) n_r c_r (xr) (b_r) m_r d_r (yr) mM4).den (Uh O_a).1 (Uh O_a).2 (Uh O_r).1 (Uh O_r).2 ((Uh Aw12).tab mM7) (Uh HM) (Uh HF)
     unfold ratV at K
     refine K.mono ?_
     clear K
     rintro _ w15 ⟨a_d,n_d,c_d,b_d,m_d,d_d,xd,yd,ok,rfl,sx,sy,od1,od2,hok,hb⟩
     unfold ratV
     have O_d:=Hj (And.intro od1 od2)
     have HOK:=Hj hok
     have Aw15:=Hj (((Uh Aw12).step hb).add (fN a_d n_d c_d xd b_d m_d d_d yd) ⟨sx,sy⟩)
     clear Aw12 sx sy od1 od2 hok hb
     obtain ⟨w16,hw16⟩:∃ x,w15.alloc (.cells #[.bool false,.slice a_d n_d c_d,.slice b_d m_d d_d] 25) = x:=⟨_,rfl⟩
     have Aw16:=Hj ((Uh Aw15).box (.bool false) (.slice a_d n_d c_d) (.slice b_d m_d d_d) 25)
     rw [hw16] at Aw16
     clear Aw15
     obtain ⟨⟨⟨gp,xp,yp⟩,eh⟩,hMu⟩:∃ z,MulF false xd yd false XT [1] = z:=⟨_,rfl⟩
     have hop:=mulF_oks false false xd yd XT [1]
     rw [hMu] at hop
     have O_p:=Hj hop
     have HMU:=Hj hMu
     obtain ⟨⟨⟨gq,xq,yq⟩,ei⟩,hAd⟩:∃ z,AddF gp xp yp gp xp yp = z:=⟨_,rfl⟩
     have hoq:=addF_oks gp gp xp yp xp yp
     rw [hAd] at hoq
     have O_q:=Hj hoq
     have HAD:=Hj hAd
     clear hMu hop hAd hoq
     have t17:=(Uh Aw16).r (w15.heap.size) (.bool false) (.slice a_d n_d c_d) (.slice b_d m_d d_d) (.head _)
     have t17a:=t17.c0
     have t17b:=t17.c1
     have t17c:=t17.c2
     clear t17
     have t18:=(Uh Aw16).r (w11.heap.size) (.bool false) (.slice a_t11 n_t11 c_t11) (.slice b_t11 m_t11 d_t11) mM2
     have t18a:=t18.c0
     have t18b:=t18.c1
     have t18c:=t18.c2
     clear t18
     go_wp2_with fail
     clear t17a t17b t17c t18a t18b t18c
     have K:=ratMul_any false false (a_d) (b_d) (a_t11) (b_t11) n_d c_d m_d d_d n_t11 c_t11 m_t11 d_t11 (xd) (yd) (XT) ([1]) w16 ((Uh Aw16).n (a_d) n_d c_d (xd) (b_d) m_d d_d (yd) mM1).num ((Uh Aw16).n (a_d) n_d c_d (xd) (b_d) m_d d_d (yd) mM1).den ((Uh Aw16).n (a_t11) n_t11 c_t11 (XT) (b_t11) m_t11 d_t11 ([1]) mM3).num ((Uh Aw16).n (a_t11) n_t11 c_t11 (XT) (b_t11) m_t11 d_t11 ([1]) mM3).den (Uh O_d).1 (Uh O_d).2 (Uh O_t).1 (Uh O_t).2 ((Uh Aw16).tab mM9)
     rw [Uh HMU] at K
     try dsimp only at K
     try unfold ratV at K
     refine K.mono ?_
     clear K
     rintro _ w19 ⟨v,rfl,a_p19,n_p19,c_p19,b_p19,m_p19,d_p19,rfl,sx,sy,nx,ny,hb⟩
     try dsimp only at sx sy
     unfold ratV
     have Aw19:=Hj (((Uh Aw16).step hb).add (fN a_p19 n_p19 c_p19 xp b_p19 m_p19 d_p19 yp) ⟨sx,sy⟩)
     clear Aw16 sx sy nx ny hb
     obtain ⟨w20,hw20⟩:∃ x,w19.alloc (.cells #[.bool gp,.slice a_p19 n_p19 c_p19,.slice b_p19 m_p19 d_p19] 25) = x:=⟨_,rfl⟩
     have Aw20:=Hj ((Uh Aw19).box (.bool gp) (.slice a_p19 n_p19 c_p19) (.slice b_p19 m_p19 d_p19) 25)
     rw [hw20] at Aw20
     clear Aw19
     have t21:=(Uh Aw20).r (w19.heap.size) (.bool gp) (.slice a_p19 n_p19 c_p19) (.slice b_p19 m_p19 d_p19) (.head _)
     have t21a:=t21.c0
     have t21b:=t21.c1
     have t21c:=t21.c2
     clear t21
     go_wp2_with fail
     clear t21a t21b t21c
     have K:=ratAdd_any gp gp (a_p19) (b_p19) (a_p19) (b_p19) n_p19 c_p19 m_p19 d_p19 n_p19 c_p19 m_p19 d_p19 (xp) (yp) (xp) (yp) w20 ((Uh Aw20).n (a_p19) n_p19 c_p19 (xp) (b_p19) m_p19 d_p19 (yp) mM1).num ((Uh Aw20).n (a_p19) n_p19 c_p19 (xp) (b_p19) m_p19 d_p19 (yp) mM1).den ((Uh Aw20).n (a_p19) n_p19 c_p19 (xp) (b_p19) m_p19 d_p19 (yp) mM1).num ((Uh Aw20).n (a_p19) n_p19 c_p19 (xp) (b_p19) m_p19 d_p19 (yp) mM1).den (Uh O_p).1 (Uh O_p).2 (Uh O_p).1 (Uh O_p).2 ((Uh Aw20).tab mM11)
     rw [Uh HAD] at K
     try dsimp only at K
     try unfold ratV at K
     refine K.mono ?_
     clear K
     rintro _ w22 ⟨v,rfl,a_q22,n_q22,c_q22,b_q22,m_q22,d_q22,rfl,sx,sy,nx,ny,hb⟩
     try dsimp only at sx sy
     unfold ratV
     have Aw22:=Hj (((Uh Aw20).step hb).add (fN a_q22 n_q22 c_q22 xq b_q22 m_q22 d_q22 yq) ⟨sx,sy⟩)
     clear Aw20 sx sy nx ny hb
     obtain ⟨w23,hw23⟩:∃ x,w22.alloc (.cells #[.bool gq,.slice a_q22 n_q22 c_q22,.slice b_q22 m_q22 d_q22] 25) = x:=⟨_,rfl⟩
     have Aw23:=Hj ((Uh Aw22).box (.bool gq) (.slice a_q22 n_q22 c_q22) (.slice b_q22 m_q22 d_q22) 25)
     rw [hw23] at Aw23
     clear Aw22
     go_wp2_with fail
     refine (rnum2_any 0 w23).mono ?_
     rintro _ w' ⟨rfl,hw⟩
     obtain rfl:=hw.symm
     clear hw
     cases ok
     ·skip
      go_wp2_with fail
      refine (rnum2_any 0 w23).mono ?_
      rintro _ w' ⟨rfl,hw⟩
      obtain rfl:=hw.symm
      clear hw
      go_wp2_with fail
      go_ret
      exact ⟨rfl,(Uh Aw23).bel⟩
     ·by_cases h0:eh = 0
      case neg =>
       have th:(eh != 0) = true:=by simp; exact h0
       have th':¬ eh = 0:=h0
       clear h0
       go_wp2_with fail
       refine (rnum2_any eh w23).mono ?_
       rintro _ w' ⟨rfl,hw⟩
       obtain rfl:=hw.symm
       clear hw
       go_wp2_with fail
       refine (rnum2_any 0 w23).mono ?_
       rintro _ w' ⟨rfl,hw⟩
       obtain rfl:=hw.symm
       clear hw
       go_wp2_with fail
       go_ret
       exact ⟨rfl,(Uh Aw23).bel⟩
      subst h0
      go_wp2_with fail
      refine (rnum2_any 0 w23).mono ?_
      rintro _ w' ⟨rfl,hw⟩
      obtain rfl:=hw.symm
      clear hw
      by_cases h0:ei = 0
      case neg =>
       have th:(ei != 0) = true:=by simp; exact h0
       have th':¬ ei = 0:=h0
       clear h0
       go_wp2_with fail
       refine (rnum2_any ei w23).mono ?_
       rintro _ w' ⟨rfl,hw⟩
       obtain rfl:=hw.symm
       clear hw
       go_wp2_with fail
       refine (rnum2_any 0 w23).mono ?_
       rintro _ w' ⟨rfl,hw⟩
       obtain rfl:=hw.symm
       clear hw
       go_wp2_with fail
       go_ret
       exact ⟨rfl,(Uh Aw23).bel⟩
      subst h0
      go_wp2_with fail
      refine (rnum2_any 0 w23).mono ?_
      rintro _ w' ⟨rfl,hw⟩
      obtain rfl:=hw.symm
      clear hw
      obtain ⟨hok1,hok2⟩:=Uh HOK (by first | trivial | rfl)
      have hcm:=pl_last (Uh HK) (mayR_pos (Uh HM)) (Uh HS).num hok1 hok2 (by rw [Uh HXT]; exact Uh HMU) (Uh HAD)
      obtain ⟨C,hC⟩:∃ z,CmpF gq xq yq false [1] [1] = z:=⟨_,rfl⟩
      rw [hC] at hcm
      have HC:=Hj hC
      clear hC hok1 hok2
      have O_one:=Hj (And.intro (ok_one (v:=1) (by decide)) (ok_one (v:=1) (by decide)))
      have HI:=Hj (fun (W:World) => (by have K:=fromInt_any 1 (by decide) (by decide) W; rw [show decide ((1:Int) < 0) = false from rfl,show (1:Int).natAbs = 1 from rfl,limbs_1] at K; exact K:Calls Tryz.prog 19 #[.int .i64 1] W fun e w' => ∃ v,e = .returned v ∧ NewR W w' false [1] [1] v))
      have t24:=(Uh Aw23).r (w22.heap.size) (.bool gq) (.slice a_q22 n_q22 c_q22) (.slice b_q22 m_q22 d_q22) (.head _)
      have t24a:=t24.c0
      have t24b:=t24.c1
      have t24c:=t24.c2
      clear t24
      go_wp2_with fail
      have HH:=Hj ((Uh Aw23).step (Below.refl _ _).drew)
      clear Aw23
      go_region_held3 (fun w' => w'.cell? ⟨w22.heap.size,0,none⟩ = some (.bool gq) ∧ w'.cell? ⟨w22.heap.size,1,none⟩ = some (.slice a_q22 n_q22 c_q22) ∧ w'.cell? ⟨w22.heap.size,2,none⟩ = some (.slice b_q22 m_q22 d_q22)) (first | (exact ⟨((Uh HH).r (w22.heap.size) (.bool gq) (.slice a_q22 n_q22 c_q22) (.slice b_q22 m_q22 d_q22) (by repeat (first | exact List.Mem.head _ | apply List.Mem.tail))).c0,((Uh HH).r (w22.heap.size) (.bool gq) (.slice a_q22 n_q22 c_q22) (.slice b_q22 m_q22 d_q22) (by repeat (first | exact List.Mem.head _ | apply List.Mem.tail))).c1,((Uh HH).r (w22.heap.size) (.bool gq) (.slice a_q22 n_q22 c_q22) (.slice b_q22 m_q22 d_q22) (by repeat (first | exact List.Mem.head _ | apply List.Mem.tail))).c2⟩) | go_keep)
       (first
        | (go_at_call 19; refine (Uh HI _).mono ?_; rintro _ wn ⟨v,rfl,ai,ni,ci,bi,mi,di,rfl,si,ti,_,_,b3⟩; unfold ratV; have HN_:=Hj (((Uh HH).step b3).add (fN ai ni ci [1] bi mi di [1]) ⟨si,ti⟩); clear si ti b3 HH; have HH:=HN_; clear HN_)
        | (go_at_call 23; have K:=ratCmp_any gq false (a_q22) (b_q22) (ai) (bi) n_q22 c_q22 m_q22 d_q22 ni ci mi di (xq) (yq) ([1]) ([1]) _ ((Uh HH).n (a_q22) n_q22 c_q22 (xq) (b_q22) m_q22 d_q22 (yq) (by repeat (first | exact List.Mem.head _ | apply List.Mem.tail))).num ((Uh HH).n (a_q22) n_q22 c_q22 (xq) (b_q22) m_q22 d_q22 (yq) (by repeat (first | exact List.Mem.head _ | apply List.Mem.tail))).den ((Uh HH).n (ai) ni ci ([1]) (bi) mi di ([1]) (by repeat (first | exact List.Mem.head _ | apply List.Mem.tail))).num ((Uh HH).n (ai) ni ci ([1]) (bi) mi di ([1]) (by repeat (first | exact List.Mem.head _ | apply List.Mem.tail))).den (Uh O_q).1 (Uh O_q).2 (Uh O_one).1 (Uh O_one).2 ((Uh HH).tab (by repeat (first | exact List.Mem.head _ | apply List.Mem.tail))); rw [Uh HC] at K; unfold ratV at K; refine K.mono ?_; clear K; rintro _ wn ⟨rfl,hb⟩; have HN_:=Hj ((Uh HH).step hb); clear hb HH; have HH:=HN_; clear HN_)
        | (go_at_call 15; refine (ralive_any _ ((Uh HH).tab (by repeat (first | exact List.Mem.head _ | apply List.Mem.tail)))).mono ?_; rintro _ wn ⟨rfl,hb⟩; have HN_:=Hj ((Uh HH).step hb); clear hb HH; have HH:=HN_; clear HN_))
      try go_wp2_with fail
      try go_ret
      exact ⟨rfl,(Uh HH).bel⟩
theorem rationalPlaces_walk (g_a:Bool) (a_a:Option Addr) (n_a c_a:Nat) (x_a:List Nat) (b_a:Option Addr) (m_a d_a:Nat) (y_a:List Nat) (i_pl:Int) (w:World) (hx_a:Sl w a_a n_a c_a x_a) (hy_a:Sl w b_a m_a d_a y_a) (ox_a:Ok x_a) (oy_a:Ok y_a) (hl_pl:-9223372036854775808 ≤ i_pl) (hh_pl:i_pl ≤ 9223372036854775807) (hT:Tab64 w) (hTB:TabBh w) :
  Calls Tryz.prog 4 #[ratV g_a a_a n_a c_a b_a m_a d_a,.int .i64 i_pl] w fun e w' => e = .returned (.bool true) ∧ Below w.heap.size w w':=by
 cases hm:MayR g_a x_a y_a
 ·exact places_no g_a a_a n_a c_a x_a b_a m_a d_a y_a i_pl w hx_a hy_a ox_a oy_a hT hTB hm
 ·by_cases h1:i_pl < 0
  ·exact places_n g_a a_a n_a c_a x_a b_a m_a d_a y_a i_pl w hx_a hy_a ox_a oy_a hT hTB hm h1
  ·by_cases h2:1000 < i_pl
   ·exact places_b g_a a_a n_a c_a x_a b_a m_a d_a y_a i_pl w hx_a hy_a ox_a oy_a hT hTB hm h2
   ·obtain ⟨k,rfl⟩:=Int.eq_ofNat_of_zero_le (show 0 ≤ i_pl by omega)
    exact places_text g_a a_a n_a c_a x_a b_a m_a d_a y_a k w hx_a hy_a ox_a oy_a hT hTB hm (by omega)
end Go.Proofs.YtmnlhnmlgncedaaGreatDoor
