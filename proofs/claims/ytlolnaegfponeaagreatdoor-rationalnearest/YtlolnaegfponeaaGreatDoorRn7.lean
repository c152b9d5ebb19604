/- Rn7 -/
import Derived.Test.YtlolnaegfponeaaGreatDoorRs3
import Derived.Test.YtlolnaegfponeaaGreatDoorRn3
import Derived.Test.YtlolnaegfponeaaGreatDoorRv3
import Derived.Test.YtlolnaegfponeaaGreatDoorRl2
namespace Go.Proofs.YtlolnaegfponeaaGreatDoor
open Go.ChangeShapes Go.WideShapes Go.ChangeAt Go.RowKit Go.Deep
set_option linter.unusedVariables false
theorem wrap_is {n:Int} {m:Nat} (h:n = (m:Int)) (hm:m < 18446744073709551616):IntKind.u64.wrap n = (m:Int):=by
 have e:IntKind.u64.wrap n = n % 18446744073709551616:=by simp [IntKind.wrap,IntKind.bits,IntKind.signed]
 rw [e,h]
 omega
theorem rfromFloat_RR (b:Nat) (w:World) (hb:b < 18446744073709551616) (hT:Tab64 w):Calls Tryz.prog 13 #[.int .u64 (b:Nat)] w fun e w' => ResR w w' (FfF b).1.1 (FfF b).1.2.1 (FfF b).1.2.2 (FfF b).2 e:=rfromFloat_any b w hb hT
set_option maxRecDepth 100000 in
set_option maxHeartbeats 64000000 in
theorem near_F (a_a:Option Addr) (n_a c_a:Nat) (x_a:List Nat) (b_a:Option Addr) (m_a d_a:Nat) (y_a:List Nat) (w:World) (hx_a:Sl w a_a n_a c_a x_a) (hy_a:Sl w b_a m_a d_a y_a) (ox_a:Ok x_a) (oy_a:Ok y_a) (hT:Tab64 w) (hT2:Tab32 w) (hm:MayR false x_a y_a = true) :
  Calls Tryz.prog 3 #[ratV false a_a n_a c_a b_a m_a d_a] w fun e w' => e = .returned (.bool true) ∧ Below w.heap.size w w':=by
 have A00:Fcts w w [fTab]:=⟨Below.refl _ _,fun f hf => by simp at hf; subst hf; exact hT⟩
 have A01:=A00.add (fN a_a n_a c_a x_a b_a m_a d_a y_a) ⟨hx_a,hy_a⟩
 have O_a:=Hd (And.intro ox_a oy_a)
 have A0:=Hd A01
 have hs:=flF_is hm
 simp only [Bool.false_eq_true,if_false] at hs
 have hle:=flS_le ox_a oy_a hm
 have HFF:=Hd (fun s (h:s < 9218868437227405312) => ff_of (g:=false) (s:=s) h)
 simp only [Bool.false_eq_true,if_false] at HFF
 have HIS:=Hd (flS_is ox_a oy_a hm)
 have HINF:=Hd (flS_inf (g:=false) (x:=x_a) (y:=y_a))
 have HYP:=Hd (mayR_pos hm)
 have HM:=Hd hm
 have hsg:decide (SignF false x_a y_a < 0) = false:=by unfold SignF signR; rw [if_pos hm]; simp; split <;> decide
 have HT2:=Hd hT2
 obtain ⟨s,hsd⟩:∃ s,flS x_a y_a = s:=⟨_,rfl⟩
 rw [hsd] at hs hle HIS HINF
 obtain ⟨SG,hSG⟩:∃ z,SignF false x_a y_a = z:=⟨_,rfl⟩
 rw [hSG] at hsg
 obtain ⟨SV,hSV⟩:∃ z,0 + s = z:=⟨_,rfl⟩
 rw [hSV] at hs
 have HS:=Hd hs
 have HSG:=Hd hSG
 have HSV:=Hd hSV
 have HLE:=Hd hle
 have hSVb:SV < 18446744073709551616:=by omega
 have tsh:(SV:Int) / 9223372036854775808 = 0:=by omega
 have tand:bits .and .u64 (SV:Int) 9223372036854775807 = (s:Int):=by
   have h1:=u64_and_nat SV 9223372036854775807 hSVb (by decide)
   rw [show (9223372036854775807:Nat) = 2 ^ 63 - 1 from rfl,Nat.and_two_pow_sub_one_eq_mod,show SV % 2 ^ 63 = s by omega] at h1
   exact h1
 have HTA:=Hd (And.intro tsh tand)
 clear hm hs hSG hSV hle hsd hT2 tsh tand
 clear A00 hT hx_a hy_a A01 ox_a oy_a
 unfold ratV
 obtain ⟨w1,hw1⟩:∃ x,w.alloc (.cells #[.bool false,.slice a_a n_a c_a,.slice b_a m_a d_a] 25) = x:=⟨_,rfl⟩
 have Aw1:=Hd ((Uh A0).box (.bool false) (.slice a_a n_a c_a) (.slice b_a m_a d_a) 25)
 rw [hw1] at Aw1
 clear A0
 go_enter Tryz.func3,Tryz.ntmps3
 have t2:=(Uh Aw1).r (w.heap.size) (.bool false) (.slice a_a n_a c_a) (.slice b_a m_a d_a) (.head _)
 have t2a:=t2.c0
 have t2b:=t2.c1
 have t2c:=t2.c2
 clear t2
 go_wp2_with fail
 clear t2a t2b t2c
 have K:=ratMay_any false (a_a) (b_a) n_a c_a m_a d_a (x_a) (y_a)  w1 ((Uh Aw1).n (a_a) n_a c_a (x_a) (b_a) m_a d_a (y_a) mM1).num ((Uh Aw1).n (a_a) n_a c_a (x_a) (b_a) m_a d_a (y_a) mM1).den (Uh O_a).1 (Uh O_a).2 ((Uh Aw1).tab mM2)
 rw [Uh HM] at K
 unfold ratV at K
 refine K.mono ?_
 clear K
 rintro _ w3 ⟨rfl,hb⟩
 have Aw3:=Hd ((Uh Aw1).step hb)
 clear Aw1 hb
 have t4:=(Uh Aw3).r (w.heap.size) (.bool false) (.slice a_a n_a c_a) (.slice b_a m_a d_a) (.head _)
 have t4a:=t4.c0
 have t4b:=t4.c1
 have t4c:=t4.c2
 clear t4
 go_wp2_with fail
 clear t4a t4b t4c
 have K:=rfloat_any false (a_a) (b_a) n_a c_a m_a d_a (x_a) (y_a)  w3 ((Uh Aw3).n (a_a) n_a c_a (x_a) (b_a) m_a d_a (y_a) mM1).num ((Uh Aw3).n (a_a) n_a c_a (x_a) (b_a) m_a d_a (y_a) mM1).den (Uh O_a).1 (Uh O_a).2 ((Uh Aw3).tab mM2) ((Uh HT2).below (Uh Aw3).bel)
 rw [Uh HS] at K
 dsimp only at K
 unfold ratV at K
 refine K.mono ?_
 clear K
 rintro _ w5 ⟨rfl,hb⟩
 have Aw5:=Hd ((Uh Aw3).step hb)
 clear Aw3 hb
 go_wp2_with fail
 refine (rnum2_any 0 w5).mono ?_
 rintro _ w' ⟨rfl,hw⟩
 obtain rfl:=hw.symm
 clear hw
 have t6:=(Uh Aw5).r (w.heap.size) (.bool false) (.slice a_a n_a c_a) (.slice b_a m_a d_a) (.head _)
 have t6a:=t6.c0
 have t6b:=t6.c1
 have t6c:=t6.c2
 clear t6
 go_wp2_with fail
 clear t6a t6b t6c
 have K:=ratSign_any false (a_a) (b_a) n_a c_a m_a d_a (x_a) (y_a)  w5 ((Uh Aw5).n (a_a) n_a c_a (x_a) (b_a) m_a d_a (y_a) mM1).num ((Uh Aw5).n (a_a) n_a c_a (x_a) (b_a) m_a d_a (y_a) mM1).den (Uh O_a).1 (Uh O_a).2 ((Uh Aw5).tab mM2)
 rw [Uh HSG] at K
 unfold ratV at K
 refine K.mono ?_
 clear K
 rintro _ w7 ⟨rfl,hb⟩
 have Aw7:=Hd ((Uh Aw5).step hb)
 clear Aw5 hb
 obtain ⟨tsh,tand⟩:=Uh HTA
 by_cases hinf:s = 9218868437227405312
 ·obtain ⟨ex,hfn⟩:=Uh HINF hinf
  have ti:((s:Int) == 9218868437227405312) = true:=by simp; omega
  have HI:=Hd (And.intro ex hfn)
  clear ex hfn hinf
  have t8:=(Uh Aw7).r (w.heap.size) (.bool false) (.slice a_a n_a c_a) (.slice b_a m_a d_a) (.head _)
  have t8a:=t8.c0
  have t8b:=t8.c1
  have t8c:=t8.c2
  clear t8
  go_wp2_with fail
  clear t8a t8b t8c
  have K:=beyond_any false a_a n_a c_a x_a b_a m_a d_a y_a w7 ((Uh Aw7).n (a_a) n_a c_a (x_a) (b_a) m_a d_a (y_a) mM1).num ((Uh Aw7).n (a_a) n_a c_a (x_a) (b_a) m_a d_a (y_a) mM1).den (Uh O_a).1 (Uh O_a).2 ((Uh Aw7).tab mM2) (Uh HM) (Uh HI).1 (Uh HI).2
  unfold ratV at K
  refine K.mono ?_
  clear K
  rintro _ w9 ⟨rfl,hb⟩
  have Aw9:=Hd ((Uh Aw7).step hb)
  clear Aw7 hb
  go_wp2_with fail
  refine (ralive_any w9 ((Uh Aw9).tab mM2)).mono ?_
  rintro _ wz ⟨rfl,hb⟩
  have HZ:=Hd (((Uh Aw9).step hb).bel)
  clear hb
  go_wp2_with fail
  go_ret
  exact ⟨rfl,Uh HZ⟩
 ·have ti:((s:Int) == 9218868437227405312) = false:=by simp; omega
  have hlt:s < 9218868437227405312:=by have:=Uh HLE; omega
  obtain ⟨U,Rr,hI1,hI2,hI3⟩:=Uh HIS hinf
  have hYp:=Uh HYP
  have HUP:=Hd (fun (h4:s + 1 < 9218868437227405312) => near_up hYp hI1 hI2 h4)
  have HDN:=Hd (fun (h0:0 < s) => near_down hYp hI1 hI2 h0 hI3)
  obtain ⟨gr,xr,yr,hr1,hr2,hr3,hr4⟩:=Uh HFF s hlt
  rw [Uh HSV] at hr1
  have HR1:=Hd hr1
  have O_r:=Hd (And.intro hr2 hr3)
  have HFR:=Hd hr4
  have hev:(SV:Int).tmod 2 = ((s % 2:Nat):Int):=by have h1:=Uh HSV; rw [Int.tmod_eq_emod_of_nonneg (by omega)]; omega
  have HLT:=Hd hlt
  clear hinf hI1 hI2 hI3 hYp hr1 hr2 hr3 hr4 hlt
  go_wp2_with fail
  have K:=rfromFloat_RR SV w7 hSVb ((Uh Aw7).tab mM2)
  rw [Uh HR1] at K
  try dsimp only at K
  try unfold ratV at K
  refine K.mono ?_
  clear K
  rintro _ w10 ⟨v,rfl,a_r10,n_r10,c_r10,b_r10,m_r10,d_r10,rfl,sx,sy,nx,ny,hb⟩
  try dsimp only at sx sy
  unfold ratV
  have Aw10:=Hd (((Uh Aw7).step hb).add (fN a_r10 n_r10 c_r10 xr b_r10 m_r10 d_r10 yr) ⟨sx,sy⟩)
  clear Aw7 sx sy nx ny hb
  obtain ⟨w11,hw11⟩:∃ x,w10.alloc (.cells #[.bool gr,.slice a_r10 n_r10 c_r10,.slice b_r10 m_r10 d_r10] 25) = x:=⟨_,rfl⟩
  have Aw11:=Hd ((Uh Aw10).box (.bool gr) (.slice a_r10 n_r10 c_r10) (.slice b_r10 m_r10 d_r10) 25)
  rw [hw11] at Aw11
  clear Aw10
  have t12:=(Uh Aw11).r (w.heap.size) (.bool false) (.slice a_a n_a c_a) (.slice b_a m_a d_a) mM2
  have t12a:=t12.c0
  have t12b:=t12.c1
  have t12c:=t12.c2
  clear t12
  have t13:=(Uh Aw11).r (w10.heap.size) (.bool gr) (.slice a_r10 n_r10 c_r10) (.slice b_r10 m_r10 d_r10) (.head _)
  have t13a:=t13.c0
  have t13b:=t13.c1
  have t13c:=t13.c2
  clear t13
  go_wp2_with fail
  clear t12a t12b t12c t13a t13b t13c
  have K:=gap_fl false gr (a_a) (b_a) (a_r10) (b_r10) n_a c_a m_a d_a n_r10 c_r10 m_r10 d_r10 (x_a) (y_a) (xr) (yr) (flV s) (2 ^ kB) w11 ((Uh Aw11).n (a_a) n_a c_a (x_a) (b_a) m_a d_a (y_a) mM3).num ((Uh Aw11).n (a_a) n_a c_a (x_a) (b_a) m_a d_a (y_a) mM3).den ((Uh Aw11).n (a_r10) n_r10 c_r10 (xr) (b_r10) m_r10 d_r10 (yr) mM1).num ((Uh Aw11).n (a_r10) n_r10 c_r10 (xr) (b_r10) m_r10 d_r10 (yr) mM1).den (Uh O_a).1 (Uh O_a).2 (Uh O_r).1 (Uh O_r).2 ((Uh Aw11).tab mM4) (Uh HM) (Uh HFR)
  unfold ratV at K
  refine K.mono ?_
  clear K
  rintro _ w14 ⟨a_d,n_d,c_d,b_d,m_d,d_d,x_d,y_d,ok,rfl,sx,sy,ox,oy,hok,hb⟩
  unfold ratV
  have Aw14:=Hd (((Uh Aw11).step hb).add (fN a_d n_d c_d x_d b_d m_d d_d y_d) ⟨sx,sy⟩)
  clear Aw11 sx sy hb
  have O_d:=Hd (And.intro ox oy)
  have HOK:=Hd hok
  clear ox oy hok
  obtain ⟨w15,hw15⟩:∃ x,w14.alloc (.cells #[.bool false,.slice a_d n_d c_d,.slice b_d m_d d_d] 25) = x:=⟨_,rfl⟩
  have Aw15:=Hd ((Uh Aw14).box (.bool false) (.slice a_d n_d c_d) (.slice b_d m_d d_d) 25)
  rw [hw15] at Aw15
  clear Aw14
  go_wp2_with fail
  refine (rnum2_any 0 w15).mono ?_
  rintro _ w' ⟨rfl,hw⟩
  obtain rfl:=hw.symm
  clear hw
  have hB:Fcts w w15 [fR (w14.heap.size) (.bool false) (.slice a_d n_d c_d) (.slice b_d m_d d_d),fR (w.heap.size) (.bool false) (.slice a_a n_a c_a) (.slice b_a m_a d_a),fN (a_d) n_d c_d (x_d) (b_d) m_d d_d (y_d),fN (a_a) n_a c_a (x_a) (b_a) m_a d_a (y_a),fTab]:=⟨(Uh Aw15).bel,fun f hf => by
   simp only [List.mem_cons,List.not_mem_nil,or_false] at hf
   rcases hf with rfl | rfl | rfl | rfl | rfl
   ·exact (Uh Aw15).r _ _ _ _ (.head _)
   ·exact (Uh Aw15).r _ _ _ _ mM4
   ·exact (Uh Aw15).n _ _ _ _ _ _ _ _ mM1
   ·exact (Uh Aw15).n _ _ _ _ _ _ _ _ mM5
   ·exact ((Uh Aw15).tab mM6)⟩
  have HB:=Hd hB
  clear hB Aw15
  cases ok
  ·skip
   go_wp2_with fail
   go_loopw [11] (fun kv wr => kv = .int .i64 0 ∧ Hid (Fcts w wr [fR (w14.heap.size) (.bool false) (.slice a_d n_d c_d) (.slice b_d m_d d_d),fR (w.heap.size) (.bool false) (.slice a_a n_a c_a) (.slice b_a m_a d_a),fN (a_d) n_d c_d (x_d) (b_d) m_d d_d (y_d),fN (a_a) n_a c_a (x_a) (b_a) m_a d_a (y_a),fTab])) (fun _ _ => 0)
   case atStart => exact ⟨rfl,Uh HB⟩
   case round =>
    obtain ⟨rfl,HL⟩:=hrel
    clear HB
    go_wp2_with fail
    refine (ralive_any wr ((Uh HL).tab mM4)).mono ?_
    rintro _ wz ⟨rfl,hb⟩
    have HZ:=Hd (((Uh HL).step hb).bel)
    clear hb
    go_wp2_with fail
    go_ret
    exact ⟨rfl,Uh HZ⟩
  ·obtain ⟨hd1,hd2⟩:=Uh HOK rfl
   have HD:=Hd (And.intro hd1 hd2)
   clear hd1 hd2
   go_wp2_with fail
   go_loopw [11] (fun kv wr => ∃ k:Nat,k ≤ 2 ∧ kv = .int .i64 (k:Nat) ∧ Hid (Fcts w wr [fR (w14.heap.size) (.bool false) (.slice a_d n_d c_d) (.slice b_d m_d d_d),fR (w.heap.size) (.bool false) (.slice a_a n_a c_a) (.slice b_a m_a d_a),fN (a_d) n_d c_d (x_d) (b_d) m_d d_d (y_d),fN (a_a) n_a c_a (x_a) (b_a) m_a d_a (y_a),fTab])) (fun kv _ => (2 - intOf kv).toNat)
   case atStart => exact ⟨0,by omega,rfl,Uh HB⟩
   case round =>
    clear HB
    obtain ⟨k,hk,rfl,HL⟩:=hrel
    obtain rfl | rfl | rfl:k = 0 ∨ k = 1 ∨ k = 2:=by omega
    ·by_cases hy:s + 1 = 9218868437227405312
     ·obtain ⟨Y1,hY1⟩:∃ z,s + 1 = z:=⟨_,rfl⟩
      have t1:IntKind.u64.wrap ((s:Int) + 1) = (Y1:Int):=wrap_is (by omega) (by omega)
      have ty:((Y1:Int) == 9218868437227405312) = true:=by simp; omega
      clear hy hY1
      go_wp2_with fail
      exact ⟨⟨1,by omega,by (first | rfl | go_num),Uh HL⟩,by simp [intOf]⟩
     ·have hyb:s + 1 < 9218868437227405312:=by have:=Uh HLT; omega
      have HN:=Hd (Uh HUP hyb)
      obtain ⟨Y1,hY1⟩:∃ z,s + 1 = z:=⟨_,rfl⟩
      have t1:IntKind.u64.wrap ((s:Int) + 1) = (Y1:Int):=wrap_is (by omega) (by omega)
      have ty:((Y1:Int) == 9218868437227405312) = false:=by simp; omega
      rw [hY1] at hyb HN
      clear hy hY1
      obtain ⟨gs,xs,ys,hs1,hs2,hs3,hs4⟩:=Uh HFF Y1 hyb
      obtain ⟨YV,hYV⟩:∃ z,0 + Y1 = z:=⟨_,rfl⟩
      rw [hYV] at hs1
      have tor:bits .or .u64 0 (Y1:Int) = (YV:Int):=by rw [or_none (by omega),← hYV]; simp
      have hYVb:YV < 18446744073709551616:=by omega
      have HS1:=Hd hs1
      have O_s:=Hd (And.intro hs2 hs3)
      have HFS:=Hd hs4
      have HYVb:=Hd hYVb
      have HYb:=Hd hyb
      clear hs1 hs2 hs3 hs4 hYV hYVb hyb
      go_wp2_with fail
      have K:=rfromFloat_RR YV wr (Uh HYVb) ((Uh HL).tab mM4)
      rw [Uh HS1] at K
      try dsimp only at K
      try unfold ratV at K
      refine K.mono ?_
      clear K
      rintro _ w16 ⟨v,rfl,a_s16,n_s16,c_s16,b_s16,m_s16,d_s16,rfl,sx,sy,nx,ny,hb⟩
      try dsimp only at sx sy
      unfold ratV
      have Aw16:=Hd (((Uh HL).step hb).add (fN a_s16 n_s16 c_s16 xs b_s16 m_s16 d_s16 ys) ⟨sx,sy⟩)
      clear HL sx sy nx ny hb
      obtain ⟨w17,hw17⟩:∃ x,w16.alloc (.cells #[.bool gs,.slice a_s16 n_s16 c_s16,.slice b_s16 m_s16 d_s16] 25) = x:=⟨_,rfl⟩
      have Aw17:=Hd ((Uh Aw16).box (.bool gs) (.slice a_s16 n_s16 c_s16) (.slice b_s16 m_s16 d_s16) 25)
      rw [hw17] at Aw17
      clear Aw16
      have t18:=(Uh Aw17).r (w.heap.size) (.bool false) (.slice a_a n_a c_a) (.slice b_a m_a d_a) mM3
      have t18a:=t18.c0
      have t18b:=t18.c1
      have t18c:=t18.c2
      clear t18
      have t19:=(Uh Aw17).r (w16.heap.size) (.bool gs) (.slice a_s16 n_s16 c_s16) (.slice b_s16 m_s16 d_s16) (.head _)
      have t19a:=t19.c0
      have t19b:=t19.c1
      have t19c:=t19.c2
      clear t19
      go_wp2_with fail
      clear t18a t18b t18c t19a t19b t19c
      have K:=gap_fl false gs (a_a) (b_a) (a_s16) (b_s16) n_a c_a m_a d_a n_s16 c_s16 m_s16 d_s16 (x_a) (y_a) (xs) (ys) (flV Y1) (2 ^ kB) w17 ((Uh Aw17).n (a_a) n_a c_a (x_a) (b_a) m_a d_a (y_a) mM5).num ((Uh Aw17).n (a_a) n_a c_a (x_a) (b_a) m_a d_a (y_a) mM5).den ((Uh Aw17).n (a_s16) n_s16 c_s16 (xs) (b_s16) m_s16 d_s16 (ys) mM1).num ((Uh Aw17).n (a_s16) n_s16 c_s16 (xs) (b_s16) m_s16 d_s16 (ys) mM1).den (Uh O_a).1 (Uh O_a).2 (Uh O_s).1 (Uh O_s).2 ((Uh Aw17).tab mM6) (Uh HM) (Uh HFS)
      unfold ratV at K
      refine K.mono ?_
      clear K
      rintro _ w20 ⟨a_f,n_f,c_f,b_f,m_f,d_f,x_f,y_f,good,rfl,sx,sy,ox,oy,hok,hb⟩
      unfold ratV
      have Aw20:=Hd (((Uh Aw17).step hb).add (fN a_f n_f c_f x_f b_f m_f d_f y_f) ⟨sx,sy⟩)
      clear sx sy hb
      have O_f:=Hd (And.intro ox oy)
      have HGD:=Hd hok
      clear ox oy hok
      obtain ⟨w21,hw21⟩:∃ x,w20.alloc (.cells #[.bool false,.slice a_f n_f c_f,.slice b_f m_f d_f] 25) = x:=⟨_,rfl⟩
      have Aw21:=Hd ((Uh Aw20).box (.bool false) (.slice a_f n_f c_f) (.slice b_f m_f d_f) 25)
      rw [hw21] at Aw21
      clear Aw20
      go_wp2_with fail
      refine (rnum2_any 0 w21).mono ?_
      rintro _ w' ⟨rfl,hw⟩
      obtain rfl:=hw.symm
      clear hw
      have t22:=(Uh Aw21).r (w14.heap.size) (.bool false) (.slice a_d n_d c_d) (.slice b_d m_d d_d) mM4
      have t22a:=t22.c0
      have t22b:=t22.c1
      have t22c:=t22.c2
      clear t22
      have t23:=(Uh Aw21).r (w20.heap.size) (.bool false) (.slice a_f n_f c_f) (.slice b_f m_f d_f) (.head _)
      have t23a:=t23.c0
      have t23b:=t23.c1
      have t23c:=t23.c2
      clear t23
      go_wp2_with fail
      clear t22a t22b t22c t23a t23b t23c
      have K:=ratCmp_any false false (a_d) (b_d) (a_f) (b_f) n_d c_d m_d d_d n_f c_f m_f d_f (x_d) (y_d) (x_f) (y_f) w21 ((Uh Aw21).n (a_d) n_d c_d (x_d) (b_d) m_d d_d (y_d) mM6).num ((Uh Aw21).n (a_d) n_d c_d (x_d) (b_d) m_d d_d (y_d) mM6).den ((Uh Aw21).n (a_f) n_f c_f (x_f) (b_f) m_f d_f (y_f) mM1).num ((Uh Aw21).n (a_f) n_f c_f (x_f) (b_f) m_f d_f (y_f) mM1).den (Uh O_d).1 (Uh O_d).2 (Uh O_f).1 (Uh O_f).2 ((Uh Aw21).tab mM8)
      have HCV:=Hd (fun (h:good = true) => near_cmp (Uh HD).1 ((Uh HGD) h).1 (Nat.mul_pos (Uh HYP) (Nat.two_pow_pos kB)) (Uh HD).2 ((Uh HGD) h).2 (Uh HN))
      obtain ⟨cv,hcv⟩:∃ z,CmpF false (x_d) (y_d) false (x_f) (y_f) = z:=⟨_,rfl⟩
      rw [hcv] at K HCV
      clear hcv
      unfold ratV at K
      refine K.mono ?_
      clear K
      rintro _ w24 ⟨rfl,hb⟩
      have Aw24:=Hd ((Uh Aw21).step hb)
      clear hb
      have HB2:=Hd (show Fcts w w24 [fR (w14.heap.size) (.bool false) (.slice a_d n_d c_d) (.slice b_d m_d d_d),fR (w.heap.size) (.bool false) (.slice a_a n_a c_a) (.slice b_a m_a d_a),fN (a_d) n_d c_d (x_d) (b_d) m_d d_d (y_d),fN (a_a) n_a c_a (x_a) (b_a) m_a d_a (y_a),fTab] from ⟨(Uh Aw24).bel,fun f hf => by
       simp only [List.mem_cons,List.not_mem_nil,or_false] at hf
       rcases hf with rfl | rfl | rfl | rfl | rfl
       ·exact (Uh Aw24).r _ _ _ _ mM4
       ·exact (Uh Aw24).r _ _ _ _ mM5
       ·exact (Uh Aw24).n _ _ _ _ _ _ _ _ mM6
       ·exact (Uh Aw24).n _ _ _ _ _ _ _ _ mM7
       ·exact ((Uh Aw24).tab mM8)⟩)
      clear Aw24 HFS HS1 HGD
      cases good
      ·skip
       go_wp2_with fail
       exact ⟨⟨1,by omega,by (first | rfl | go_num),Uh HB2⟩,by simp [intOf]⟩
      ·obtain ⟨hc1,hc2⟩:=Uh HCV rfl
       have tc1:¬ (0:Int) < cv:=by omega
       by_cases hc:cv = 0
       ·have he:=hc2 hc
        have tc2:(cv == 0) = true:=by simp [hc]
        rw [he] at hev
        clear hc hc2 hc1 he
        go_wp2_with fail
        exact ⟨⟨1,by omega,by (first | rfl | go_num),Uh HB2⟩,by simp [intOf]⟩
       ·have tc2:(cv == 0) = false:=by simp [hc]
        clear hc hc2 hc1
        go_wp2_with fail
        exact ⟨⟨1,by omega,by (first | rfl | go_num),Uh HB2⟩,by simp [intOf]⟩
    ·by_cases hy:s = 0
     ·have ty:((s:Int) == 0) = true:=by simp; omega
      clear hy
      go_wp2_with fail
      exact ⟨⟨2,by omega,by (first | rfl | go_num),Uh HL⟩,by simp [intOf]⟩
     ·have ty0:((s:Int) == 0) = false:=by simp; omega
      have HN:=Hd (Uh HDN (by omega))
      obtain ⟨Y1,hY1⟩:∃ z,s - 1 = z:=⟨_,rfl⟩
      have hyb:Y1 < 9218868437227405312:=by have:=Uh HLT; omega
      have t0:IntKind.u64.wrap ((s:Int) + 1) = ((s + 1:Nat):Int):=wrap_is (by omega) (by have:=Uh HLT; omega)
      have t1:IntKind.u64.wrap ((s:Int) - 1) = (Y1:Int):=wrap_is (by omega) (by omega)
      have ty:((Y1:Int) == 9218868437227405312) = false:=by simp; omega
      rw [hY1] at HN
      clear hy hY1
      obtain ⟨gs,xs,ys,hs1,hs2,hs3,hs4⟩:=Uh HFF Y1 hyb
      obtain ⟨YV,hYV⟩:∃ z,0 + Y1 = z:=⟨_,rfl⟩
      rw [hYV] at hs1
      have tor:bits .or .u64 0 (Y1:Int) = (YV:Int):=by rw [or_none (by omega),← hYV]; simp
      have hYVb:YV < 18446744073709551616:=by omega
      have HS1:=Hd hs1
      have O_s:=Hd (And.intro hs2 hs3)
      have HFS:=Hd hs4
      have HYVb:=Hd hYVb
      have HYb:=Hd hyb
      clear hs1 hs2 hs3 hs4 hYV hYVb hyb
      go_wp2_with fail
      have K:=rfromFloat_RR YV wr (Uh HYVb) ((Uh HL).tab mM4)
      rw [Uh HS1] at K
      try dsimp only at K
      try unfold ratV at K
      refine K.mono ?_
      clear K
      rintro _ w25 ⟨v,rfl,a_s25,n_s25,c_s25,b_s25,m_s25,d_s25,rfl,sx,sy,nx,ny,hb⟩
      try dsimp only at sx sy
      unfold ratV
      have Aw25:=Hd (((Uh HL).step hb).add (fN a_s25 n_s25 c_s25 xs b_s25 m_s25 d_s25 ys) ⟨sx,sy⟩)
      clear HL sx sy nx ny hb
      obtain ⟨w26,hw26⟩:∃ x,w25.alloc (.cells #[.bool gs,.slice a_s25 n_s25 c_s25,.slice b_s25 m_s25 d_s25] 25) = x:=⟨_,rfl⟩
      have Aw26:=Hd ((Uh Aw25).box (.bool gs) (.slice a_s25 n_s25 c_s25) (.slice b_s25 m_s25 d_s25) 25)
      rw [hw26] at Aw26
      clear Aw25
      have t27:=(Uh Aw26).r (w.heap.size) (.bool false) (.slice a_a n_a c_a) (.slice b_a m_a d_a) mM3
      have t27a:=t27.c0
      have t27b:=t27.c1
      have t27c:=t27.c2
      clear t27
      have t28:=(Uh Aw26).r (w25.heap.size) (.bool gs) (.slice a_s25 n_s25 c_s25) (.slice b_s25 m_s25 d_s25) (.head _)
      have t28a:=t28.c0
      have t28b:=t28.c1
      have t28c:=t28.c2
      clear t28
      go_wp2_with fail
      clear t27a t27b t27c t28a t28b t28c
      have K:=gap_fl false gs (a_a) (b_a) (a_s25) (b_s25) n_a c_a m_a d_a n_s25 c_s25 m_s25 d_s25 (x_a) (y_a) (xs) (ys) (flV Y1) (2 ^ kB) w26 ((Uh Aw26).n (a_a) n_a c_a (x_a) (b_a) m_a d_a (y_a) mM5).num ((Uh Aw26).n (a_a) n_a c_a (x_a) (b_a) m_a d_a (y_a) mM5).den ((Uh Aw26).n (a_s25) n_s25 c_s25 (xs) (b_s25) m_s25 d_s25 (ys) mM1).num ((Uh Aw26).n (a_s25) n_s25 c_s25 (xs) (b_s25) m_s25 d_s25 (ys) mM1).den (Uh O_a).1 (Uh O_a).2 (Uh O_s).1 (Uh O_s).2 ((Uh Aw26).tab mM6) (Uh HM) (Uh HFS)
      unfold ratV at K
      refine K.mono ?_
      clear K
      rintro _ w29 ⟨a_f,n_f,c_f,b_f,m_f,d_f,x_f,y_f,good,rfl,sx,sy,ox,oy,hok,hb⟩
      unfold ratV
      have Aw29:=Hd (((Uh Aw26).step hb).add (fN a_f n_f c_f x_f b_f m_f d_f y_f) ⟨sx,sy⟩)
      clear sx sy hb
      have O_f:=Hd (And.intro ox oy)
      have HGD:=Hd hok
      clear ox oy hok
      obtain ⟨w30,hw30⟩:∃ x,w29.alloc (.cells #[.bool false,.slice a_f n_f c_f,.slice b_f m_f d_f] 25) = x:=⟨_,rfl⟩
      have Aw30:=Hd ((Uh Aw29).box (.bool false) (.slice a_f n_f c_f) (.slice b_f m_f d_f) 25)
      rw [hw30] at Aw30
      clear Aw29
      go_wp2_with fail
      refine (rnum2_any 0 w30).mono ?_
      rintro _ w' ⟨rfl,hw⟩
      obtain rfl:=hw.symm
      clear hw
      have t31:=(Uh Aw30).r (w14.heap.size) (.bool false) (.slice a_d n_d c_d) (.slice b_d m_d d_d) mM4
      have t31a:=t31.c0
      have t31b:=t31.c1
      have t31c:=t31.c2
      clear t31
      have t32:=(Uh Aw30).r (w29.heap.size) (.bool false) (.slice a_f n_f c_f) (.slice b_f m_f d_f) (.head _)
      have t32a:=t32.c0
      have t32b:=t32.c1
      have t32c:=t32.c2
      clear t32
      go_wp2_with fail
      clear t31a t31b t31c t32a t32b t32c
      have K:=ratCmp_any false false (a_d) (b_d) (a_f) (b_f) n_d c_d m_d d_d n_f c_f m_f d_f (x_d) (y_d) (x_f) (y_f) w30 ((Uh Aw30).n (a_d) n_d c_d (x_d) (b_d) m_d d_d (y_d) mM6).num ((Uh Aw30).n (a_d) n_d c_d (x_d) (b_d) m_d d_d (y_d) mM6).den ((Uh Aw30).n (a_f) n_f c_f (x_f) (b_f) m_f d_f (y_f) mM1).num ((Uh Aw30).n (a_f) n_f c_f (x_f) (b_f) m_f d_f (y_f) mM1).den (Uh O_d).1 (Uh O_d).2 (Uh O_f).1 (Uh O_f).2 ((Uh Aw30).tab mM8)
      have HCV:=Hd (fun (h:good = true) => near_cmp (Uh HD).1 ((Uh HGD) h).1 (Nat.mul_pos (Uh HYP) (Nat.two_pow_pos kB)) (Uh HD).2 ((Uh HGD) h).2 (Uh HN))
      obtain ⟨cv,hcv⟩:∃ z,CmpF false (x_d) (y_d) false (x_f) (y_f) = z:=⟨_,rfl⟩
      rw [hcv] at K HCV
      clear hcv
      unfold ratV at K
      refine K.mono ?_
      clear K
      rintro _ w33 ⟨rfl,hb⟩
      have Aw33:=Hd ((Uh Aw30).step hb)
      clear hb
      have HB2:=Hd (show Fcts w w33 [fR (w14.heap.size) (.bool false) (.slice a_d n_d c_d) (.slice b_d m_d d_d),fR (w.heap.size) (.bool false) (.slice a_a n_a c_a) (.slice b_a m_a d_a),fN (a_d) n_d c_d (x_d) (b_d) m_d d_d (y_d),fN (a_a) n_a c_a (x_a) (b_a) m_a d_a (y_a),fTab] from ⟨(Uh Aw33).bel,fun f hf => by
       simp only [List.mem_cons,List.not_mem_nil,or_false] at hf
       rcases hf with rfl | rfl | rfl | rfl | rfl
       ·exact (Uh Aw33).r _ _ _ _ mM4
       ·exact (Uh Aw33).r _ _ _ _ mM5
       ·exact (Uh Aw33).n _ _ _ _ _ _ _ _ mM6
       ·exact (Uh Aw33).n _ _ _ _ _ _ _ _ mM7
       ·exact ((Uh Aw33).tab mM8)⟩)
      clear Aw33 HFS HS1 HGD
      cases good
      ·skip
       go_wp2_with fail
       exact ⟨⟨2,by omega,by (first | rfl | go_num),Uh HB2⟩,by simp [intOf]⟩
      ·obtain ⟨hc1,hc2⟩:=Uh HCV rfl
       have tc1:¬ (0:Int) < cv:=by omega
       by_cases hc:cv = 0
       ·have he:=hc2 hc
        have tc2:(cv == 0) = true:=by simp [hc]
        rw [he] at hev
        clear hc hc2 hc1 he
        go_wp2_with fail
        exact ⟨⟨2,by omega,by (first | rfl | go_num),Uh HB2⟩,by simp [intOf]⟩
       ·have tc2:(cv == 0) = false:=by simp [hc]
        clear hc hc2 hc1
        go_wp2_with fail
        exact ⟨⟨2,by omega,by (first | rfl | go_num),Uh HB2⟩,by simp [intOf]⟩
    ·skip
     go_wp2_with fail
     refine (ralive_any wr ((Uh HL).tab mM4)).mono ?_
     rintro _ wz ⟨rfl,hb⟩
     have HZ:=Hd (((Uh HL).step hb).bel)
     clear hb
     go_wp2_with fail
     go_ret
     exact ⟨rfl,Uh HZ⟩
set_option maxRecDepth 100000 in
set_option maxHeartbeats 64000000 in
theorem near_T (a_a:Option Addr) (n_a c_a:Nat) (x_a:List Nat) (b_a:Option Addr) (m_a d_a:Nat) (y_a:List Nat) (w:World) (hx_a:Sl w a_a n_a c_a x_a) (hy_a:Sl w b_a m_a d_a y_a) (ox_a:Ok x_a) (oy_a:Ok y_a) (hT:Tab64 w) (hT2:Tab32 w) (hm:MayR true x_a y_a = true) :
  Calls Tryz.prog 3 #[ratV true a_a n_a c_a b_a m_a d_a] w fun e w' => e = .returned (.bool true) ∧ Below w.heap.size w w':=by
 have A00:Fcts w w [fTab]:=⟨Below.refl _ _,fun f hf => by simp at hf; subst hf; exact hT⟩
 have A01:=A00.add (fN a_a n_a c_a x_a b_a m_a d_a y_a) ⟨hx_a,hy_a⟩
 have O_a:=Hd (And.intro ox_a oy_a)
 have A0:=Hd A01
 have hs:=flF_is hm
 simp only [if_true] at hs
 have hle:=flS_le ox_a oy_a hm
 have HFF:=Hd (fun s (h:s < 9218868437227405312) => ff_of (g:=true) (s:=s) h)
 simp only [if_true] at HFF
 have HIS:=Hd (flS_is ox_a oy_a hm)
 have HINF:=Hd (flS_inf (g:=true) (x:=x_a) (y:=y_a))
 have HYP:=Hd (mayR_pos hm)
 have HM:=Hd hm
 have hsg:decide (SignF true x_a y_a < 0) = true:=by unfold SignF signR; rw [if_pos hm]; simp
 have HT2:=Hd hT2
 obtain ⟨s,hsd⟩:∃ s,flS x_a y_a = s:=⟨_,rfl⟩
 rw [hsd] at hs hle HIS HINF
 obtain ⟨SG,hSG⟩:∃ z,SignF true x_a y_a = z:=⟨_,rfl⟩
 rw [hSG] at hsg
 obtain ⟨SV,hSV⟩:∃ z,9223372036854775808 + s = z:=⟨_,rfl⟩
 rw [hSV] at hs
 have HS:=Hd hs
 have HSG:=Hd hSG
 have HSV:=Hd hSV
 have HLE:=Hd hle
 have hSVb:SV < 18446744073709551616:=by omega
 have tsh:(SV:Int) / 9223372036854775808 = 1:=by omega
 have tand:bits .and .u64 (SV:Int) 9223372036854775807 = (s:Int):=by
   have h1:=u64_and_nat SV 9223372036854775807 hSVb (by decide)
   rw [show (9223372036854775807:Nat) = 2 ^ 63 - 1 from rfl,Nat.and_two_pow_sub_one_eq_mod,show SV % 2 ^ 63 = s by omega] at h1
   exact h1
 have HTA:=Hd (And.intro tsh tand)
 clear hm hs hSG hSV hle hsd hT2 tsh tand
 clear A00 hT hx_a hy_a A01 ox_a oy_a
 unfold ratV
 obtain ⟨w1,hw1⟩:∃ x,w.alloc (.cells #[.bool true,.slice a_a n_a c_a,.slice b_a m_a d_a] 25) = x:=⟨_,rfl⟩
 have Aw1:=Hd ((Uh A0).box (.bool true) (.slice a_a n_a c_a) (.slice b_a m_a d_a) 25)
 rw [hw1] at Aw1
 clear A0
 go_enter Tryz.func3,Tryz.ntmps3
 have t2:=(Uh Aw1).r (w.heap.size) (.bool true) (.slice a_a n_a c_a) (.slice b_a m_a d_a) (.head _)
 have t2a:=t2.c0
 have t2b:=t2.c1
 have t2c:=t2.c2
 clear t2
 go_wp2_with fail
 clear t2a t2b t2c
 have K:=ratMay_any true (a_a) (b_a) n_a c_a m_a d_a (x_a) (y_a)  w1 ((Uh Aw1).n (a_a) n_a c_a (x_a) (b_a) m_a d_a (y_a) mM1).num ((Uh Aw1).n (a_a) n_a c_a (x_a) (b_a) m_a d_a (y_a) mM1).den (Uh O_a).1 (Uh O_a).2 ((Uh Aw1).tab mM2)
 rw [Uh HM] at K
 unfold ratV at K
 refine K.mono ?_
 clear K
 rintro _ w3 ⟨rfl,hb⟩
 have Aw3:=Hd ((Uh Aw1).step hb)
 clear Aw1 hb
 have t4:=(Uh Aw3).r (w.heap.size) (.bool true) (.slice a_a n_a c_a) (.slice b_a m_a d_a) (.head _)
 have t4a:=t4.c0
 have t4b:=t4.c1
 have t4c:=t4.c2
 clear t4
 go_wp2_with fail
 clear t4a t4b t4c
 have K:=rfloat_any true (a_a) (b_a) n_a c_a m_a d_a (x_a) (y_a)  w3 ((Uh Aw3).n (a_a) n_a c_a (x_a) (b_a) m_a d_a (y_a) mM1).num ((Uh Aw3).n (a_a) n_a c_a (x_a) (b_a) m_a d_a (y_a) mM1).den (Uh O_a).1 (Uh O_a).2 ((Uh Aw3).tab mM2) ((Uh HT2).below (Uh Aw3).bel)
 rw [Uh HS] at K
 dsimp only at K
 unfold ratV at K
 refine K.mono ?_
 clear K
 rintro _ w5 ⟨rfl,hb⟩
 have Aw5:=Hd ((Uh Aw3).step hb)
 clear Aw3 hb
 go_wp2_with fail
 refine (rnum2_any 0 w5).mono ?_
 rintro _ w' ⟨rfl,hw⟩
 obtain rfl:=hw.symm
 clear hw
 have t6:=(Uh Aw5).r (w.heap.size) (.bool true) (.slice a_a n_a c_a) (.slice b_a m_a d_a) (.head _)
 have t6a:=t6.c0
 have t6b:=t6.c1
 have t6c:=t6.c2
 clear t6
 go_wp2_with fail
 clear t6a t6b t6c
 have K:=ratSign_any true (a_a) (b_a) n_a c_a m_a d_a (x_a) (y_a)  w5 ((Uh Aw5).n (a_a) n_a c_a (x_a) (b_a) m_a d_a (y_a) mM1).num ((Uh Aw5).n (a_a) n_a c_a (x_a) (b_a) m_a d_a (y_a) mM1).den (Uh O_a).1 (Uh O_a).2 ((Uh Aw5).tab mM2)
 rw [Uh HSG] at K
 unfold ratV at K
 refine K.mono ?_
 clear K
 rintro _ w7 ⟨rfl,hb⟩
 have Aw7:=Hd ((Uh Aw5).step hb)
 clear Aw5 hb
 obtain ⟨tsh,tand⟩:=Uh HTA
 by_cases hinf:s = 9218868437227405312
 ·obtain ⟨ex,hfn⟩:=Uh HINF hinf
  have ti:((s:Int) == 9218868437227405312) = true:=by simp; omega
  have HI:=Hd (And.intro ex hfn)
  clear ex hfn hinf
  have t8:=(Uh Aw7).r (w.heap.size) (.bool true) (.slice a_a n_a c_a) (.slice b_a m_a d_a) (.head _)
  have t8a:=t8.c0
  have t8b:=t8.c1
  have t8c:=t8.c2
  clear t8
  go_wp2_with fail
  clear t8a t8b t8c
  have K:=beyond_any true a_a n_a c_a x_a b_a m_a d_a y_a w7 ((Uh Aw7).n (a_a) n_a c_a (x_a) (b_a) m_a d_a (y_a) mM1).num ((Uh Aw7).n (a_a) n_a c_a (x_a) (b_a) m_a d_a (y_a) mM1).den (Uh O_a).1 (Uh O_a).2 ((Uh Aw7).tab mM2) (Uh HM) (Uh HI).1 (Uh HI).2
  unfold ratV at K
  refine K.mono ?_
  clear K
  rintro _ w9 ⟨rfl,hb⟩
  have Aw9:=Hd ((Uh Aw7).step hb)
  clear Aw7 hb
  go_wp2_with fail
  refine (ralive_any w9 ((Uh Aw9).tab mM2)).mono ?_
  rintro _ wz ⟨rfl,hb⟩
  have HZ:=Hd (((Uh Aw9).step hb).bel)
  clear hb
  go_wp2_with fail
  go_ret
  exact ⟨rfl,Uh HZ⟩
 ·have ti:((s:Int) == 9218868437227405312) = false:=by simp; omega
  have hlt:s < 9218868437227405312:=by have:=Uh HLE; omega
  obtain ⟨U,Rr,hI1,hI2,hI3⟩:=Uh HIS hinf
  have hYp:=Uh HYP
  have HUP:=Hd (fun (h4:s + 1 < 9218868437227405312) => near_up hYp hI1 hI2 h4)
  have HDN:=Hd (fun (h0:0 < s) => near_down hYp hI1 hI2 h0 hI3)
  obtain ⟨gr,xr,yr,hr1,hr2,hr3,hr4⟩:=Uh HFF s hlt
  rw [Uh HSV] at hr1
  have HR1:=Hd hr1
  have O_r:=Hd (And.intro hr2 hr3)
  have HFR:=Hd hr4
  have hev:(SV:Int).tmod 2 = ((s % 2:Nat):Int):=by have h1:=Uh HSV; rw [Int.tmod_eq_emod_of_nonneg (by omega)]; omega
  have HLT:=Hd hlt
  clear hinf hI1 hI2 hI3 hYp hr1 hr2 hr3 hr4 hlt
  go_wp2_with fail
  have K:=rfromFloat_RR SV w7 hSVb ((Uh Aw7).tab mM2)
  rw [Uh HR1] at K
  try dsimp only at K
  try unfold ratV at K
  refine K.mono ?_
  clear K
  rintro _ w10 ⟨v,rfl,a_r10,n_r10,c_r10,b_r10,m_r10,d_r10,rfl,sx,sy,nx,ny,hb⟩
  try dsimp only at sx sy
  unfold ratV
  have Aw10:=Hd (((Uh Aw7).step hb).add (fN a_r10 n_r10 c_r10 xr b_r10 m_r10 d_r10 yr) ⟨sx,sy⟩)
  clear Aw7 sx sy nx ny hb
  obtain ⟨w11,hw11⟩:∃ x,w10.alloc (.cells #[.bool gr,.slice a_r10 n_r10 c_r10,.slice b_r10 m_r10 d_r10] 25) = x:=⟨_,rfl⟩
  have Aw11:=Hd ((Uh Aw10).box (.bool gr) (.slice a_r10 n_r10 c_r10) (.slice b_r10 m_r10 d_r10) 25)
  rw [hw11] at Aw11
  clear Aw10
  have t12:=(Uh Aw11).r (w.heap.size) (.bool true) (.slice a_a n_a c_a) (.slice b_a m_a d_a) mM2
  have t12a:=t12.c0
  have t12b:=t12.c1
  have t12c:=t12.c2
  clear t12
  have t13:=(Uh Aw11).r (w10.heap.size) (.bool gr) (.slice a_r10 n_r10 c_r10) (.slice b_r10 m_r10 d_r10) (.head _)
  have t13a:=t13.c0
  have t13b:=t13.c1
  have t13c:=t13.c2
  clear t13
  go_wp2_with fail
  clear t12a t12b t12c t13a t13b t13c
  have K:=gap_fl true gr (a_a) (b_a) (a_r10) (b_r10) n_a c_a m_a d_a n_r10 c_r10 m_r10 d_r10 (x_a) (y_a) (xr) (yr) (flV s) (2 ^ kB) w11 ((Uh Aw11).n (a_a) n_a c_a (x_a) (b_a) m_a d_a (y_a) mM3).num ((Uh Aw11).n (a_a) n_a c_a (x_a) (b_a) m_a d_a (y_a) mM3).den ((Uh Aw11).n (a_r10) n_r10 c_r10 (xr) (b_r10) m_r10 d_r10 (yr) mM1).num ((Uh Aw11).n (a_r10) n_r10 c_r10 (xr) (b_r10) m_r10 d_r10 (yr) mM1).den (Uh O_a).1 (Uh O_a).2 (Uh O_r).1 (Uh O_r).2 ((Uh Aw11).tab mM4) (Uh HM) (Uh HFR)
  unfold ratV at K
  refine K.mono ?_
  clear K
  rintro _ w14 ⟨a_d,n_d,c_d,b_d,m_d,d_d,x_d,y_d,ok,rfl,sx,sy,ox,oy,hok,hb⟩
  unfold ratV
  have Aw14:=Hd (((Uh Aw11).step hb).add (fN a_d n_d c_d x_d b_d m_d d_d y_d) ⟨sx,sy⟩)
  clear Aw11 sx sy hb
  have O_d:=Hd (And.intro ox oy)
  have HOK:=Hd hok
  clear ox oy hok
  obtain ⟨w15,hw15⟩:∃ x,w14.alloc (.cells #[.bool false,.slice a_d n_d c_d,.slice b_d m_d d_d] 25) = x:=⟨_,rfl⟩
  have Aw15:=Hd ((Uh Aw14).box (.bool false) (.slice a_d n_d c_d) (.slice b_d m_d d_d) 25)
  rw [hw15] at Aw15
  clear Aw14
  go_wp2_with fail
  refine (rnum2_any 0 w15).mono ?_
  rintro _ w' ⟨rfl,hw⟩
  obtain rfl:=hw.symm
  clear hw
  have hB:Fcts w w15 [fR (w14.heap.size) (.bool false) (.slice a_d n_d c_d) (.slice b_d m_d d_d),fR (w.heap.size) (.bool true) (.slice a_a n_a c_a) (.slice b_a m_a d_a),fN (a_d) n_d c_d (x_d) (b_d) m_d d_d (y_d),fN (a_a) n_a c_a (x_a) (b_a) m_a d_a (y_a),fTab]:=⟨(Uh Aw15).bel,fun f hf => by
   simp only [List.mem_cons,List.not_mem_nil,or_false] at hf
   rcases hf with rfl | rfl | rfl | rfl | rfl
   ·exact (Uh Aw15).r _ _ _ _ (.head _)
   ·exact (Uh Aw15).r _ _ _ _ mM4
   ·exact (Uh Aw15).n _ _ _ _ _ _ _ _ mM1
   ·exact (Uh Aw15).n _ _ _ _ _ _ _ _ mM5
   ·exact ((Uh Aw15).tab mM6)⟩
  have HB:=Hd hB
  clear hB Aw15
  cases ok
  ·skip
   go_wp2_with fail
   go_loopw [11] (fun kv wr => kv = .int .i64 0 ∧ Hid (Fcts w wr [fR (w14.heap.size) (.bool false) (.slice a_d n_d c_d) (.slice b_d m_d d_d),fR (w.heap.size) (.bool true) (.slice a_a n_a c_a) (.slice b_a m_a d_a),fN (a_d) n_d c_d (x_d) (b_d) m_d d_d (y_d),fN (a_a) n_a c_a (x_a) (b_a) m_a d_a (y_a),fTab])) (fun _ _ => 0)
   case atStart => exact ⟨rfl,Uh HB⟩
   case round =>
    obtain ⟨rfl,HL⟩:=hrel
    clear HB
    go_wp2_with fail
    refine (ralive_any wr ((Uh HL).tab mM4)).mono ?_
    rintro _ wz ⟨rfl,hb⟩
    have HZ:=Hd (((Uh HL).step hb).bel)
    clear hb
    go_wp2_with fail
    go_ret
    exact ⟨rfl,Uh HZ⟩
  ·obtain ⟨hd1,hd2⟩:=Uh HOK rfl
   have HD:=Hd (And.intro hd1 hd2)
   clear hd1 hd2
   go_wp2_with fail
   go_loopw [11] (fun kv wr => ∃ k:Nat,k ≤ 2 ∧ kv = .int .i64 (k:Nat) ∧ Hid (Fcts w wr [fR (w14.heap.size) (.bool false) (.slice a_d n_d c_d) (.slice b_d m_d d_d),fR (w.heap.size) (.bool true) (.slice a_a n_a c_a) (.slice b_a m_a d_a),fN (a_d) n_d c_d (x_d) (b_d) m_d d_d (y_d),fN (a_a) n_a c_a (x_a) (b_a) m_a d_a (y_a),fTab])) (fun kv _ => (2 - intOf kv).toNat)
   case atStart => exact ⟨0,by omega,rfl,Uh HB⟩
   case round =>
    clear HB
    obtain ⟨k,hk,rfl,HL⟩:=hrel
    obtain rfl | rfl | rfl:k = 0 ∨ k = 1 ∨ k = 2:=by omega
    ·by_cases hy:s + 1 = 9218868437227405312
     ·obtain ⟨Y1,hY1⟩:∃ z,s + 1 = z:=⟨_,rfl⟩
      have t1:IntKind.u64.wrap ((s:Int) + 1) = (Y1:Int):=wrap_is (by omega) (by omega)
      have ty:((Y1:Int) == 9218868437227405312) = true:=by simp; omega
      clear hy hY1
      go_wp2_with fail
      exact ⟨⟨1,by omega,by (first | rfl | go_num),Uh HL⟩,by simp [intOf]⟩
     ·have hyb:s + 1 < 9218868437227405312:=by have:=Uh HLT; omega
      have HN:=Hd (Uh HUP hyb)
      obtain ⟨Y1,hY1⟩:∃ z,s + 1 = z:=⟨_,rfl⟩
      have t1:IntKind.u64.wrap ((s:Int) + 1) = (Y1:Int):=wrap_is (by omega) (by omega)
      have ty:((Y1:Int) == 9218868437227405312) = false:=by simp; omega
      rw [hY1] at hyb HN
      clear hy hY1
      obtain ⟨gs,xs,ys,hs1,hs2,hs3,hs4⟩:=Uh HFF Y1 hyb
      obtain ⟨YV,hYV⟩:∃ z,9223372036854775808 + Y1 = z:=⟨_,rfl⟩
      rw [hYV] at hs1
      have tor:bits .or .u64 9223372036854775808 (Y1:Int) = (YV:Int):=by rw [or_top (by omega),← hYV]
      have hYVb:YV < 18446744073709551616:=by omega
      have HS1:=Hd hs1
      have O_s:=Hd (And.intro hs2 hs3)
      have HFS:=Hd hs4
      have HYVb:=Hd hYVb
      have HYb:=Hd hyb
      clear hs1 hs2 hs3 hs4 hYV hYVb hyb
      go_wp2_with fail
      have K:=rfromFloat_RR YV wr (Uh HYVb) ((Uh HL).tab mM4)
      rw [Uh HS1] at K
      try dsimp only at K
      try unfold ratV at K
      refine K.mono ?_
      clear K
      rintro _ w16 ⟨v,rfl,a_s16,n_s16,c_s16,b_s16,m_s16,d_s16,rfl,sx,sy,nx,ny,hb⟩
      try dsimp only at sx sy
      unfold ratV
      have Aw16:=Hd (((Uh HL).step hb).add (fN a_s16 n_s16 c_s16 xs b_s16 m_s16 d_s16 ys) ⟨sx,sy⟩)
      clear HL sx sy nx ny hb
      obtain ⟨w17,hw17⟩:∃ x,w16.alloc (.cells #[.bool gs,.slice a_s16 n_s16 c_s16,.slice b_s16 m_s16 d_s16] 25) = x:=⟨_,rfl⟩
      have Aw17:=Hd ((Uh Aw16).box (.bool gs) (.slice a_s16 n_s16 c_s16) (.slice b_s16 m_s16 d_s16) 25)
      rw [hw17] at Aw17
      clear Aw16
      have t18:=(Uh Aw17).r (w.heap.size) (.bool true) (.slice a_a n_a c_a) (.slice b_a m_a d_a) mM3
      have t18a:=t18.c0
      have t18b:=t18.c1
      have t18c:=t18.c2
      clear t18
      have t19:=(Uh Aw17).r (w16.heap.size) (.bool gs) (.slice a_s16 n_s16 c_s16) (.slice b_s16 m_s16 d_s16) (.head _)
      have t19a:=t19.c0
      have t19b:=t19.c1
      have t19c:=t19.c2
      clear t19
      go_wp2_with fail
      clear t18a t18b t18c t19a t19b t19c
      have K:=gap_fl true gs (a_a) (b_a) (a_s16) (b_s16) n_a c_a m_a d_a n_s16 c_s16 m_s16 d_s16 (x_a) (y_a) (xs) (ys) (flV Y1) (2 ^ kB) w17 ((Uh Aw17).n (a_a) n_a c_a (x_a) (b_a) m_a d_a (y_a) mM5).num ((Uh Aw17).n (a_a) n_a c_a (x_a) (b_a) m_a d_a (y_a) mM5).den ((Uh Aw17).n (a_s16) n_s16 c_s16 (xs) (b_s16) m_s16 d_s16 (ys) mM1).num ((Uh Aw17).n (a_s16) n_s16 c_s16 (xs) (b_s16) m_s16 d_s16 (ys) mM1).den (Uh O_a).1 (Uh O_a).2 (Uh O_s).1 (Uh O_s).2 ((Uh Aw17).tab mM6) (Uh HM) (Uh HFS)
      unfold ratV at K
      refine K.mono ?_
      clear K
      rintro _ w20 ⟨a_f,n_f,c_f,b_f,m_f,d_f,x_f,y_f,good,rfl,sx,sy,ox,oy,hok,hb⟩
      unfold ratV
      have Aw20:=Hd (((Uh Aw17).step hb).add (fN a_f n_f c_f x_f b_f m_f d_f y_f) ⟨sx,sy⟩)
      clear sx sy hb
      have O_f:=Hd (And.intro ox oy)
      have HGD:=Hd hok
      clear ox oy hok
      obtain ⟨w21,hw21⟩:∃ x,w20.alloc (.cells #[.bool false,.slice a_f n_f c_f,.slice b_f m_f d_f] 25) = x:=⟨_,rfl⟩
      have Aw21:=Hd ((Uh Aw20).box (.bool false) (.slice a_f n_f c_f) (.slice b_f m_f d_f) 25)
      rw [hw21] at Aw21
      clear Aw20
      go_wp2_with fail
      refine (rnum2_any 0 w21).mono ?_
      rintro _ w' ⟨rfl,hw⟩
      obtain rfl:=hw.symm
      clear hw
      have t22:=(Uh Aw21).r (w14.heap.size) (.bool false) (.slice a_d n_d c_d) (.slice b_d m_d d_d) mM4
      have t22a:=t22.c0
      have t22b:=t22.c1
      have t22c:=t22.c2
      clear t22
      have t23:=(Uh Aw21).r (w20.heap.size) (.bool false) (.slice a_f n_f c_f) (.slice b_f m_f d_f) (.head _)
      have t23a:=t23.c0
      have t23b:=t23.c1
      have t23c:=t23.c2
      clear t23
      go_wp2_with fail
      clear t22a t22b t22c t23a t23b t23c
      have K:=ratCmp_any false false (a_d) (b_d) (a_f) (b_f) n_d c_d m_d d_d n_f c_f m_f d_f (x_d) (y_d) (x_f) (y_f) w21 ((Uh Aw21).n (a_d) n_d c_d (x_d) (b_d) m_d d_d (y_d) mM6).num ((Uh Aw21).n (a_d) n_d c_d (x_d) (b_d) m_d d_d (y_d) mM6).den ((Uh Aw21).n (a_f) n_f c_f (x_f) (b_f) m_f d_f (y_f) mM1).num ((Uh Aw21).n (a_f) n_f c_f (x_f) (b_f) m_f d_f (y_f) mM1).den (Uh O_d).1 (Uh O_d).2 (Uh O_f).1 (Uh O_f).2 ((Uh Aw21).tab mM8)
      have HCV:=Hd (fun (h:good = true) => near_cmp (Uh HD).1 ((Uh HGD) h).1 (Nat.mul_pos (Uh HYP) (Nat.two_pow_pos kB)) (Uh HD).2 ((Uh HGD) h).2 (Uh HN))
      obtain ⟨cv,hcv⟩:∃ z,CmpF false (x_d) (y_d) false (x_f) (y_f) = z:=⟨_,rfl⟩
      rw [hcv] at K HCV
      clear hcv
      unfold ratV at K
      refine K.mono ?_
      clear K
      rintro _ w24 ⟨rfl,hb⟩
      have Aw24:=Hd ((Uh Aw21).step hb)
      clear hb
      have HB2:=Hd (show Fcts w w24 [fR (w14.heap.size) (.bool false) (.slice a_d n_d c_d) (.slice b_d m_d d_d),fR (w.heap.size) (.bool true) (.slice a_a n_a c_a) (.slice b_a m_a d_a),fN (a_d) n_d c_d (x_d) (b_d) m_d d_d (y_d),fN (a_a) n_a c_a (x_a) (b_a) m_a d_a (y_a),fTab] from ⟨(Uh Aw24).bel,fun f hf => by
       simp only [List.mem_cons,List.not_mem_nil,or_false] at hf
       rcases hf with rfl | rfl | rfl | rfl | rfl
       ·exact (Uh Aw24).r _ _ _ _ mM4
       ·exact (Uh Aw24).r _ _ _ _ mM5
       ·exact (Uh Aw24).n _ _ _ _ _ _ _ _ mM6
       ·exact (Uh Aw24).n _ _ _ _ _ _ _ _ mM7
       ·exact ((Uh Aw24).tab mM8)⟩)
      clear Aw24 HFS HS1 HGD
      cases good
      ·skip
       go_wp2_with fail
       exact ⟨⟨1,by omega,by (first | rfl | go_num),Uh HB2⟩,by simp [intOf]⟩
      ·obtain ⟨hc1,hc2⟩:=Uh HCV rfl
       have tc1:¬ (0:Int) < cv:=by omega
       by_cases hc:cv = 0
       ·have he:=hc2 hc
        have tc2:(cv == 0) = true:=by simp [hc]
        rw [he] at hev
        clear hc hc2 hc1 he
        go_wp2_with fail
        exact ⟨⟨1,by omega,by (first | rfl | go_num),Uh HB2⟩,by simp [intOf]⟩
       ·have tc2:(cv == 0) = false:=by simp [hc]
        clear hc hc2 hc1
        go_wp2_with fail
        exact ⟨⟨1,by omega,by (first | rfl | go_num),Uh HB2⟩,by simp [intOf]⟩
    ·by_cases hy:s = 0
     ·have ty:((s:Int) == 0) = true:=by simp; omega
      clear hy
      go_wp2_with fail
      exact ⟨⟨2,by omega,by (first | rfl | go_num),Uh HL⟩,by simp [intOf]⟩
     ·have ty0:((s:Int) == 0) = false:=by simp; omega
      have HN:=Hd (Uh HDN (by omega))
      obtain ⟨Y1,hY1⟩:∃ z,s - 1 = z:=⟨_,rfl⟩
      have hyb:Y1 < 9218868437227405312:=by have:=Uh HLT; omega
      have t0:IntKind.u64.wrap ((s:Int) + 1) = ((s + 1:Nat):Int):=wrap_is (by omega) (by have:=Uh HLT; omega)
      have t1:IntKind.u64.wrap ((s:Int) - 1) = (Y1:Int):=wrap_is (by omega) (by omega)
      have ty:((Y1:Int) == 9218868437227405312) = false:=by simp; omega
      rw [hY1] at HN
      clear hy hY1
      obtain ⟨gs,xs,ys,hs1,hs2,hs3,hs4⟩:=Uh HFF Y1 hyb
      obtain ⟨YV,hYV⟩:∃ z,9223372036854775808 + Y1 = z:=⟨_,rfl⟩
      rw [hYV] at hs1
      have tor:bits .or .u64 9223372036854775808 (Y1:Int) = (YV:Int):=by rw [or_top (by omega),← hYV]
      have hYVb:YV < 18446744073709551616:=by omega
      have HS1:=Hd hs1
      have O_s:=Hd (And.intro hs2 hs3)
      have HFS:=Hd hs4
      have HYVb:=Hd hYVb
      have HYb:=Hd hyb
      clear hs1 hs2 hs3 hs4 hYV hYVb hyb
      go_wp2_with fail
      have K:=rfromFloat_RR YV wr (Uh HYVb) ((Uh HL).tab mM4)
      rw [Uh HS1] at K
      try dsimp only at K
      try unfold ratV at K
      refine K.mono ?_
      clear K
      rintro _ w25 ⟨v,rfl,a_s25,n_s25,c_s25,b_s25,m_s25,d_s25,rfl,sx,sy,nx,ny,hb⟩
      try dsimp only at sx sy
      unfold ratV
      have Aw25:=Hd (((Uh HL).step hb).add (fN a_s25 n_s25 c_s25 xs b_s25 m_s25 d_s25 ys) ⟨sx,sy⟩)
      clear HL sx sy nx ny hb
      obtain ⟨w26,hw26⟩:∃ x,w25.alloc (.cells #[.bool gs,.slice a_s25 n_s25 c_s25,.slice b_s25 m_s25 d_s25] 25) = x:=⟨_,rfl⟩
      have Aw26:=Hd ((Uh Aw25).box (.bool gs) (.slice a_s25 n_s25 c_s25) (.slice b_s25 m_s25 d_s25) 25)
      rw [hw26] at Aw26
      clear Aw25
      have t27:=(Uh Aw26).r (w.heap.size) (.bool true) (.slice a_a n_a c_a) (.slice b_a m_a d_a) mM3
      have t27a:=t27.c0
      have t27b:=t27.c1
      have t27c:=t27.c2
      clear t27
      have t28:=(Uh Aw26).r (w25.heap.size) (.bool gs) (.slice a_s25 n_s25 c_s25) (.slice b_s25 m_s25 d_s25) (.head _)
      have t28a:=t28.c0
      have t28b:=t28.c1
      have t28c:=t28.c2
      clear t28
      go_wp2_with fail
      clear t27a t27b t27c t28a t28b t28c
      have K:=gap_fl true gs (a_a) (b_a) (a_s25) (b_s25) n_a c_a m_a d_a n_s25 c_s25 m_s25 d_s25 (x_a) (y_a) (xs) (ys) (flV Y1) (2 ^ kB) w26 ((Uh Aw26).n (a_a) n_a c_a (x_a) (b_a) m_a d_a (y_a) mM5).num ((Uh Aw26).n (a_a) n_a c_a (x_a) (b_a) m_a d_a (y_a) mM5).den ((Uh Aw26).n (a_s25) n_s25 c_s25 (xs) (b_s25) m_s25 d_s25 (ys) mM1).num ((Uh Aw26).n (a_s25) n_s25 c_s25 (xs) (b_s25) m_s25 d_s25 (ys) mM1).den (Uh O_a).1 (Uh O_a).2 (Uh O_s).1 (Uh O_s).2 ((Uh Aw26).tab mM6) (Uh HM) (Uh HFS)
      unfold ratV at K
      refine K.mono ?_
      clear K
      rintro _ w29 ⟨a_f,n_f,c_f,b_f,m_f,d_f,x_f,y_f,good,rfl,sx,sy,ox,oy,hok,hb⟩
      unfold ratV
      have Aw29:=Hd (((Uh Aw26).step hb).add (fN a_f n_f c_f x_f b_f m_f d_f y_f) ⟨sx,sy⟩)
      clear sx sy hb
      have O_f:=Hd (And.intro ox oy)
      have HGD:=Hd hok
      clear ox oy hok
      obtain ⟨w30,hw30⟩:∃ x,w29.alloc (.cells #[.bool false,.slice a_f n_f c_f,.slice b_f m_f d_f] 25) = x:=⟨_,rfl⟩
      have Aw30:=Hd ((Uh Aw29).box (.bool false) (.slice a_f n_f c_f) (.slice b_f m_f d_f) 25)
      rw [hw30] at Aw30
      clear Aw29
      go_wp2_with fail
      refine (rnum2_any 0 w30).mono ?_
      rintro _ w' ⟨rfl,hw⟩
      obtain rfl:=hw.symm
      clear hw
      have t31:=(Uh Aw30).r (w14.heap.size) (.bool false) (.slice a_d n_d c_d) (.slice b_d m_d d_d) mM4
      have t31a:=t31.c0
      have t31b:=t31.c1
      have t31c:=t31.c2
      clear t31
      have t32:=(Uh Aw30).r (w29.heap.size) (.bool false) (.slice a_f n_f c_f) (.slice b_f m_f d_f) (.head _)
      have t32a:=t32.c0
      have t32b:=t32.c1
      have t32c:=t32.c2
      clear t32
      go_wp2_with fail
      clear t31a t31b t31c t32a t32b t32c
      have K:=ratCmp_any false false (a_d) (b_d) (a_f) (b_f) n_d c_d m_d d_d n_f c_f m_f d_f (x_d) (y_d) (x_f) (y_f) w30 ((Uh Aw30).n (a_d) n_d c_d (x_d) (b_d) m_d d_d (y_d) mM6).num ((Uh Aw30).n (a_d) n_d c_d (x_d) (b_d) m_d d_d (y_d) mM6).den ((Uh Aw30).n (a_f) n_f c_f (x_f) (b_f) m_f d_f (y_f) mM1).num ((Uh Aw30).n (a_f) n_f c_f (x_f) (b_f) m_f d_f (y_f) mM1).den (Uh O_d).1 (Uh O_d).2 (Uh O_f).1 (Uh O_f).2 ((Uh Aw30).tab mM8)
      have HCV:=Hd (fun (h:good = true) => near_cmp (Uh HD).1 ((Uh HGD) h).1 (Nat.mul_pos (Uh HYP) (Nat.two_pow_pos kB)) (Uh HD).2 ((Uh HGD) h).2 (Uh HN))
      obtain ⟨cv,hcv⟩:∃ z,CmpF false (x_d) (y_d) false (x_f) (y_f) = z:=⟨_,rfl⟩
      rw [hcv] at K HCV
      clear hcv
      unfold ratV at K
      refine K.mono ?_
      clear K
      rintro _ w33 ⟨rfl,hb⟩
      have Aw33:=Hd ((Uh Aw30).step hb)
      clear hb
      have HB2:=Hd (show Fcts w w33 [fR (w14.heap.size) (.bool false) (.slice a_d n_d c_d) (.slice b_d m_d d_d),fR (w.heap.size) (.bool true) (.slice a_a n_a c_a) (.slice b_a m_a d_a),fN (a_d) n_d c_d (x_d) (b_d) m_d d_d (y_d),fN (a_a) n_a c_a (x_a) (b_a) m_a d_a (y_a),fTab] from ⟨(Uh Aw33).bel,fun f hf => by
       simp only [List.mem_cons,List.not_mem_nil,or_false] at hf
       rcases hf with rfl | rfl | rfl | rfl | rfl
       ·exact (Uh Aw33).r _ _ _ _ mM4
       ·exact (Uh Aw33).r _ _ _ _ mM5
       ·exact (Uh Aw33).n _ _ _ _ _ _ _ _ mM6
       ·exact (Uh Aw33).n _ _ _ _ _ _ _ _ mM7
       ·exact ((Uh Aw33).tab mM8)⟩)
      clear Aw33 HFS HS1 HGD
      cases good
      ·skip
       go_wp2_with fail
       exact ⟨⟨2,by omega,by (first | rfl | go_num),Uh HB2⟩,by simp [intOf]⟩
      ·obtain ⟨hc1,hc2⟩:=Uh HCV rfl
       have tc1:¬ (0:Int) < cv:=by omega
       by_cases hc:cv = 0
       ·have he:=hc2 hc
        have tc2:(cv == 0) = true:=by simp [hc]
        rw [he] at hev
        clear hc hc2 hc1 he
        go_wp2_with fail
        exact ⟨⟨2,by omega,by (first | rfl | go_num),Uh HB2⟩,by simp [intOf]⟩
       ·have tc2:(cv == 0) = false:=by simp [hc]
        clear hc hc2 hc1
        go_wp2_with fail
        exact ⟨⟨2,by omega,by (first | rfl | go_num),Uh HB2⟩,by simp [intOf]⟩
    ·skip
     go_wp2_with fail
     refine (ralive_any wr ((Uh HL).tab mM4)).mono ?_
     rintro _ wz ⟨rfl,hb⟩
     have HZ:=Hd (((Uh HL).step hb).bel)
     clear hb
     go_wp2_with fail
     go_ret
     exact ⟨rfl,Uh HZ⟩
set_option maxRecDepth 100000 in
set_option maxHeartbeats 64000000 in
theorem near_no (g_a:Bool) (a_a:Option Addr) (n_a c_a:Nat) (x_a:List Nat) (b_a:Option Addr) (m_a d_a:Nat) (y_a:List Nat) (w:World) (hx_a:Sl w a_a n_a c_a x_a) (hy_a:Sl w b_a m_a d_a y_a) (ox_a:Ok x_a) (oy_a:Ok y_a) (hT:Tab64 w) (hm:MayR g_a x_a y_a = false) :
  Calls Tryz.prog 3 #[ratV g_a a_a n_a c_a b_a m_a d_a] w fun e w' => e = .returned (.bool true) ∧ Below w.heap.size w w':=by
 have A00:Fcts w w [fTab]:=⟨Below.refl _ _,fun f hf => by simp at hf; subst hf; exact hT⟩
 have A01:=A00.add (fN a_a n_a c_a x_a b_a m_a d_a y_a) ⟨hx_a,hy_a⟩
 have O_a:=Hd (And.intro ox_a oy_a)
 have A0:=Hd A01
 have HM:=Hd hm
 clear hm
 clear A00 hT hx_a hy_a A01 ox_a oy_a
 unfold ratV
 obtain ⟨w1,hw1⟩:∃ x,w.alloc (.cells #[.bool g_a,.slice a_a n_a c_a,.slice b_a m_a d_a] 25) = x:=⟨_,rfl⟩
 have Aw1:=Hd ((Uh A0).box (.bool g_a) (.slice a_a n_a c_a) (.slice b_a m_a d_a) 25)
 rw [hw1] at Aw1
 clear A0
 go_enter Tryz.func3,Tryz.ntmps3
 have t2:=(Uh Aw1).r (w.heap.size) (.bool g_a) (.slice a_a n_a c_a) (.slice b_a m_a d_a) (.head _)
 have t2a:=t2.c0
 have t2b:=t2.c1
 have t2c:=t2.c2
 clear t2
 go_wp2_with fail
 clear t2a t2b t2c
 have K:=ratMay_any g_a (a_a) (b_a) n_a c_a m_a d_a (x_a) (y_a)  w1 ((Uh Aw1).n (a_a) n_a c_a (x_a) (b_a) m_a d_a (y_a) mM1).num ((Uh Aw1).n (a_a) n_a c_a (x_a) (b_a) m_a d_a (y_a) mM1).den (Uh O_a).1 (Uh O_a).2 ((Uh Aw1).tab mM2)
 rw [Uh HM] at K
 unfold ratV at K
 refine K.mono ?_
 clear K
 rintro _ w3 ⟨rfl,hb⟩
 have Aw3:=Hd ((Uh Aw1).step hb)
 clear Aw1 hb
 go_wp2_with fail
 refine (ralive_any w3 ((Uh Aw3).tab mM2)).mono ?_
 rintro _ wz ⟨rfl,hb⟩
 have HZ:=Hd (((Uh Aw3).step hb).bel)
 clear hb
 go_wp2_with fail
 go_ret
 exact ⟨rfl,Uh HZ⟩
theorem rationalNearest_walk (g_a:Bool) (a_a:Option Addr) (n_a c_a:Nat) (x_a:List Nat) (b_a:Option Addr) (m_a d_a:Nat) (y_a:List Nat) (w:World) (hx_a:Sl w a_a n_a c_a x_a) (hy_a:Sl w b_a m_a d_a y_a) (ox_a:Ok x_a) (oy_a:Ok y_a) (hT:Tab64 w) (hT2:Tab32 w) :
  Calls Tryz.prog 3 #[ratV g_a a_a n_a c_a b_a m_a d_a] w fun e w' => e = .returned (.bool true) ∧ Below w.heap.size w w':=by
 cases hm:MayR g_a x_a y_a
 ·exact near_no g_a a_a n_a c_a x_a b_a m_a d_a y_a w hx_a hy_a ox_a oy_a hT hm
 ·cases g_a
  ·exact near_F a_a n_a c_a x_a b_a m_a d_a y_a w hx_a hy_a ox_a oy_a hT hT2 hm
  ·exact near_T a_a n_a c_a x_a b_a m_a d_a y_a w hx_a hy_a ox_a oy_a hT hT2 hm
end Go.Proofs.YtlolnaegfponeaaGreatDoor
