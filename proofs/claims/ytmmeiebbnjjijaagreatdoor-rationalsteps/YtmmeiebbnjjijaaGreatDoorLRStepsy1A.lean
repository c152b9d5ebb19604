/- LRStepsy1A -/
import Derived.Test.YtmmeiebbnjjijaaGreatDoorMy2
import Derived.Test.YtmmeiebbnjjijaaGreatDoorRl5
import Derived.Test.YtmmeiebbnjjijaaGreatDoorWic
import Derived.Test.YtmmeiebbnjjijaaGreatDoorWkf
import Derived.Test.YtmmeiebbnjjijaaGreatDoorRgt
namespace Go.Proofs.YtmmeiebbnjjijaaGreatDoor
open Go.ChangeShapes Go.WideShapes Go.ChangeAt Go.RowKit Go.Deep
set_option linter.unusedVariables false
set_option maxRecDepth 100000 in
set_option maxHeartbeats 64000000 in
theorem rationalSteps_y1A (g_a:Bool) (a_a:Option Addr) (n_a c_a:Nat) (x_a:List Nat) (b_a:Option Addr) (m_a d_a:Nat) (y_a:List Nat) (g_b:Bool) (a_b:Option Addr) (n_b c_b:Nat) (x_b:List Nat) (b_b:Option Addr) (m_b d_b:Nat) (y_b:List Nat) (w:World) (hx_a:Sl w a_a n_a c_a x_a) (hy_a:Sl w b_a m_a d_a y_a) (ox_a:Ok x_a) (oy_a:Ok y_a) (hx_b:Sl w a_b n_b c_b x_b) (hy_b:Sl w b_b m_b d_b y_b) (ox_b:Ok x_b) (oy_b:Ok y_b) (hT:Tab64 w) (k_a:MayR g_a x_a y_a = true) (k_b:MayR g_b x_b y_b = true) (hrf0:sameR (RoundF g_a x_a y_a).1.1 (RoundF g_a x_a y_a).1.2.1 (RoundF g_a x_a y_a).1.2.2 (FloorF g_a x_a y_a).1.1 (FloorF g_a x_a y_a).1.2.1 (FloorF g_a x_a y_a).1.2.2 = true) (hfh0:sameR false (SubF g_a x_a y_a (RoundF g_a x_a y_a).1.1 (RoundF g_a x_a y_a).1.2.1 (RoundF g_a x_a y_a).1.2.2).1.2.1 y_a false [1] [2] = false) :
  Calls Tryz.prog 3 #[ratV g_a a_a n_a c_a b_a m_a d_a,ratV g_b a_b n_b c_b b_b m_b d_b] w fun e w' => e = .returned (.bool true) ∧ Below w.heap.size w w':=by
 have A00:Fcts w w [fTab]:=⟨Below.refl _ _,fun f hf => by simp at hf; subst hf; exact hT⟩
 have A01:=A00.add (fN a_a n_a c_a x_a b_a m_a d_a y_a) ⟨hx_a,hy_a⟩
 have O_a:=Hd (And.intro ox_a oy_a)
 have A02:=A01.add (fN a_b n_b c_b x_b b_b m_b d_b y_b) ⟨hx_b,hy_b⟩
 have O_b:=Hd (And.intro ox_b oy_b)
 have A0:=Hd A02
 have M_a:=Hd k_a
 have M_b:=Hd k_b
 have HMB:=M_b
 have HMA:=M_a
 obtain ⟨g_f,x_f,x_d,g_n,g_m,g_c,x_c,g_r,x_r,g_g,x_m,hF,of_,hD,od_,hSd,hCd,hN,hM,hO,hC,oc_,hR,or_,hRS,hG,hAb,om_,hCh,hEv⟩:=steps_a ox_a oy_a k_a
 obtain ⟨⟨⟨⟨g_q,x_q,y_q⟩,⟨g_l,x_l,y_l⟩⟩,e_q⟩,hQ⟩:∃ r,DivdF g_a x_a y_a g_b x_b y_b = r:=⟨_,rfl⟩
 obtain ⟨⟨oq1,oq2,ol1,ol2⟩,hne,hz⟩:=steps_div k_a k_b hQ
 obtain ⟨sb,hsb⟩:∃ r,SignF g_b x_b y_b = r:=⟨_,rfl⟩
 rw [hsb] at hne hz
 obtain ⟨sl,hsl⟩:∃ r,SignF g_l x_l y_l = r:=⟨_,rfl⟩
 rw [hsl] at hz
 obtain ⟨cl,hcl⟩:∃ r,CmpF g_l x_l y_l g_b x_b y_b = r:=⟨_,rfl⟩
 rw [hcl] at hz
 obtain ⟨sd,hsd⟩:∃ r,SignF false x_d y_a = r:=⟨_,rfl⟩
 rw [hsd] at hSd
 have sd0:decide (sd < 0) = false:=by simp; omega
 obtain ⟨ch,hch⟩:∃ r,CmpF false x_m y_a false [1] [2] = r:=⟨_,rfl⟩
 rw [hch] at hCh
 have ch0:¬ 0 < ch:=by omega
 rw [hR,hF] at hrf0
 have hrf:sameR g_r x_r [1] g_f x_f [1] = true:=hrf0
 rw [hrf] at hRS
 have hfh1:sameR false (SubF g_a x_a y_a g_r x_r [1]).1.2.1 y_a false [1] [2] = false:=by have h:=hfh0; rw [hR] at h; exact h
 have hfh:sameR false x_m y_a false [1] [2] = false:=by rw [hG] at hfh1; exact hfh1
 rw [hfh] at hEv
 have O_f:=Hd (And.intro of_ (ok_one (v:=1) (by decide)))
 have O_d:=Hd (And.intro od_ oy_a)
 have O_n:=Hd (And.intro ox_a oy_a)
 have O_m:=Hd (And.intro oc_ (ok_one (v:=1) (by decide)))
 have O_o:=O_m
 have O_c:=O_m
 have O_r:=Hd (And.intro or_ (ok_one (v:=1) (by decide)))
 have O_far:=Hd (And.intro om_ oy_a)
 have O_half:=Hd (And.intro (ok_one (v:=1) (by decide)) (ok_one (v:=2) (by decide)))
 have O_q:=Hd (And.intro oq1 oq2)
 have O_l:=Hd (And.intro ol1 ol2)
 have HF:=Hd hF
 have HD:=Hd hD
 have HSD:=Hd hsd
 have HCD:=Hd hCd
 have HN:=Hd hN
 have HM:=Hd hM
 have HO:=Hd hO
 have HC:=Hd hC
 have HR:=Hd hR
 have HRS:=Hd hRS
 have HRF:=Hd hrf
 have HG:=Hd hG
 have HAB:=Hd hAb
 have HCH:=Hd hch
 have HFH:=Hd hfh
 have HEV:=Hd hEv
 have HQ:=Hd hQ
 have HNE:=Hd hne
 have HZ:=Hd hz
 have HSB:=Hd hsb
 have HSL:=Hd hsl
 have HCL:=Hd hcl
 have OM:=Hd (And.intro om_ oy_a)
 have HSOC:=Hd (show sameR g_c x_c [1] g_c x_c [1] = true by unfold sameR; simp)
 clear k_a k_b hF of_ hD od_ hSd hCd hN hM hO hC oc_ hR or_ hRS hG hAb om_ hCh hEv hQ oq1 oq2 ol1 ol2 hne hz hsb hsl hcl hsd hch hrf hrf0 hfh hfh0 hfh1
 clear A00 hT hx_a hy_a A01 ox_a oy_a hx_b hy_b A02 ox_b oy_b
 unfold ratV
 obtain ⟨w1,hw1⟩:∃ x,w.alloc (.cells #[.bool g_a,.slice a_a n_a c_a,.slice b_a m_a d_a] 25) = x:=⟨_,rfl⟩
 have Aw1:=Hd ((Uh A0).box (.bool g_a) (.slice a_a n_a c_a) (.slice b_a m_a d_a) 25)
 rw [hw1] at Aw1
 clear A0
 obtain ⟨w2,hw2⟩:∃ x,w1.alloc (.cells #[.bool g_b,.slice a_b n_b c_b,.slice b_b m_b d_b] 25) = x:=⟨_,rfl⟩
 have Aw2:=Hd ((Uh Aw1).box (.bool g_b) (.slice a_b n_b c_b) (.slice b_b m_b d_b) 25)
 rw [hw2] at Aw2
 clear Aw1
 go_enter Tryz.func3,Tryz.ntmps3
 have t3:=(Uh Aw2).r (w.heap.size) (.bool g_a) (.slice a_a n_a c_a) (.slice b_a m_a d_a) mM1
 have t3a:=t3.c0
 have t3b:=t3.c1
 have t3c:=t3.c2
 clear t3
 go_wp2_with fail
 clear t3a t3b t3c
 have K:=ratMay_any g_a (a_a) (b_a) n_a c_a m_a d_a (x_a) (y_a)  w2 ((Uh Aw2).n (a_a) n_a c_a (x_a) (b_a) m_a d_a (y_a) mM3).num ((Uh Aw2).n (a_a) n_a c_a (x_a) (b_a) m_a d_a (y_a) mM3).den (Uh O_a).1 (Uh O_a).2 ((Uh Aw2).tab mM4)
 rw [Uh M_a] at K
 try unfold ratV at K
 refine K.mono ?_
 clear K
 rintro _ w4 ⟨rfl,hb⟩
 have Aw4:=Hd ((Uh Aw2).step hb)
 clear Aw2 hb
 have t5:=(Uh Aw4).r (w1.heap.size) (.bool g_b) (.slice a_b n_b c_b) (.slice b_b m_b d_b) (.head _)
 have t5a:=t5.c0
 have t5b:=t5.c1
 have t5c:=t5.c2
 clear t5
 go_wp2_with fail
 clear t5a t5b t5c
 have K:=ratMay_any g_b (a_b) (b_b) n_b c_b m_b d_b (x_b) (y_b)  w4 ((Uh Aw4).n (a_b) n_b c_b (x_b) (b_b) m_b d_b (y_b) mM2).num ((Uh Aw4).n (a_b) n_b c_b (x_b) (b_b) m_b d_b (y_b) mM2).den (Uh O_b).1 (Uh O_b).2 ((Uh Aw4).tab mM4)
 rw [Uh M_b] at K
 try unfold ratV at K
 refine K.mono ?_
 clear K
 rintro _ w6 ⟨rfl,hb⟩
 have Aw6:=Hd ((Uh Aw4).step hb)
 clear Aw4 hb
 go_wp2_with fail
 have K:=ralive_any w6 ((Uh Aw6).tab mM4)
 try unfold ratV at K
 refine K.mono ?_
 clear K
 rintro _ w7 ⟨rfl,hb⟩
 have Aw7:=Hd ((Uh Aw6).step hb)
 clear Aw6 hb
 clear M_a M_b
 have t8:=(Uh Aw7).r (w.heap.size) (.bool g_a) (.slice a_a n_a c_a) (.slice b_a m_a d_a) mM1
 have t8a:=t8.c0
 have t8b:=t8.c1
 have t8c:=t8.c2
 clear t8
 go_wp2_with fail
 clear t8a t8b t8c
 have K:=ratFloor_any g_a (a_a) (b_a) n_a c_a m_a d_a (x_a) (y_a)  w7 ((Uh Aw7).n (a_a) n_a c_a (x_a) (b_a) m_a d_a (y_a) mM3).num ((Uh Aw7).n (a_a) n_a c_a (x_a) (b_a) m_a d_a (y_a) mM3).den (Uh O_a).1 (Uh O_a).2 ((Uh Aw7).tab mM4)
 rw [Uh HF] at K
 try dsimp only at K
 unfold ratV at K
 refine K.mono ?_
 clear K
 rintro _ w9 ⟨v,rfl,a_f9,n_f9,c_f9,b_f9,m_f9,d_f9,rfl,sx,sy,nx,ny,hb⟩
 try dsimp only at sx sy
 unfold ratV
 obtain ⟨bkf,ofs,hbk,hmf,hcf⟩:=sl_first sy
 obtain rfl:m_f9 = 1:=hmf
 subst hbk
 clear hcf
 have Aw9:=Hd (((Uh Aw7).step hb).add (fN a_f9 n_f9 c_f9 x_f (some ⟨bkf,ofs,none⟩) 1 d_f9 [1]) ⟨sx,sy⟩)
 clear Aw7 sx sy nx ny
 clear hb
 obtain ⟨w10,hw10⟩:∃ x,w9.alloc (.cells #[.bool g_f,.slice a_f9 n_f9 c_f9,.slice (some ⟨bkf,ofs,none⟩) 1 d_f9] 25) = x:=⟨_,rfl⟩
 have Aw10:=Hd ((Uh Aw9).box (.bool g_f) (.slice a_f9 n_f9 c_f9) (.slice (some ⟨bkf,ofs,none⟩) 1 d_f9) 25)
 rw [hw10] at Aw10
 clear Aw9
 have t11:=(Uh Aw10).r (w.heap.size) (.bool g_a) (.slice a_a n_a c_a) (.slice b_a m_a d_a) mM3
 have t11a:=t11.c0
 have t11b:=t11.c1
 have t11c:=t11.c2
 clear t11
 have t12:=(Uh Aw10).r (w9.heap.size) (.bool g_f) (.slice a_f9 n_f9 c_f9) (.slice (some ⟨bkf,ofs,none⟩) 1 d_f9) (.head _)
 have t12a:=t12.c0
 have t12b:=t12.c1
 have t12c:=t12.c2
 clear t12
 go_wp2_with fail
 clear t11a t11b t11c t12a t12b t12c
 have K:=ratSub_any g_a g_f (a_a) (b_a) (a_f9) ((some ⟨bkf,ofs,none⟩)) n_a c_a m_a d_a n_f9 c_f9 1 d_f9 (x_a) (y_a) (x_f) ([1]) w10 ((Uh Aw10).n (a_a) n_a c_a (x_a) (b_a) m_a d_a (y_a) mM5).num ((Uh Aw10).n (a_a) n_a c_a (x_a) (b_a) m_a d_a (y_a) mM5).den ((Uh Aw10).n (a_f9) n_f9 c_f9 (x_f) ((some ⟨bkf,ofs,none⟩)) 1 d_f9 ([1]) mM1).num ((Uh Aw10).n (a_f9) n_f9 c_f9 (x_f) ((some ⟨bkf,ofs,none⟩)) 1 d_f9 ([1]) mM1).den (Uh O_a).1 (Uh O_a).2 (Uh O_f).1 (Uh O_f).2 ((Uh Aw10).tab mM6)
 rw [Uh HD] at K
 try dsimp only at K
 unfold ratV at K
 refine K.mono ?_
 clear K
 rintro _ w13 ⟨v,rfl,a_d13,n_d13,c_d13,b_d13,m_d13,d_d13,rfl,sx,sy,nx,ny,hb⟩
 try dsimp only at sx sy
 unfold ratV
 have Aw13:=Hd (((Uh Aw10).step hb).add (fN a_d13 n_d13 c_d13 x_d b_d13 m_d13 d_d13 y_a) ⟨sx,sy⟩)
 clear Aw10 sx sy nx ny
 clear hb
 obtain ⟨w14,hw14⟩:∃ x,w13.alloc (.cells #[.bool false,.slice a_d13 n_d13 c_d13,.slice b_d13 m_d13 d_d13] 25) = x:=⟨_,rfl⟩
 have Aw14:=Hd ((Uh Aw13).box (.bool false) (.slice a_d13 n_d13 c_d13) (.slice b_d13 m_d13 d_d13) 25)
 rw [hw14] at Aw14
 clear Aw13
 clear HF HD
 have t15:=(Uh Aw14).r (w9.heap.size) (.bool g_f) (.slice a_f9 n_f9 c_f9) (.slice (some ⟨bkf,ofs,none⟩) 1 d_f9) mM2
 have t15a:=t15.c0
 have t15b:=t15.c1
 have t15c:=t15.c2
 clear t15
 have t16:=(Uh Aw14).r (w13.heap.size) (.bool false) (.slice a_d13 n_d13 c_d13) (.slice b_d13 m_d13 d_d13) (.head _)
 have t16a:=t16.c0
 have t16b:=t16.c1
 have t16c:=t16.c2
 clear t16
 have c0f:=sl_head (((Uh Aw14).n (a_f9) n_f9 c_f9 (x_f) ((some ⟨bkf,ofs,none⟩)) 1 d_f9 ([1]) mM3)).den
 have HI:=Hd (fun (W:World) => (by have K:=fromInt_any 1 (by decide) (by decide) W; rw [show decide ((1:Int) < 0) = false from rfl,show (1:Int).natAbs = 1 from rfl,limbs_1] at K; exact K:Calls Tryz.prog 14 #[.int .i64 1] W fun e w' => ∃ v,e = .returned v ∧ NewR W w' false [1] [1] v))
 have O_one:=Hd (And.intro (ok_one (v:=1) (by decide)) (ok_one (v:=1) (by decide)))
 go_wp2_with fail
 have HH:=Hd ((Uh Aw14).step (Below.refl _ _).drew)
 clear Aw14
 go_region_held3 (fun w' => w'.cell? ⟨w9.heap.size,0,none⟩ = some (.bool g_f) ∧ w'.cell? ⟨w9.heap.size,1,none⟩ = some (.slice a_f9 n_f9 c_f9) ∧ w'.cell? ⟨w9.heap.size,2,none⟩ = some (.slice (some ⟨bkf,ofs,none⟩) 1 d_f9) ∧ w'.cell? ⟨w13.heap.size,0,none⟩ = some (.bool false) ∧ w'.cell? ⟨w13.heap.size,1,none⟩ = some (.slice a_d13 n_d13 c_d13) ∧ w'.cell? ⟨w13.heap.size,2,none⟩ = some (.slice b_d13 m_d13 d_d13) ∧ w'.cell? ⟨bkf,ofs,none⟩ = some (.int .u32 (1:Nat))) (first | (exact ⟨((Uh HH).r (w9.heap.size) (.bool g_f) (.slice a_f9 n_f9 c_f9) (.slice (some ⟨bkf,ofs,none⟩) 1 d_f9) (by repeat (first | exact List.Mem.head _ | apply List.Mem.tail))).c0,((Uh HH).r (w9.heap.size) (.bool g_f) (.slice a_f9 n_f9 c_f9) (.slice (some ⟨bkf,ofs,none⟩) 1 d_f9) (by repeat (first | exact List.Mem.head _ | apply List.Mem.tail))).c1,((Uh HH).r (w9.heap.size) (.bool g_f) (.slice a_f9 n_f9 c_f9) (.slice (some ⟨bkf,ofs,none⟩) 1 d_f9) (by repeat (first | exact List.Mem.head _ | apply List.Mem.tail))).c2,((Uh HH).r (w13.heap.size) (.bool false) (.slice a_d13 n_d13 c_d13) (.slice b_d13 m_d13 d_d13) (by repeat (first | exact List.Mem.head _ | apply List.Mem.tail))).c0,((Uh HH).r (w13.heap.size) (.bool false) (.slice a_d13 n_d13 c_d13) (.slice b_d13 m_d13 d_d13) (by repeat (first | exact List.Mem.head _ | apply List.Mem.tail))).c1,((Uh HH).r (w13.heap.size) (.bool false) (.slice a_d13 n_d13 c_d13) (.slice b_d13 m_d13 d_d13) (by repeat (first | exact List.Mem.head _ | apply List.Mem.tail))).c2,sl_head ((Uh HH).n (a_f9) n_f9 c_f9 (x_f) ((some ⟨bkf,ofs,none⟩)) 1 d_f9 ([1]) (by repeat (first | exact List.Mem.head _ | apply List.Mem.tail))).den⟩) | go_keep)
  (first
   | (go_at_call 11; refine (rnum2_any _ _).mono ?_; rintro _ w' ⟨rfl,hw⟩; obtain rfl:=hw)
   | (go_at_call 12; have K:=ratSign_any false (a_d13) (b_d13) n_d13 c_d13 m_d13 d_d13 (x_d) (y_a) _ ((Uh HH).n (a_d13) n_d13 c_d13 (x_d) (b_d13) m_d13 d_d13 (y_a) (by repeat (first | exact List.Mem.head _ | apply List.Mem.tail))).num ((Uh HH).n (a_d13) n_d13 c_d13 (x_d) (b_d13) m_d13 d_d13 (y_a) (by repeat (first | exact List.Mem.head _ | apply List.Mem.tail))).den (Uh O_d).1 (Uh O_d).2 ((Uh HH).tab (by repeat (first | exact List.Mem.head _ | apply List.Mem.tail))); rw [Uh HSD] at K; unfold ratV at K; refine K.mono ?_; clear K; rintro _ wn ⟨rfl,hb⟩; have HN_:=Hd ((Uh HH).step hb); clear hb HH; have HH:=HN_; clear HN_)
   | (go_at_call 14; refine (Uh HI _).mono ?_; rintro _ wn ⟨v,rfl,ai,ni,ci,bi,mi,di,rfl,si,ti,_,_,b3⟩; unfold ratV; have HN_:=Hd (((Uh HH).step b3).add (fN ai ni ci [1] bi mi di [1]) ⟨si,ti⟩); clear si ti b3 HH; have HH:=HN_; clear HN_)
   | (go_at_call 13; have K:=ratCmp_any false false (a_d13) (b_d13) (ai) (bi) n_d13 c_d13 m_d13 d_d13 ni ci mi di (x_d) (y_a) ([1]) ([1]) _ ((Uh HH).n (a_d13) n_d13 c_d13 (x_d) (b_d13) m_d13 d_d13 (y_a) (by repeat (first | exact List.Mem.head _ | apply List.Mem.tail))).num ((Uh HH).n (a_d13) n_d13 c_d13 (x_d) (b_d13) m_d13 d_d13 (y_a) (by repeat (first | exact List.Mem.head _ | apply List.Mem.tail))).den ((Uh HH).n (ai) ni ci ([1]) (bi) mi di ([1]) (by repeat (first | exact List.Mem.head _ | apply List.Mem.tail))).num ((Uh HH).n (ai) ni ci ([1]) (bi) mi di ([1]) (by repeat (first | exact List.Mem.head _ | apply List.Mem.tail))).den (Uh O_d).1 (Uh O_d).2 (Uh O_one).1 (Uh O_one).2 ((Uh HH).tab (by repeat (first | exact List.Mem.head _ | apply List.Mem.tail))); rw [Uh HCD] at K; unfold ratV at K; refine K.mono ?_; clear K; rintro _ wn ⟨rfl,hb⟩; have HN_:=Hd ((Uh HH).step hb); clear hb HH; have HH:=HN_; clear HN_))
 clear t15a t15b t15c t16a t16b t16c c0f HI HCD HSD O_one sd0
 obtain ⟨wP1,hwM⟩:∃ x,x = wn:=⟨_,rfl⟩
 subst hwM
 have AP1:=HH
 clear HH
 have t17:=(Uh AP1).r (w.heap.size) (.bool g_a) (.slice a_a n_a c_a) (.slice b_a m_a d_a) mM6
 have t17a:=t17.c0
 have t17b:=t17.c1
 have t17c:=t17.c2
 clear t17
 go_wp2_with fail
 clear t17a t17b t17c
 have K:=ratNeg_F g_a (a_a) (b_a) n_a c_a m_a d_a (x_a) (y_a)  wP1 ((Uh AP1).n (a_a) n_a c_a (x_a) (b_a) m_a d_a (y_a) mM8).num ((Uh AP1).n (a_a) n_a c_a (x_a) (b_a) m_a d_a (y_a) mM8).den (Uh O_a).1 (Uh O_a).2 ((Uh AP1).tab mM9)
 rw [Uh HN] at K
 try dsimp only at K
 unfold ratV at K
 refine K.mono ?_
 clear K
 rintro _ w18 ⟨v,rfl,a_n18,n_n18,c_n18,b_n18,m_n18,d_n18,rfl,sx,sy,nx,ny,hb⟩
 try dsimp only at sx sy
 unfold ratV
 have Aw18:=Hd (((Uh AP1).step hb).add (fN a_n18 n_n18 c_n18 x_a b_n18 m_n18 d_n18 y_a) ⟨sx,sy⟩)
 clear AP1 sx sy nx ny
 clear hb
 obtain ⟨w19,hw19⟩:∃ x,w18.alloc (.cells #[.bool g_n,.slice a_n18 n_n18 c_n18,.slice b_n18 m_n18 d_n18] 25) = x:=⟨_,rfl⟩
 have Aw19:=Hd ((Uh Aw18).box (.bool g_n) (.slice a_n18 n_n18 c_n18) (.slice b_n18 m_n18 d_n18) 25)
 rw [hw19] at Aw19
 clear Aw18
 have t20:=(Uh Aw19).r (w18.heap.size) (.bool g_n) (.slice a_n18 n_n18 c_n18) (.slice b_n18 m_n18 d_n18) (.head _)
 have t20a:=t20.c0
 have t20b:=t20.c1
 have t20c:=t20.c2
 clear t20
 go_wp2_with fail
 clear t20a t20b t20c
 have K:=ratFloor_any g_n (a_n18) (b_n18) n_n18 c_n18 m_n18 d_n18 (x_a) (y_a)  w19 ((Uh Aw19).n (a_n18) n_n18 c_n18 (x_a) (b_n18) m_n18 d_n18 (y_a) mM1).num ((Uh Aw19).n (a_n18) n_n18 c_n18 (x_a) (b_n18) m_n18 d_n18 (y_a) mM1).den (Uh O_n).1 (Uh O_n).2 ((Uh Aw19).tab mM11)
 rw [Uh HM] at K
 try dsimp only at K
 unfold ratV at K
 refine K.mono ?_
 clear K
 rintro _ w21 ⟨v,rfl,a_m21,n_m21,c_m21,b_m21,m_m21,d_m21,rfl,sx,sy,nx,ny,hb⟩
 try dsimp only at sx sy
 unfold ratV
 have Aw21:=Hd (((Uh Aw19).step hb).add (fN a_m21 n_m21 c_m21 x_c b_m21 m_m21 d_m21 [1]) ⟨sx,sy⟩)
 clear Aw19 sx sy nx ny
 clear hb
 obtain ⟨w22,hw22⟩:∃ x,w21.alloc (.cells #[.bool g_m,.slice a_m21 n_m21 c_m21,.slice b_m21 m_m21 d_m21] 25) = x:=⟨_,rfl⟩
 have Aw22:=Hd ((Uh Aw21).box (.bool g_m) (.slice a_m21 n_m21 c_m21) (.slice b_m21 m_m21 d_m21) 25)
 rw [hw22] at Aw22
 clear Aw21
 have t23:=(Uh Aw22).r (w21.heap.size) (.bool g_m) (.slice a_m21 n_m21 c_m21) (.slice b_m21 m_m21 d_m21) (.head _)
 have t23a:=t23.c0
 have t23b:=t23.c1
 have t23c:=t23.c2
 clear t23
 go_wp2_with fail
 clear t23a t23b t23c
 have K:=ratNeg_F g_m (a_m21) (b_m21) n_m21 c_m21 m_m21 d_m21 (x_c) ([1])  w22 ((Uh Aw22).n (a_m21) n_m21 c_m21 (x_c) (b_m21) m_m21 d_m21 ([1]) mM1).num ((Uh Aw22).n (a_m21) n_m21 c_m21 (x_c) (b_m21) m_m21 d_m21 ([1]) mM1).den (Uh O_m).1 (Uh O_m).2 ((Uh Aw22).tab mM13)
 rw [Uh HO] at K
 try dsimp only at K
 unfold ratV at K
 refine K.mono ?_
 clear K
 rintro _ w24 ⟨v,rfl,a_o24,n_o24,c_o24,b_o24,m_o24,d_o24,rfl,sx,sy,nx,ny,hb⟩
 try dsimp only at sx sy
 unfold ratV
 have Aw24:=Hd (((Uh Aw22).step hb).add (fN a_o24 n_o24 c_o24 x_c b_o24 m_o24 d_o24 [1]) ⟨sx,sy⟩)
 clear Aw22 sx sy nx ny
 clear hb
 obtain ⟨w25,hw25⟩:∃ x,w24.alloc (.cells #[.bool g_c,.slice a_o24 n_o24 c_o24,.slice b_o24 m_o24 d_o24] 25) = x:=⟨_,rfl⟩
 have Aw25:=Hd ((Uh Aw24).box (.bool g_c) (.slice a_o24 n_o24 c_o24) (.slice b_o24 m_o24 d_o24) 25)
 rw [hw25] at Aw25
 clear Aw24
 have t26:=(Uh Aw25).r (w.heap.size) (.bool g_a) (.slice a_a n_a c_a) (.slice b_a m_a d_a) mM12
 have t26a:=t26.c0
 have t26b:=t26.c1
 have t26c:=t26.c2
 clear t26
 go_wp2_with fail
 clear t26a t26b t26c
 have K:=ratCeil_any g_a (a_a) (b_a) n_a c_a m_a d_a (x_a) (y_a)  w25 ((Uh Aw25).n (a_a) n_a c_a (x_a) (b_a) m_a d_a (y_a) mM14).num ((Uh Aw25).n (a_a) n_a c_a (x_a) (b_a) m_a d_a (y_a) mM14).den (Uh O_a).1 (Uh O_a).2 ((Uh Aw25).tab mM15)
 rw [Uh HC] at K
 try dsimp only at K
 unfold ratV at K
 refine K.mono ?_
 clear K
 rintro _ w27 ⟨v,rfl,a_c27,n_c27,c_c27,b_c27,m_c27,d_c27,rfl,sx,sy,nx,ny,hb⟩
 try dsimp only at sx sy
 unfold ratV
 have Aw27:=Hd (((Uh Aw25).step hb).add (fN a_c27 n_c27 c_c27 x_c b_c27 m_c27 d_c27 [1]) ⟨sx,sy⟩)
 clear Aw25 sx sy nx ny
 clear hb
 obtain ⟨w28,hw28⟩:∃ x,w27.alloc (.cells #[.bool g_c,.slice a_c27 n_c27 c_c27,.slice b_c27 m_c27 d_c27] 25) = x:=⟨_,rfl⟩
 have Aw28:=Hd ((Uh Aw27).box (.bool g_c) (.slice a_c27 n_c27 c_c27) (.slice b_c27 m_c27 d_c27) 25)
 rw [hw28] at Aw28
 clear Aw27
 have t29:=(Uh Aw28).r (w.heap.size) (.bool g_a) (.slice a_a n_a c_a) (.slice b_a m_a d_a) mM14
 have t29a:=t29.c0
 have t29b:=t29.c1
 have t29c:=t29.c2
 clear t29
 go_wp2_with fail
 clear t29a t29b t29c
 have K:=ratRound_any g_a (a_a) (b_a) n_a c_a m_a d_a (x_a) (y_a)  w28 ((Uh Aw28).n (a_a) n_a c_a (x_a) (b_a) m_a d_a (y_a) mM16).num ((Uh Aw28).n (a_a) n_a c_a (x_a) (b_a) m_a d_a (y_a) mM16).den (Uh O_a).1 (Uh O_a).2 ((Uh Aw28).tab mM17)
 rw [Uh HR] at K
 try dsimp only at K
 unfold ratV at K
 refine K.mono ?_
 clear K
 rintro _ w30 ⟨v,rfl,a_r30,n_r30,c_r30,b_r30,m_r30,d_r30,rfl,sx,sy,nx,ny,hb⟩
 try dsimp only at sx sy
 unfold ratV
 have Aw30:=Hd (((Uh Aw28).step hb).add (fN a_r30 n_r30 c_r30 x_r b_r30 m_r30 d_r30 [1]) ⟨sx,sy⟩)
 clear Aw28 sx sy nx ny
 clear hb
 obtain ⟨w31,hw31⟩:∃ x,w30.alloc (.cells #[.bool g_r,.slice a_r30 n_r30 c_r30,.slice b_r30 m_r30 d_r30] 25) = x:=⟨_,rfl⟩
 have Aw31:=Hd ((Uh Aw30).box (.bool g_r) (.slice a_r30 n_r30 c_r30) (.slice b_r30 m_r30 d_r30) 25)
 rw [hw31] at Aw31
 clear Aw30
 clear HN HM HO HC HR
 go_wp2_with fail
 refine (rnum2_any 0 w31).mono ?_
 rintro _ w' ⟨rfl,hw⟩
 obtain rfl:=hw.symm
 clear hw
 go_wp2_with fail
 refine (rnum2_any 0 w31).mono ?_
 rintro _ w' ⟨rfl,hw⟩
 obtain rfl:=hw.symm
 clear hw
 go_wp2_with fail
 refine (rnum2_any 0 w31).mono ?_
 rintro _ w' ⟨rfl,hw⟩
 obtain rfl:=hw.symm
 clear hw
 go_wp2_with fail
 refine (rnum2_any 0 w31).mono ?_
 rintro _ w' ⟨rfl,hw⟩
 obtain rfl:=hw.symm
 clear hw
 go_wp2_with fail
 refine (rnum2_any 0 w31).mono ?_
 rintro _ w' ⟨rfl,hw⟩
 obtain rfl:=hw.symm
 clear hw
 have t32:=(Uh Aw31).r (w24.heap.size) (.bool g_c) (.slice a_o24 n_o24 c_o24) (.slice b_o24 m_o24 d_o24) mM4
 have t32a:=t32.c0
 have t32b:=t32.c1
 have t32c:=t32.c2
 clear t32
 have t33:=(Uh Aw31).r (w27.heap.size) (.bool g_c) (.slice a_c27 n_c27 c_c27) (.slice b_c27 m_c27 d_c27) mM2
 have t33a:=t33.c0
 have t33b:=t33.c1
 have t33c:=t33.c2
 clear t33
 go_wp2_with fail
 clear t32a t32b t32c t33a t33b t33c
 have K:=sameRat_any g_c g_c (a_o24) (b_o24) (a_c27) (b_c27) n_o24 c_o24 m_o24 d_o24 n_c27 c_c27 m_c27 d_c27 (x_c) ([1]) (x_c) ([1]) w31 ((Uh Aw31).n (a_o24) n_o24 c_o24 (x_c) (b_o24) m_o24 d_o24 ([1]) mM5).num ((Uh Aw31).n (a_o24) n_o24 c_o24 (x_c) (b_o24) m_o24 d_o24 ([1]) mM5).den ((Uh Aw31).n (a_c27) n_c27 c_c27 (x_c) (b_c27) m_c27 d_c27 ([1]) mM3).num ((Uh Aw31).n (a_c27) n_c27 c_c27 (x_c) (b_c27) m_c27 d_c27 ([1]) mM3).den
 rw [Uh HSOC] at K
 try unfold ratV at K
 refine K.mono ?_
 clear K
 rintro _ w34 ⟨rfl,hb⟩
 have Aw34:=Hd ((Uh Aw31).step hb)
 clear Aw31 hb
 clear HSOC
 have t35:=(Uh Aw34).r (w30.heap.size) (.bool g_r) (.slice a_r30 n_r30 c_r30) (.slice b_r30 m_r30 d_r30) (.head _)
 have t35a:=t35.c0
 have t35b:=t35.c1
 have t35c:=t35.c2
 clear t35
 have t36:=(Uh Aw34).r (w9.heap.size) (.bool g_f) (.slice a_f9 n_f9 c_f9) (.slice (some ⟨bkf,ofs,none⟩) 1 d_f9) mM13
 have t36a:=t36.c0
 have t36b:=t36.c1
 have t36c:=t36.c2
 clear t36
 go_wp2_with fail
 clear t35a t35b t35c t36a t36b t36c
 have K:=sameRat_any g_r g_f (a_r30) (b_r30) (a_f9) ((some ⟨bkf,ofs,none⟩)) n_r30 c_r30 m_r30 d_r30 n_f9 c_f9 1 d_f9 (x_r) ([1]) (x_f) ([1]) w34 ((Uh Aw34).n (a_r30) n_r30 c_r30 (x_r) (b_r30) m_r30 d_r30 ([1]) mM1).num ((Uh Aw34).n (a_r30) n_r30 c_r30 (x_r) (b_r30) m_r30 d_r30 ([1]) mM1).den ((Uh Aw34).n (a_f9) n_f9 c_f9 (x_f) ((some ⟨bkf,ofs,none⟩)) 1 d_f9 ([1]) mM14).num ((Uh Aw34).n (a_f9) n_f9 c_f9 (x_f) ((some ⟨bkf,ofs,none⟩)) 1 d_f9 ([1]) mM14).den
 rw [Uh HRF] at K
 try unfold ratV at K
 refine K.mono ?_
 clear K
 rintro _ w37 ⟨rfl,hb⟩
 have Aw37:=Hd ((Uh Aw34).step hb)
 clear Aw34 hb
 clear HRF
 clear HRS
 obtain ⟨wM1,hwM⟩:∃ x,x = w37:=⟨_,rfl⟩
 subst hwM
 have AM1:=Aw37
 clear Aw37
 obtain ⟨wu,hwu⟩:∃ x,wM1.alloc (.cells #[.int .u32 1] 33) = x:=⟨_,rfl⟩
 obtain ⟨wv,hwv⟩:∃ x,wu.alloc (.cells #[.int .u32 2] 33) = x:=⟨_,rfl⟩
 have hbu:Below wM1.heap.size wM1 wu:=by rw [← hwu]; exact bAl
 have hbv:Below wu.heap.size wu wv:=by rw [← hwv]; exact bAl
 have s1:Sl wv (some ⟨wM1.heap.size,0,none⟩) 1 1 [1]:=(sl_made (w:=wu) (g:=wM1.heap.size) (v:=1) (by rw [← hwu]; simp)).below hbv
 have s2:Sl wv (some ⟨wu.heap.size,0,none⟩) 1 1 [2]:=sl_made (v:=2) (by rw [← hwv]; simp)
 have AH:=Hd (((Uh AM1).step hbu).step hbv)
 clear AM1
 have KM:=ratMake_any false _ _ 1 1 1 1 [1] [2] wv s1 s2 (ok_one (by decide)) (ok_one (by decide)) ((Uh AH).tab mM19)
 rw [half_make] at KM
 have HKM:=Hd KM
 clear KM s1 s2 hbu hbv
 go_wp2_with fail
 refine (Uh HKM).mono ?_
 rintro _ w38 ⟨v,rfl,a_half,n_half,c_half,b_half,m_half,d_half,rfl,sx,sy,nx,ny,hb⟩
 try dsimp only at sx sy
 unfold ratV
 have Aw38:=Hd (((Uh AH).step hb).add (fN a_half n_half c_half [1] b_half m_half d_half [2]) ⟨sx,sy⟩)
 clear AH sx sy nx ny hb HKM hwu hwv
 obtain ⟨w39,hw39⟩:∃ x,w38.alloc (.cells #[.bool false,.slice a_half n_half c_half,.slice b_half m_half d_half] 25) = x:=⟨_,rfl⟩
 have Aw39:=Hd ((Uh Aw38).box (.bool false) (.slice a_half n_half c_half) (.slice b_half m_half d_half) 25)
 rw [hw39] at Aw39
 clear Aw38
 have t40:=(Uh Aw39).r (w.heap.size) (.bool g_a) (.slice a_a n_a c_a) (.slice b_a m_a d_a) mM18
 have t40a:=t40.c0
 have t40b:=t40.c1
 have t40c:=t40.c2
 clear t40
 have t41:=(Uh Aw39).r (w30.heap.size) (.bool g_r) (.slice a_r30 n_r30 c_r30) (.slice b_r30 m_r30 d_r30) mM2
 have t41a:=t41.c0
 have t41b:=t41.c1
 have t41c:=t41.c2
 clear t41
 go_wp2_with fail
 clear t40a t40b t40c t41a t41b t41c
 have K:=gap_any g_a g_r g_g (a_a) (b_a) (a_r30) (b_r30) n_a c_a m_a d_a n_r30 c_r30 m_r30 d_r30 (x_a) (y_a) (x_r) ([1]) x_m y_a w39 ((Uh Aw39).n (a_a) n_a c_a (x_a) (b_a) m_a d_a (y_a) mM20).num ((Uh Aw39).n (a_a) n_a c_a (x_a) (b_a) m_a d_a (y_a) mM20).den ((Uh Aw39).n (a_r30) n_r30 c_r30 (x_r) (b_r30) m_r30 d_r30 ([1]) mM3).num ((Uh Aw39).n (a_r30) n_r30 c_r30 (x_r) (b_r30) m_r30 d_r30 ([1]) mM3).den (Uh O_a).1 (Uh O_a).2 (Uh O_r).1 (Uh O_r).2 ((Uh Aw39).tab mM21) (Uh HG) (Uh HAB) (Uh OM).1 (Uh OM).2
 unfold ratV at K
 refine K.mono ?_
 clear K
 rintro _ w42 ⟨a_far,n_far,c_far,b_far,m_far,d_far,rfl,sx,sy,hb⟩
 unfold ratV
 have Aw42:=Hd (((Uh Aw39).step hb).add (fN a_far n_far c_far x_m b_far m_far d_far y_a) ⟨sx,sy⟩)
 clear Aw39 sx sy hb HG HAB
 obtain ⟨w43,hw43⟩:∃ x,w42.alloc (.cells #[.bool false,.slice a_far n_far c_far,.slice b_far m_far d_far] 25) = x:=⟨_,rfl⟩
 have Aw43:=Hd ((Uh Aw42).box (.bool false) (.slice a_far n_far c_far) (.slice b_far m_far d_far) 25)
 rw [hw43] at Aw43
 clear Aw42
 have t44:=(Uh Aw43).r (w42.heap.size) (.bool false) (.slice a_far n_far c_far) (.slice b_far m_far d_far) (.head _)
 have t44a:=t44.c0
 have t44b:=t44.c1
 have t44c:=t44.c2
 clear t44
 have t45:=(Uh Aw43).r (w38.heap.size) (.bool false) (.slice a_half n_half c_half) (.slice b_half m_half d_half) mM2
 have t45a:=t45.c0
 have t45b:=t45.c1
 have t45c:=t45.c2
 clear t45
 go_wp2_with fail
 clear t44a t44b t44c t45a t45b t45c
 have K:=ratCmp_any false false (a_far) (b_far) (a_half) (b_half) n_far c_far m_far d_far n_half c_half m_half d_half (x_m) (y_a) ([1]) ([2]) w43 ((Uh Aw43).n (a_far) n_far c_far (x_m) (b_far) m_far d_far (y_a) mM1).num ((Uh Aw43).n (a_far) n_far c_far (x_m) (b_far) m_far d_far (y_a) mM1).den ((Uh Aw43).n (a_half) n_half c_half ([1]) (b_half) m_half d_half ([2]) mM3).num ((Uh Aw43).n (a_half) n_half c_half ([1]) (b_half) m_half d_half ([2]) mM3).den (Uh O_far).1 (Uh O_far).2 (Uh O_half).1 (Uh O_half).2 ((Uh Aw43).tab mM23)
 rw [Uh HCH] at K
 try unfold ratV at K
 refine K.mono ?_
 clear K
 rintro _ w46 ⟨rfl,hb⟩
 have Aw46:=Hd ((Uh Aw43).step hb)
 clear Aw43 hb
 have t47:=(Uh Aw46).r (w42.heap.size) (.bool false) (.slice a_far n_far c_far) (.slice b_far m_far d_far) (.head _)
 have t47a:=t47.c0
 have t47b:=t47.c1
 have t47c:=t47.c2
 clear t47
 have t48:=(Uh Aw46).r (w38.heap.size) (.bool false) (.slice a_half n_half c_half) (.slice b_half m_half d_half) mM2
 have t48a:=t48.c0
 have t48b:=t48.c1
 have t48c:=t48.c2
 clear t48
 go_wp2_with fail
 clear t47a t47b t47c t48a t48b t48c
 have K:=sameRat_any false false (a_far) (b_far) (a_half) (b_half) n_far c_far m_far d_far n_half c_half m_half d_half (x_m) (y_a) ([1]) ([2]) w46 ((Uh Aw46).n (a_far) n_far c_far (x_m) (b_far) m_far d_far (y_a) mM1).num ((Uh Aw46).n (a_far) n_far c_far (x_m) (b_far) m_far d_far (y_a) mM1).den ((Uh Aw46).n (a_half) n_half c_half ([1]) (b_half) m_half d_half ([2]) mM3).num ((Uh Aw46).n (a_half) n_half c_half ([1]) (b_half) m_half d_half ([2]) mM3).den
 rw [Uh HFH] at K
 try unfold ratV at K
 refine K.mono ?_
 clear K
 rintro _ w49 ⟨rfl,hb⟩
 have Aw49:=Hd ((Uh Aw46).step hb)
 clear Aw46 hb
 clear HCH HFH
 clear HEV
 have t50:=(Uh Aw49).r (w.heap.size) (.bool g_a) (.slice a_a n_a c_a) (.slice b_a m_a d_a) mM20
 have t50a:=t50.c0
 have t50b:=t50.c1
 have t50c:=t50.c2
 clear t50
 have t51:=(Uh Aw49).r (w1.heap.size) (.bool g_b) (.slice a_b n_b c_b) (.slice b_b m_b d_b) mM19
 have t51a:=t51.c0
 have t51b:=t51.c1
 have t51c:=t51.c2
 clear t51
 go_wp2_with fail
 clear t50a t50b t50c t51a t51b t51c
 obtain ⟨wM2,hwM⟩:∃ x,x = w49:=⟨_,rfl⟩
 subst hwM
 have AM2:=Aw49
 clear Aw49
 have K:=ratDivide_any g_a g_b (a_a) (b_a) (a_b) (b_b) n_a c_a m_a d_a n_b c_b m_b d_b (x_a) (y_a) (x_b) (y_b) wM2 ((Uh AM2).n (a_a) n_a c_a (x_a) (b_a) m_a d_a (y_a) mM22).num ((Uh AM2).n (a_a) n_a c_a (x_a) (b_a) m_a d_a (y_a) mM22).den ((Uh AM2).n (a_b) n_b c_b (x_b) (b_b) m_b d_b (y_b) mM21).num ((Uh AM2).n (a_b) n_b c_b (x_b) (b_b) m_b d_b (y_b) mM21).den (Uh O_a).1 (Uh O_a).2 (Uh O_b).1 (Uh O_b).2 ((Uh AM2).tab mM23)
 rw [Uh HQ] at K
 unfold ResD at K
 try dsimp only at K
 unfold ratV at K
 refine K.mono ?_
 clear K HQ
 rintro _ Va ⟨v,v_,rfl,⟨a_q,n_q,c_q,b_q,m_q,d_q,rfl,sx,sy,nx,ny,hb⟩,⟨a_l,n_l,c_l,b_l,m_l,d_l,rfl,tx,ty,ux,uy,hb_⟩⟩
 try dsimp only at sx sy tx ty
 unfold ratV
 clear nx ny ux uy hb_
 obtain ⟨Vax,hVax⟩:∃ x,Va.alloc (.cells #[.bool false,.slice none 0 0,.slice none 0 0] 25) = x:=⟨_,rfl⟩
 obtain ⟨Vay,hVay⟩:∃ x,Vax.alloc (.cells #[.bool false,.slice none 0 0,.slice none 0 0] 25) = x:=⟨_,rfl⟩
 obtain ⟨tb1,tb2,tb3⟩:=two_boxes hVax hVay (.bool g_q) (.slice a_q n_q c_q) (.slice b_q m_q d_q) (.bool g_l) (.slice a_l n_l c_l) (.slice b_l m_l d_l)
 obtain ⟨oo1,oo2,hlt,_⟩:=two_outs hVax hVay
 have hn1:=Nat.ne_of_lt hlt
 have hn2:=hn1.symm
 obtain ⟨zz10,qq10⟩:=oo1.cells 0 (by decide)
 have ff10:=oo1.fz 0 (by decide)
 obtain ⟨zz11,qq11⟩:=oo1.cells 1 (by decide)
 have ff11:=oo1.fz 1 (by decide)
 obtain ⟨zz12,qq12⟩:=oo1.cells 2 (by decide)
 have ff12:=oo1.fz 2 (by decide)
 obtain ⟨zz20,qq20⟩:=oo2.cells 0 (by decide)
 have ff20:=oo2.fz 0 (by decide)
 obtain ⟨zz21,qq21⟩:=oo2.cells 1 (by decide)
 have ff21:=oo2.fz 1 (by decide)
 obtain ⟨zz22,qq22⟩:=oo2.cells 2 (by decide)
 have ff22:=oo2.fz 2 (by decide)
 have AV:=Hd (((((((Uh AM2).step hb).add (fN a_q n_q c_q x_q b_q m_q d_q y_q) ⟨sx,sy⟩).add (fN a_l n_l c_l x_l b_l m_l d_l y_l) ⟨tx,ty⟩).step tb3).add (fR (Va.heap.size) (.bool g_q) (.slice a_q n_q c_q) (.slice b_q m_q d_q)) tb1).add (fR (Vax.heap.size) (.bool g_l) (.slice a_l n_l c_l) (.slice b_l m_l d_l)) tb2)
 clear sx sy tx ty hb tb1 tb2 tb3 hlt oo1 oo2 AM2
 go_wp2_with fail
 clear qq10 ff10 qq11 ff11 qq12 ff12 qq20 ff20 qq21 ff21 qq22 ff22 hn1 hn2
 generalize (((((Vay.setCell ⟨Va.heap.size,0,none⟩ (.bool g_q)).setCell ⟨Va.heap.size,1,none⟩ (.slice a_q n_q c_q)).setCell ⟨Va.heap.size,2,none⟩ (.slice b_q m_q d_q)).setCell ⟨Vax.heap.size,0,none⟩ (.bool g_l)).setCell ⟨Vax.heap.size,1,none⟩ (.slice a_l n_l c_l)).setCell ⟨Vax.heap.size,2,none⟩ (.slice b_l m_l d_l) = wD at *
 refine (rnum2_any e_q wD).mono ?_
 rintro _ w' ⟨rfl,hw⟩
 obtain rfl:=hw.symm
 clear hw
 by_cases zq:e_q = 0
 rotate_left
 focus
  have zq2:(e_q != 0) = true:=by simpa using zq
  have ZQ:=Hd (Uh HNE zq)
  clear zq HNE HZ
  have t52:=(Uh AV).r (w1.heap.size) (.bool g_b) (.slice a_b n_b c_b) (.slice b_b m_b d_b) mM23
  have t52a:=t52.c0
  have t52b:=t52.c1
  have t52c:=t52.c2
  clear t52
  go_wp2_with fail
  clear t52a t52b t52c
  have K:=ratSign_any g_b (a_b) (b_b) n_b c_b m_b d_b (x_b) (y_b)  wD ((Uh AV).n (a_b) n_b c_b (x_b) (b_b) m_b d_b (y_b) mM25).num ((Uh AV).n (a_b) n_b c_b (x_b) (b_b) m_b d_b (y_b) mM25).den (Uh O_b).1 (Uh O_b).2 ((Uh AV).tab mM27)
  rw [Uh HSB] at K
  try unfold ratV at K
  refine K.mono ?_
  clear K
  rintro _ w53 ⟨rfl,hb⟩
  have Aw53:=Hd ((Uh AV).step hb)
  clear AV hb
  by_cases hs:sb = 0
  focus
   have hs2:(sb == 0) = true:=by simpa using hs
   clear hs ZQ
   go_wp2_with fail
   go_ret
   exact ⟨rfl,(Uh Aw53).bel⟩
  have he2:(e_q == 2) = true:=by simpa using (Uh ZQ).resolve_left hs
  have hs2:(sb == 0) = false:=by simpa using hs
  clear hs ZQ
  go_wp2_with fail
  refine (rnum2_any e_q w53).mono ?_
  rintro _ w' ⟨rfl,hw⟩
  obtain rfl:=hw.symm
  clear hw
  go_wp2_with fail
  go_ret
  exact ⟨rfl,(Uh Aw53).bel⟩
 have zq2:(e_q != 0) = false:=by simpa using zq
 obtain ⟨hs0,mq,ml,hid,hcs⟩:=Uh HZ zq
 have hs2:(sb == 0) = false:=by simpa using hs0
 have HMQ:=Hd mq
 have HML:=Hd ml
 have HID:=Hd hid
 have HCS:=Hd hcs
 clear hs0 mq ml hid hcs zq HNE HZ
 have S0:Fcts w wD []:=⟨(Uh AV).bel,fun f hf => by cases hf⟩
 have S1:=S0.add fTab ((Uh AV).tab mM27)
 have S2:=S1.add (fN a_a n_a c_a x_a b_a m_a d_a y_a) ((Uh AV).n (a_a) n_a c_a (x_a) (b_a) m_a d_a (y_a) mM26)
 have S3:=S2.add (fN a_b n_b c_b x_b b_b m_b d_b y_b) ((Uh AV).n (a_b) n_b c_b (x_b) (b_b) m_b d_b (y_b) mM25)
 have S4:=S3.add (fN a_l n_l c_l x_l b_l m_l d_l y_l) ((Uh AV).n (a_l) n_l c_l (x_l) (b_l) m_l d_l (y_l) mM2)
 have S5:=S4.add (fN a_q n_q c_q x_q b_q m_q d_q y_q) ((Uh AV).n (a_q) n_q c_q (x_q) (b_q) m_q d_q (y_q) mM3)
 have S6:=S5.add (fR (w.heap.size) (.bool g_a) (.slice a_a n_a c_a) (.slice b_a m_a d_a)) ((Uh AV).r (w.heap.size) (.bool g_a) (.slice a_a n_a c_a) (.slice b_a m_a d_a) mM24)
 have S7:=S6.add (fR (w1.heap.size) (.bool g_b) (.slice a_b n_b c_b) (.slice b_b m_b d_b)) ((Uh AV).r (w1.heap.size) (.bool g_b) (.slice a_b n_b c_b) (.slice b_b m_b d_b) mM23)
 have S8:=S7.add (fR (Vax.heap.size) (.bool g_l) (.slice a_l n_l c_l) (.slice b_l m_l d_l)) ((Uh AV).r (Vax.heap.size) (.bool g_l) (.slice a_l n_l c_l) (.slice b_l m_l d_l) (.head _))
 have S9:=S8.add (fR (Va.heap.size) (.bool g_q) (.slice a_q n_q c_q) (.slice b_q m_q d_q)) ((Uh AV).r (Va.heap.size) (.bool g_q) (.slice a_q n_q c_q) (.slice b_q m_q d_q) mM1)
 have S10:=S9.add (fV g_q a_q n_q c_q x_q b_q m_q d_q y_q true (nI g_q (val x_q)) (val y_q:Int)) ⟨((Uh AV).n (a_q) n_q c_q (x_q) (b_q) m_q d_q (y_q) mM3),(Uh O_q).1,(Uh O_q).2,fun _ => Fr.self (Uh HMQ)⟩
 have S11:=S10.add (fV g_b a_b n_b c_b x_b b_b m_b d_b y_b true (nI g_b (val x_b)) (val y_b:Int)) ⟨((Uh AV).n (a_b) n_b c_b (x_b) (b_b) m_b d_b (y_b) mM25),(Uh O_b).1,(Uh O_b).2,fun _ => Fr.self (Uh HMB)⟩
 have S12:=S11.add (fV g_l a_l n_l c_l x_l b_l m_l d_l y_l true (nI g_l (val x_l)) (val y_l:Int)) ⟨((Uh AV).n (a_l) n_l c_l (x_l) (b_l) m_l d_l (y_l) mM2),(Uh O_l).1,(Uh O_l).2,fun _ => Fr.self (Uh HML)⟩
 have AS:=Hd S12
 clear AV S0 S1 S2 S3 S4 S5 S6 S7 S8 S9 S10 S11 S12
 have t54:=(Uh AS).r (Va.heap.size) (.bool g_q) (.slice a_q n_q c_q) (.slice b_q m_q d_q) mM3
 have t54a:=t54.c0
 have t54b:=t54.c1
 have t54c:=t54.c2
 clear t54
 have t55:=(Uh AS).r (w1.heap.size) (.bool g_b) (.slice a_b n_b c_b) (.slice b_b m_b d_b) mM5
 have t55a:=t55.c0
 have t55b:=t55.c1
 have t55c:=t55.c2
 clear t55
 have t56:=(Uh AS).r (Vax.heap.size) (.bool g_l) (.slice a_l n_l c_l) (.slice b_l m_l d_l) mM4
 have t56a:=t56.c0
 have t56b:=t56.c1
 have t56c:=t56.c2
 clear t56
 have HLT:=Hd (And.intro ((Uh AS).r (Va.heap.size) (.bool g_q) (.slice a_q n_q c_q) (.slice b_q m_q d_q) (by repeat (first | exact List.Mem.head _ | apply List.Mem.tail))).lt (And.intro ((Uh AS).r (w1.heap.size) (.bool g_b) (.slice a_b n_b c_b) (.slice b_b m_b d_b) (by repeat (first | exact List.Mem.head _ | apply List.Mem.tail))).lt ((Uh AS).r (Vax.heap.size) (.bool g_l) (.slice a_l n_l c_l) (.slice b_l m_l d_l) (by repeat (first | exact List.Mem.head _ | apply List.Mem.tail))).lt))
 go_wp2_with fail
 have HH:=Hd (((Uh AS).add (fSince wD) (Below.refl _ _)).step (Below.refl _ _).drew)
 have h:=nine (Uh HH) mM4 mM6 mM5
 have ha:=nine ((Uh HH).quadE) mM6 mM8 mM7
 go_region_held3 (fun w' => w'.cell? ⟨Va.heap.size,0,none⟩ = some (.bool g_q) ∧ w'.cell? ⟨Va.heap.size,1,none⟩ = some (.slice a_q n_q c_q) ∧ w'.cell? ⟨Va.heap.size,2,none⟩ = some (.slice b_q m_q d_q) ∧ w'.cell? ⟨w1.heap.size,0,none⟩ = some (.bool g_b) ∧ w'.cell? ⟨w1.heap.size,1,none⟩ = some (.slice a_b n_b c_b) ∧ w'.cell? ⟨w1.heap.size,2,none⟩ = some (.slice b_b m_b d_b) ∧ w'.cell? ⟨Vax.heap.size,0,none⟩ = some (.bool g_l) ∧ w'.cell? ⟨Vax.heap.size,1,none⟩ = some (.slice a_l n_l c_l) ∧ w'.cell? ⟨Vax.heap.size,2,none⟩ = some (.slice b_l m_l d_l)) (first | (with_reducible exact kt) | (with_reducible exact kta) | (with_reducible exact ks) | (with_reducible exact ksa) | (with_reducible exact ksf) | (with_reducible exact kn) | (with_reducible exact h) | (with_reducible exact ha) | (exact h) | (exact ha))
  (first
   | (go_at_call 23; (first
     | ((fail_if_success (with_reducible refine (show Calls _ _ _ (World.alloc _ _) _ from ?_))); refine (vlTimes (Uh HH) mM3 mM2 mM12).mono ?_; rintro _ wt_ ⟨g_t,a_t,n_t,c_t,x_t,b_t,m_t,d_t,y_t,k_t,rfl,hn⟩; have HN_:=Hd hn; clear hn HH; have HH:=HN_; clear HN_; have HWT:=Hd ((Uh HH).since wD mM1).size; have kt:=nine (Uh HH) mM5 mM7 mM6; have kta:=nine ((Uh HH).quadE) mM7 mM9 mM8)
     | (refine (vlTimes ((Uh HH).quadE) mM5 mM4 mM14).mono ?_; rintro _ wt_ ⟨g_t,a_t,n_t,c_t,x_t,b_t,m_t,d_t,y_t,k_t,rfl,hn⟩; have HN_:=Hd hn; clear hn HH; have HH:=HN_; clear HN_; have HWT:=Hd ((Uh HH).since wD mM3).size; have kt:=nine (Uh HH) mM7 mM9 mM8)))
   | (go_at_call 22; (first
     | ((fail_if_success (with_reducible refine (show Calls _ _ _ (World.alloc _ _) _ from ?_))); (first
       | (refine (vlSum (Uh HH) (.head _) mM2 mM13).mono ?_; rintro _ ws_ ⟨g_s,a_s,n_s,c_s,x_s,b_s,m_s,d_s,y_s,k_s,rfl,hn⟩; have HN_:=Hd hn; clear hn HH; have HH:=HN_; clear HN_; have ks:=nine (Uh HH) mM6 mM8 mM7; have ksa:=nine ((Uh HH).quadE) mM8 mM10 mM9; have ksf:=nine ((Uh HH).quad (.bool g_s) (.slice a_s n_s c_s) (.slice b_s m_s d_s) (.bool k_s) 44) mM7 mM9 mM8)
       | (refine (vlSum (Uh HH) (.head _) mM4 mM15).mono ?_; rintro _ ws_ ⟨g_s,a_s,n_s,c_s,x_s,b_s,m_s,d_s,y_s,k_s,rfl,hn⟩; have HN_:=Hd hn; clear hn HH; have HH:=HN_; clear HN_; have ks:=nine (Uh HH) mM8 mM10 mM9; have qz:=(Uh HH).q wD.heap.size (.bool false) (.slice none 0 0) (.slice none 0 0) (.bool false) mM3; have c4:=(quad_set _ wD.heap.size (.bool g_s) (.slice a_s n_s c_s) (.slice b_s m_s d_s) (.bool k_s) qz).2.2.2.2; have kn:=nineC (Uh HH) c4 mM8 mM10 mM9 (by have h1:=Uh HLT; have h2:=Uh HWT; omega) (by have h1:=Uh HLT; have h2:=Uh HWT; omega) (by have h1:=Uh HLT; have h2:=Uh HWT; omega); have y0:=qz.tri.c0; have y1:=qz.tri.c1; have y2:=qz.tri.c2; have y3:=qz.c3; have y4:=qz.tri.f0; have y5:=qz.tri.f1; have y6:=qz.tri.f2; have y7:=qz.f3; clear qz c4)))
     | (refine (vlSum ((Uh HH).quadE) mM2 mM4 mM15).mono ?_; rintro _ ws_ ⟨g_s,a_s,n_s,c_s,x_s,b_s,m_s,d_s,y_s,k_s,rfl,hn⟩; have HN_:=Hd hn; clear hn HH; have HH:=HN_; clear HN_; have ks:=nine (Uh HH) mM8 mM10 mM9; have qz:=(Uh HH).q wt_.heap.size (.bool false) (.slice none 0 0) (.slice none 0 0) (.bool false) mM2; have c4:=(quad_set _ wt_.heap.size (.bool g_s) (.slice a_s n_s c_s) (.slice b_s m_s d_s) (.bool k_s) qz).2.2.2.2; have kn:=nineC (Uh HH) c4 mM8 mM10 mM9 (by have h1:=Uh HLT; have h2:=Uh HWT; omega) (by have h1:=Uh HLT; have h2:=Uh HWT; omega) (by have h1:=Uh HLT; have h2:=Uh HWT; omega); have y0:=qz.tri.c0; have y1:=qz.tri.c1; have y2:=qz.tri.c2; have y3:=qz.c3; have y4:=qz.tri.f0; have y5:=qz.tri.f1; have y6:=qz.tri.f2; have y7:=qz.f3; clear qz c4))))
 all_goals (first
  | (have AF:=Hd (did_join (Uh AS) (Uh HH) ((Uh HH).since wD mM4) (Nat.le_refl _) ((Uh HH).q wD.heap.size (.bool false) (.slice none 0 0) (.slice none 0 0) (.bool false) mM3) ((Uh HH).e wD.heap.size mM2) ((Uh HH).v (g:=g_s) (a:=a_s) (n:=n_s) (c:=c_s) (x:=x_s) (b:=b_s) (m:=m_s) (d:=d_s) (y:=y_s) (k:=k_s) (P:=((nI g_q (val x_q) * nI g_b (val x_b)) * (val y_l:Int) + nI g_l (val x_l) * ((val y_q:Int) * (val y_b:Int)))) (Q:=(((val y_q:Int) * (val y_b:Int)) * (val y_l:Int))) (.head _))); clear HH AS; (try clear y0 y1 y2 y3 y4 y5 y6 y7); generalize (((ws_.setCell ⟨wD.heap.size,0,none⟩ (.bool g_s)).setCell ⟨wD.heap.size,1,none⟩ (.slice a_s n_s c_s)).setCell ⟨wD.heap.size,2,none⟩ (.slice b_s m_s d_s)).setCell ⟨wD.heap.size,3,none⟩ (.bool k_s) = wS at *; generalize wD.heap.size = RS at *)
  | (have AF:=Hd (did_join (Uh AS) (Uh HH) ((Uh HH).since wD mM4) (Uh HWT) ((Uh HH).q wt_.heap.size (.bool false) (.slice none 0 0) (.slice none 0 0) (.bool false) mM2) ((Uh HH).e wt_.heap.size mM1) ((Uh HH).v (g:=g_s) (a:=a_s) (n:=n_s) (c:=c_s) (x:=x_s) (b:=b_s) (m:=m_s) (d:=d_s) (y:=y_s) (k:=k_s) (P:=((nI g_q (val x_q) * nI g_b (val x_b)) * (val y_l:Int) + nI g_l (val x_l) * ((val y_q:Int) * (val y_b:Int)))) (Q:=(((val y_q:Int) * (val y_b:Int)) * (val y_l:Int))) (.head _))); clear HH AS; (try clear y0 y1 y2 y3 y4 y5 y6 y7); generalize (((ws_.setCell ⟨wt_.heap.size,0,none⟩ (.bool g_s)).setCell ⟨wt_.heap.size,1,none⟩ (.slice a_s n_s c_s)).setCell ⟨wt_.heap.size,2,none⟩ (.slice b_s m_s d_s)).setCell ⟨wt_.heap.size,3,none⟩ (.bool k_s) = wS at *; generalize wt_.heap.size = RS at *)
  | (have AF:=Hd (did_new (L':=[]) (Uh AS) ((Uh HH).since wD mM2) ((Uh HH).v (g:=g_s) (a:=a_s) (n:=n_s) (c:=c_s) (x:=x_s) (b:=b_s) (m:=m_s) (d:=d_s) (y:=y_s) (k:=k_s) (P:=((nI g_q (val x_q) * nI g_b (val x_b)) * (val y_l:Int) + nI g_l (val x_l) * ((val y_q:Int) * (val y_b:Int)))) (Q:=(((val y_q:Int) * (val y_b:Int)) * (val y_l:Int))) (.head _))); clear HH AS; generalize ws_.alloc (.cells #[.bool g_s,.slice a_s n_s c_s,.slice b_s m_s d_s,.bool k_s] 44) = wS at *; generalize ws_.heap.size = RS at *))
 all_goals (try clear HLT HWT t54a t54b t54c t55a t55b t55c t56a t56b t56c)
 all_goals
  have t57:=(Uh AF).r (w1.heap.size) (.bool g_b) (.slice a_b n_b c_b) (.slice b_b m_b d_b) mM7
  have t57a:=t57.c0
  have t57b:=t57.c1
  have t57c:=t57.c2
  clear t57
  go_wp2_with fail
  clear t57a t57b t57c
  have K:=ratSign_any g_b (a_b) (b_b) n_b c_b m_b d_b (x_b) (y_b)  wS ((Uh AF).n (a_b) n_b c_b (x_b) (b_b) m_b d_b (y_b) mM11).num ((Uh AF).n (a_b) n_b c_b (x_b) (b_b) m_b d_b (y_b) mM11).den (Uh O_b).1 (Uh O_b).2 ((Uh AF).tab mM13)
  rw [Uh HSB] at K
  try unfold ratV at K
  refine K.mono ?_
  clear K
  rintro _ w58 ⟨rfl,hb⟩
  have Aw58:=Hd ((Uh AF).step hb)
  clear AF hb
  cases k_s
  focus
   have tS:=(Uh Aw58).q RS (.bool g_s) (.slice a_s n_s c_s) (.slice b_s m_s d_s) (.bool false) (.head _)
   have s0:=tS.tri.c0
   have s1:=tS.tri.c1
   have s2:=tS.tri.c2
   have s3:=tS.c3
   clear tS
   have t59:=(Uh Aw58).r (Vax.heap.size) (.bool g_l) (.slice a_l n_l c_l) (.slice b_l m_l d_l) mM6
   have t59a:=t59.c0
   have t59b:=t59.c1
   have t59c:=t59.c2
   clear t59
   go_wp2_with fail
   clear t59a t59b t59c
   clear s0 s1 s2 s3
   obtain ⟨wM5,hwM⟩:∃ x,x = w58:=⟨_,rfl⟩
   subst hwM
   have AM5:=Aw58
   clear Aw58
  rotate_left
  focus
   have hvs:=(Uh Aw58).v (g:=g_s) (a:=a_s) (n:=n_s) (c:=c_s) (x:=x_s) (b:=b_s) (m:=m_s) (d:=d_s) (y:=y_s) (k:=true) (P:=((nI g_q (val x_q) * nI g_b (val x_b)) * (val y_l:Int) + nI g_l (val x_l) * ((val y_q:Int) * (val y_b:Int)))) (Q:=(((val y_q:Int) * (val y_b:Int)) * (val y_l:Int))) mM1
   have HSS:=Hd (Fr.same hvs.ox hvs.oy (Uh O_a).1 (Uh O_a).2 (hvs.fr rfl) (Fr.self (Uh HMA)) (Uh HID).symm)
   have K:=sameRat_any g_s g_a a_s b_s (a_a) (b_a) n_s c_s m_s d_s n_a c_a m_a d_a x_s y_s (x_a) (y_a) w58 hvs.nm.num hvs.nm.den ((Uh Aw58).n (a_a) n_a c_a (x_a) (b_a) m_a d_a (y_a) mM12).num ((Uh Aw58).n (a_a) n_a c_a (x_a) (b_a) m_a d_a (y_a) mM12).den
   rw [Uh HSS] at K
   unfold ratV at K
   have HKS:=Hd K
   clear K HSS hvs
   have tS:=(Uh Aw58).q RS (.bool g_s) (.slice a_s n_s c_s) (.slice b_s m_s d_s) (.bool true) (.head _)
   have s0:=tS.tri.c0
   have s1:=tS.tri.c1
   have s2:=tS.tri.c2
   have s3:=tS.c3
   clear tS
   have t60:=(Uh Aw58).r (w.heap.size) (.bool g_a) (.slice a_a n_a c_a) (.slice b_a m_a d_a) mM8
   have t60a:=t60.c0
   have t60b:=t60.c1
   have t60c:=t60.c2
   clear t60
   go_wp2_with fail
   clear s0 s1 s2 s3 t60a t60b t60c
   refine (Uh HKS).mono ?_
   rintro _ w61 ⟨rfl,hb⟩
   have Aw61:=Hd ((Uh Aw58).step hb)
   clear Aw58 hb HKS
   have t62:=(Uh Aw61).r (Vax.heap.size) (.bool g_l) (.slice a_l n_l c_l) (.slice b_l m_l d_l) mM6
   have t62a:=t62.c0
   have t62b:=t62.c1
   have t62c:=t62.c2
   clear t62
   go_wp2_with fail
   clear t62a t62b t62c
   obtain ⟨wM5,hwM⟩:∃ x,x = w61:=⟨_,rfl⟩
   subst hwM
   have AM5:=Aw61
   clear Aw61
  rotate_left
  all_goals
   have K:=ratSign_any g_l (a_l) (b_l) n_l c_l m_l d_l (x_l) (y_l)  wM5 ((Uh AM5).n (a_l) n_l c_l (x_l) (b_l) m_l d_l (y_l) mM10).num ((Uh AM5).n (a_l) n_l c_l (x_l) (b_l) m_l d_l (y_l) mM10).den (Uh O_l).1 (Uh O_l).2 ((Uh AM5).tab mM13)
   rw [Uh HSL] at K
   unfold ratV at K
   refine K.mono ?_
   clear K
   rintro _ w63 ⟨rfl,hb⟩
   have Aw63:=Hd ((Uh AM5).step hb)
   clear AM5 hb
   have h3:sl = -1 ∨ sl = 0 ∨ sl = 1:=by rw [← Uh HSL]; exact order_sone (Uh HML)
   rcases h3 with h3 | h3 | h3
   rotate_left
   focus
    subst h3
    go_wp2_with fail
    go_ret
    exact ⟨rfl,(Uh Aw63).bel⟩
   rotate_left
   focus
    subst h3
    obtain ⟨hA1,hA2⟩:=(Uh HCS).resolve_left (by decide)
    subst hA1
    have HCL2:=Hd ((Uh HCL).trans hA2)
    clear hA2
    have t64:=(Uh Aw63).r (w1.heap.size) (.bool g_b) (.slice a_b n_b c_b) (.slice b_b m_b d_b) mM7
    have t64a:=t64.c0
    have t64b:=t64.c1
    have t64c:=t64.c2
    clear t64
    go_wp2_with fail
    clear t64a t64b t64c
    have K:=ratSign_any g_b (a_b) (b_b) n_b c_b m_b d_b (x_b) (y_b)  w63 ((Uh Aw63).n (a_b) n_b c_b (x_b) (b_b) m_b d_b (y_b) mM11).num ((Uh Aw63).n (a_b) n_b c_b (x_b) (b_b) m_b d_b (y_b) mM11).den (Uh O_b).1 (Uh O_b).2 ((Uh Aw63).tab mM13)
    rw [Uh HSB] at K
    try unfold ratV at K
    refine K.mono ?_
    clear K
    rintro _ w65 ⟨rfl,hb⟩
    have Aw65:=Hd ((Uh Aw63).step hb)
    clear Aw63 hb
    have t66:=(Uh Aw65).r (Vax.heap.size) (.bool g_l) (.slice a_l n_l c_l) (.slice b_l m_l d_l) mM6
    have t66a:=t66.c0
    have t66b:=t66.c1
    have t66c:=t66.c2
    clear t66
    have t67:=(Uh Aw65).r (w1.heap.size) (.bool g_b) (.slice a_b n_b c_b) (.slice b_b m_b d_b) mM7
    have t67a:=t67.c0
    have t67b:=t67.c1
    have t67c:=t67.c2
    clear t67
    go_wp2_with fail
    clear t66a t66b t66c t67a t67b t67c
    have K:=ratCmp_any g_l g_b (a_l) (b_l) (a_b) (b_b) n_l c_l m_l d_l n_b c_b m_b d_b (x_l) (y_l) (x_b) (y_b) w65 ((Uh Aw65).n (a_l) n_l c_l (x_l) (b_l) m_l d_l (y_l) mM10).num ((Uh Aw65).n (a_l) n_l c_l (x_l) (b_l) m_l d_l (y_l) mM10).den ((Uh Aw65).n (a_b) n_b c_b (x_b) (b_b) m_b d_b (y_b) mM11).num ((Uh Aw65).n (a_b) n_b c_b (x_b) (b_b) m_b d_b (y_b) mM11).den (Uh O_l).1 (Uh O_l).2 (Uh O_b).1 (Uh O_b).2 ((Uh Aw65).tab mM13)
    rw [Uh HCL2] at K
    try unfold ratV at K
    refine K.mono ?_
    clear K
    rintro _ w68 ⟨rfl,hb⟩
    have Aw68:=Hd ((Uh Aw65).step hb)
    clear Aw65 hb
    go_wp2_with fail
    go_ret
    exact ⟨rfl,(Uh Aw68).bel⟩
   skip
   focus
    subst h3
    obtain ⟨hA1,hA2⟩:=(Uh HCS).resolve_left (by decide)
    subst hA1
    have HCL2:=Hd ((Uh HCL).trans hA2)
    clear hA2
    have t69:=(Uh Aw63).r (w1.heap.size) (.bool g_b) (.slice a_b n_b c_b) (.slice b_b m_b d_b) mM7
    have t69a:=t69.c0
    have t69b:=t69.c1
    have t69c:=t69.c2
    clear t69
    go_wp2_with fail
    clear t69a t69b t69c
    have K:=ratSign_any g_b (a_b) (b_b) n_b c_b m_b d_b (x_b) (y_b)  w63 ((Uh Aw63).n (a_b) n_b c_b (x_b) (b_b) m_b d_b (y_b) mM11).num ((Uh Aw63).n (a_b) n_b c_b (x_b) (b_b) m_b d_b (y_b) mM11).den (Uh O_b).1 (Uh O_b).2 ((Uh Aw63).tab mM13)
    rw [Uh HSB] at K
    try unfold ratV at K
    refine K.mono ?_
    clear K
    rintro _ w70 ⟨rfl,hb⟩
    have Aw70:=Hd ((Uh Aw63).step hb)
    clear Aw63 hb
    have t71:=(Uh Aw70).r (Vax.heap.size) (.bool g_l) (.slice a_l n_l c_l) (.slice b_l m_l d_l) mM6
    have t71a:=t71.c0
    have t71b:=t71.c1
    have t71c:=t71.c2
    clear t71
    have t72:=(Uh Aw70).r (w1.heap.size) (.bool g_b) (.slice a_b n_b c_b) (.slice b_b m_b d_b) mM7
    have t72a:=t72.c0
    have t72b:=t72.c1
    have t72c:=t72.c2
    clear t72
    go_wp2_with fail
    clear t71a t71b t71c t72a t72b t72c
    have K:=ratCmp_any g_l g_b (a_l) (b_l) (a_b) (b_b) n_l c_l m_l d_l n_b c_b m_b d_b (x_l) (y_l) (x_b) (y_b) w70 ((Uh Aw70).n (a_l) n_l c_l (x_l) (b_l) m_l d_l (y_l) mM10).num ((Uh Aw70).n (a_l) n_l c_l (x_l) (b_l) m_l d_l (y_l) mM10).den ((Uh Aw70).n (a_b) n_b c_b (x_b) (b_b) m_b d_b (y_b) mM11).num ((Uh Aw70).n (a_b) n_b c_b (x_b) (b_b) m_b d_b (y_b) mM11).den (Uh O_l).1 (Uh O_l).2 (Uh O_b).1 (Uh O_b).2 ((Uh Aw70).tab mM13)
    rw [Uh HCL2] at K
    try unfold ratV at K
    refine K.mono ?_
    clear K
    rintro _ w73 ⟨rfl,hb⟩
    have Aw73:=Hd ((Uh Aw70).step hb)
    clear Aw70 hb
    go_wp2_with fail
    go_ret
    exact ⟨rfl,(Uh Aw73).bel⟩
end Go.Proofs.YtmmeiebbnjjijaaGreatDoor
