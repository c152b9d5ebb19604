/- Rg3 -/
import Derived.Test.YthmcfpeobkgihaaGreatDoorWr1
import Derived.Test.YthmcfpeobkgihaaGreatDoorWrk
import Derived.Test.YthmcfpeobkgihaaGreatDoorWrl
import Derived.Test.YthmcfpeobkgihaaGreatDoorWjb
import Derived.Test.YthmcfpeobkgihaaGreatDoorPa2
import Derived.Test.YthmcfpeobkgihaaGreatDoorWij
import Derived.Test.YthmcfpeobkgihaaGreatDoorRa8
import Derived.Test.YthmcfpeobkgihaaGreatDoorWic
namespace Go.Proofs.YthmcfpeobkgihaaGreatDoor
open Go.RowKit Go.Deep
set_option linter.unusedVariables false
theorem Out.chgW {S:Nat → Prop} {w w':World} {R:Nat} (h:Out w R) (k:Chg S w w') (hs:¬ S R):Out w' R :=
 ⟨fun i hi => by obtain ⟨v,hv⟩:=h.cells i hi; exact ⟨v,k.cell hs hv⟩,fun i hi => by rw [World.frozen?_of_block (w:=w) (k.block R h.lt hs)]; exact h.fz i hi,Nat.lt_of_lt_of_le h.lt k.size⟩
theorem tri_set {w:World} {R:Nat} (h:Out w R) (v0 v1 v2:Value):Tri (((w.setCell ⟨R,0,none⟩ v0).setCell ⟨R,1,none⟩ v1).setCell ⟨R,2,none⟩ v2) R v0 v1 v2:=by
 obtain ⟨a,b,c,d⟩:=three_set w R v0 v1 v2 h.cells
 have f:∀ j,(((w.setCell ⟨R,0,none⟩ v0).setCell ⟨R,1,none⟩ v1).setCell ⟨R,2,none⟩ v2).frozen? ⟨R,j,none⟩ = w.frozen? ⟨R,j,none⟩:=fun j => by rw [World.frozen?_setCell,World.frozen?_setCell,World.frozen?_setCell]
 exact ⟨a,b,c,(f 0).trans (h.fz 0 (by decide)),(f 1).trans (h.fz 1 (by decide)),(f 2).trans (h.fz 2 (by decide)),Nat.lt_of_lt_of_le h.lt d.size⟩

set_option maxRecDepth 100000 in
set_option maxHeartbeats 64000000 in
theorem four_any (g_a:Bool) (x_a y_a:List Nat) (g_b:Bool) (x_b y_b:List Nat) (a_x:Option Addr) (n_x c_x:Nat) (b_x:Option Addr) (m_x d_x:Nat) (a_y:Option Addr) (n_y c_y:Nat) (b_y:Option Addr) (m_y d_y:Nat) (a_a:Option Addr) (n_a c_a:Nat) (b_a:Option Addr) (m_a d_a:Nat) (a_b:Option Addr) (n_b c_b:Nat) (b_b:Option Addr) (m_b d_b:Nat) (w:World) (ox_a:Ok x_a) (oy_a:Ok y_a) (ox_b:Ok x_b) (oy_b:Ok y_b) (hx_x:Sl w a_x n_x c_x x_a) (hy_x:Sl w b_x m_x d_x y_a) (hx_y:Sl w a_y n_y c_y x_b) (hy_y:Sl w b_y m_y d_y y_b) (hx_a:Sl w a_a n_a c_a x_a) (hy_a:Sl w b_a m_a d_a y_a) (hx_b:Sl w a_b n_b c_b x_b) (hy_b:Sl w b_b m_b d_b y_b) (hT:Tab64 w) (nb1:a_b = none → c_b = 0) (nb2:b_b = none → d_b = 0) :
  Calls Tryz.prog 9 #[ratV g_a a_x n_x c_x b_x m_x d_x,ratV g_b a_y n_y c_y b_y m_y d_y,ratV g_a a_a n_a c_a b_a m_a d_a,ratV g_b a_b n_b c_b b_b m_b d_b] w fun e w' => e = .returned (.bool true) ∧ Below w.heap.size w w':=by
 have A00:Fcts w w [fTab]:=⟨Below.refl _ _,fun f hf => by simp at hf; subst hf; exact hT⟩
 have A01:=A00.add (fN a_x n_x c_x x_a b_x m_x d_x y_a) ⟨hx_x,hy_x⟩
 have A02:=A01.add (fN a_y n_y c_y x_b b_y m_y d_y y_b) ⟨hx_y,hy_y⟩
 have A03:=A02.add (fN a_a n_a c_a x_a b_a m_a d_a y_a) ⟨hx_a,hy_a⟩
 have A04:=A03.add (fN a_b n_b c_b x_b b_b m_b d_b y_b) ⟨hx_b,hy_b⟩
 have O_a:=Hd (And.intro ox_a oy_a)
 have O_b:=Hd (And.intro ox_b oy_b)
 have O_x:=O_a
 have O_y:=O_b
 have A0:=Hd A04
 have NB:=Hd (And.intro nb1 nb2)
 clear nb1 nb2
 obtain ⟨⟨⟨g_s,x_s,y_s⟩,e_s⟩,hs⟩:∃ r,AddF g_a x_a y_a g_b x_b y_b = r:=⟨_,rfl⟩
 have Hs:=Hd hs
 clear hs
 obtain ⟨⟨⟨g_t,x_t,y_t⟩,e_t⟩,ht⟩:∃ r,SubF g_a x_a y_a g_b x_b y_b = r:=⟨_,rfl⟩
 have Ht:=Hd ht
 clear ht
 obtain ⟨⟨⟨g_u,x_u,y_u⟩,e_u⟩,hu⟩:∃ r,MulF g_a x_a y_a g_b x_b y_b = r:=⟨_,rfl⟩
 have Hu:=Hd hu
 clear hu
 obtain ⟨⟨⟨g_z,x_z,y_z⟩,e_z⟩,hz⟩:∃ r,DivF g_a x_a y_a g_b x_b y_b = r:=⟨_,rfl⟩
 have Hz:=Hd hz
 clear hz
 obtain ⟨MM,hMM⟩:∃ r,MayR g_a x_a y_a = r:=⟨_,rfl⟩
 have HMM:=Hd hMM
 obtain ⟨SS,hSS⟩:∃ r,SignF g_a x_a y_a = r:=⟨_,rfl⟩
 have HSS:=Hd hSS
 obtain ⟨CC,hCC⟩:∃ r,CmpF g_a x_a y_a g_b x_b y_b = r:=⟨_,rfl⟩
 have HCC:=Hd hCC
 clear hMM hSS hCC
 have tm:(MM != MM) = false:=by simp
 have tS:(SS != SS) = false:=by simp
 have tC:(CC != CC) = false:=by simp
 clear A00 hT hx_x hy_x A01 hx_y hy_y A02 hx_a hy_a A03 hx_b hy_b A04 ox_a oy_a ox_b oy_b
 unfold ratV
 obtain ⟨w1,hw1⟩:∃ x,w.alloc (.cells #[.bool g_a,.slice a_x n_x c_x,.slice b_x m_x d_x] 25) = x:=⟨_,rfl⟩
 have Aw1:=Hd ((Uh A0).box (.bool g_a) (.slice a_x n_x c_x) (.slice b_x m_x d_x) 25)
 rw [hw1] at Aw1
 clear A0
 obtain ⟨w2,hw2⟩:∃ x,w1.alloc (.cells #[.bool g_b,.slice a_y n_y c_y,.slice b_y m_y d_y] 25) = x:=⟨_,rfl⟩
 have Aw2:=Hd ((Uh Aw1).box (.bool g_b) (.slice a_y n_y c_y) (.slice b_y m_y d_y) 25)
 rw [hw2] at Aw2
 clear Aw1
 obtain ⟨w3,hw3⟩:∃ x,w2.alloc (.cells #[.bool g_a,.slice a_a n_a c_a,.slice b_a m_a d_a] 25) = x:=⟨_,rfl⟩
 have Aw3:=Hd ((Uh Aw2).box (.bool g_a) (.slice a_a n_a c_a) (.slice b_a m_a d_a) 25)
 rw [hw3] at Aw3
 clear Aw2
 obtain ⟨w4,hw4⟩:∃ x,w3.alloc (.cells #[.bool g_b,.slice a_b n_b c_b,.slice b_b m_b d_b] 25) = x:=⟨_,rfl⟩
 have Aw4:=Hd ((Uh Aw3).box (.bool g_b) (.slice a_b n_b c_b) (.slice b_b m_b d_b) 25)
 rw [hw4] at Aw4
 clear Aw3
 go_enter Tryz.func9,Tryz.ntmps9
 have t5:=(Uh Aw4).r (w.heap.size) (.bool g_a) (.slice a_x n_x c_x) (.slice b_x m_x d_x) (.tail _ (.tail _ (.tail _ (.head _))))
 have t5a:=t5.c0
 have t5b:=t5.c1
 have t5c:=t5.c2
 clear t5
 have t6:=(Uh Aw4).r (w1.heap.size) (.bool g_b) (.slice a_y n_y c_y) (.slice b_y m_y d_y) (.tail _ (.tail _ (.head _)))
 have t6a:=t6.c0
 have t6b:=t6.c1
 have t6c:=t6.c2
 clear t6
 have t7:=(Uh Aw4).r (w2.heap.size) (.bool g_a) (.slice a_a n_a c_a) (.slice b_a m_a d_a) (.tail _ (.head _))
 have t7a:=t7.c0
 have t7b:=t7.c1
 have t7c:=t7.c2
 clear t7
 have t8:=(Uh Aw4).r (w3.heap.size) (.bool g_b) (.slice a_b n_b c_b) (.slice b_b m_b d_b) (.head _)
 have t8a:=t8.c0
 have t8b:=t8.c1
 have t8c:=t8.c2
 clear t8
 have AX:=Hd (fun x:Ext w4 => (Uh Aw4).step x.bel)
 have hNE:=Ext.ne w4
 have Ft5a:=fun x:Ext w4 => x.cell t5a
 have Ft5b:=fun x:Ext w4 => x.cell t5b
 have Ft5c:=fun x:Ext w4 => x.cell t5c
 have Ft6a:=fun x:Ext w4 => x.cell t6a
 have Ft6b:=fun x:Ext w4 => x.cell t6b
 have Ft6c:=fun x:Ext w4 => x.cell t6c
 have Ft7a:=fun x:Ext w4 => x.cell t7a
 have Ft7b:=fun x:Ext w4 => x.cell t7b
 have Ft7c:=fun x:Ext w4 => x.cell t7c
 have Ft8a:=fun x:Ext w4 => x.cell t8a
 have Ft8b:=fun x:Ext w4 => x.cell t8b
 have Ft8c:=fun x:Ext w4 => x.cell t8c
 have K:=fun x:Ext w4 => ratMay_any g_a (a_x) (b_x) n_x c_x m_x d_x (x_a) (y_a)  x.w ((Uh AX x).n (a_x) n_x c_x (x_a) (b_x) m_x d_x (y_a) (.tail _ (.tail _ (.tail _ (.tail _ (.tail _ (.tail _ (.tail _ (.head _))))))))).num ((Uh AX x).n (a_x) n_x c_x (x_a) (b_x) m_x d_x (y_a) (.tail _ (.tail _ (.tail _ (.tail _ (.tail _ (.tail _ (.tail _ (.head _))))))))).den (Uh O_x).1 (Uh O_x).2 ((Uh AX x).tab (.tail _ (.tail _ (.tail _ (.tail _ (.tail _ (.tail _ (.tail _ (.tail _ (.head _))))))))))
 rw [Uh HMM] at K
 try unfold ratV at K
 have HK0:=Hd K
 clear K
 have K:=fun x:Ext w4 => wmay_any g_a (a_a) (b_a) n_a c_a m_a d_a (x_a) (y_a)  x.w ((Uh AX x).n (a_a) n_a c_a (x_a) (b_a) m_a d_a (y_a) (.tail _ (.tail _ (.tail _ (.tail _ (.tail _ (.head _))))))).num ((Uh AX x).n (a_a) n_a c_a (x_a) (b_a) m_a d_a (y_a) (.tail _ (.tail _ (.tail _ (.tail _ (.tail _ (.head _))))))).den (Uh O_a).1 (Uh O_a).2
 rw [Uh HMM] at K
 try unfold ratV at K
 have HK1:=Hd K
 clear K
 have K:=fun x:Ext w4 => ratSign_any g_a (a_x) (b_x) n_x c_x m_x d_x (x_a) (y_a)  x.w ((Uh AX x).n (a_x) n_x c_x (x_a) (b_x) m_x d_x (y_a) (.tail _ (.tail _ (.tail _ (.tail _ (.tail _ (.tail _ (.tail _ (.head _))))))))).num ((Uh AX x).n (a_x) n_x c_x (x_a) (b_x) m_x d_x (y_a) (.tail _ (.tail _ (.tail _ (.tail _ (.tail _ (.tail _ (.tail _ (.head _))))))))).den (Uh O_x).1 (Uh O_x).2 ((Uh AX x).tab (.tail _ (.tail _ (.tail _ (.tail _ (.tail _ (.tail _ (.tail _ (.tail _ (.head _))))))))))
 rw [Uh HSS] at K
 try unfold ratV at K
 have HK2:=Hd K
 clear K
 have K:=fun x:Ext w4 => wSign_any g_a (a_a) (b_a) n_a c_a m_a d_a (x_a) (y_a)  x.w ((Uh AX x).n (a_a) n_a c_a (x_a) (b_a) m_a d_a (y_a) (.tail _ (.tail _ (.tail _ (.tail _ (.tail _ (.head _))))))).num ((Uh AX x).n (a_a) n_a c_a (x_a) (b_a) m_a d_a (y_a) (.tail _ (.tail _ (.tail _ (.tail _ (.tail _ (.head _))))))).den (Uh O_a).1 (Uh O_a).2
 rw [Uh HSS] at K
 try unfold ratV at K
 have HK3:=Hd K
 clear K
 have K:=fun x:Ext w4 => ratCmp_any g_a g_b (a_x) (b_x) (a_y) (b_y) n_x c_x m_x d_x n_y c_y m_y d_y (x_a) (y_a) (x_b) (y_b) x.w ((Uh AX x).n (a_x) n_x c_x (x_a) (b_x) m_x d_x (y_a) (.tail _ (.tail _ (.tail _ (.tail _ (.tail _ (.tail _ (.tail _ (.head _))))))))).num ((Uh AX x).n (a_x) n_x c_x (x_a) (b_x) m_x d_x (y_a) (.tail _ (.tail _ (.tail _ (.tail _ (.tail _ (.tail _ (.tail _ (.head _))))))))).den ((Uh AX x).n (a_y) n_y c_y (x_b) (b_y) m_y d_y (y_b) (.tail _ (.tail _ (.tail _ (.tail _ (.tail _ (.tail _ (.head _)))))))).num ((Uh AX x).n (a_y) n_y c_y (x_b) (b_y) m_y d_y (y_b) (.tail _ (.tail _ (.tail _ (.tail _ (.tail _ (.tail _ (.head _)))))))).den (Uh O_x).1 (Uh O_x).2 (Uh O_y).1 (Uh O_y).2 ((Uh AX x).tab (.tail _ (.tail _ (.tail _ (.tail _ (.tail _ (.tail _ (.tail _ (.tail _ (.head _))))))))))
 rw [Uh HCC] at K
 try unfold ratV at K
 have HK4:=Hd K
 clear K
 have K:=fun x:Ext w4 => wCmp_any g_a g_b (a_a) (b_a) (a_b) (b_b) n_a c_a m_a d_a n_b c_b m_b d_b (x_a) (y_a) (x_b) (y_b) x.w ((Uh AX x).n (a_a) n_a c_a (x_a) (b_a) m_a d_a (y_a) (.tail _ (.tail _ (.tail _ (.tail _ (.tail _ (.head _))))))).num ((Uh AX x).n (a_a) n_a c_a (x_a) (b_a) m_a d_a (y_a) (.tail _ (.tail _ (.tail _ (.tail _ (.tail _ (.head _))))))).den ((Uh AX x).n (a_b) n_b c_b (x_b) (b_b) m_b d_b (y_b) (.tail _ (.tail _ (.tail _ (.tail _ (.head _)))))).num ((Uh AX x).n (a_b) n_b c_b (x_b) (b_b) m_b d_b (y_b) (.tail _ (.tail _ (.tail _ (.tail _ (.head _)))))).den (Uh O_a).1 (Uh O_a).2 (Uh O_b).1 (Uh O_b).2
 rw [Uh HCC] at K
 try unfold ratV at K
 have HK5:=Hd K
 clear K
 try go_wp2_with fail
 clear t5a t5b t5c t6a t6b t6c t7a t7b t7c t8a t8b t8c
 refine wp_region_ext (by kernel_rfl) (by kernel_rfl) ?_
 repeat (go_big_quiet_step (first
  | (go_at_call 32; rename_i x; exact Ext.call (Uh HK0 x) (fun e w' h => h))
  | (go_at_call 34; rename_i x; exact Ext.call (Uh HK1 x) (fun e w' h => h))
  | (go_at_call 35; rename_i x; exact Ext.call (Uh HK2 x) (fun e w' h => h))
  | (go_at_call 36; rename_i x; exact Ext.call (Uh HK3 x) (fun e w' h => h))
  | (go_at_call 33; rename_i x; exact Ext.call (Uh HK4 x) (fun e w' h => h))
  | (go_at_call 37; rename_i x; exact Ext.call (Uh HK5 x) (fun e w' h => h))))
 refine wpQuiet_nil ?_
 rintro _ ⟨xE,rfl⟩
 have AE:=Hd (Uh AX xE)
 clear AX Aw4 Ft5a Ft5b Ft5c Ft6a Ft6b Ft6c Ft7a Ft7b Ft7c Ft8a Ft8b Ft8c HK0 HK1 HK2 HK3 HK4 HK5 hNE
 obtain ⟨wE,hwE⟩:∃ x,x = xE.w:=⟨_,rfl⟩
 rw [← hwE] at AE ⊢
 clear hwE
 have AB:=AE
 obtain ⟨wB,hwB⟩:∃ x,wE = x:=⟨_,rfl⟩
 clear hwB
 have HBW:=Hd (Below.refl wE.heap.size wE)
 have AC0a:=Hd ((Uh AB).step (Uh HBW))
 have t9:=(Uh AC0a).r (w.heap.size) (.bool g_a) (.slice a_x n_x c_x) (.slice b_x m_x d_x) (.tail _ (.tail _ (.tail _ (.head _))))
 have t9a:=t9.c0
 have t9b:=t9.c1
 have t9c:=t9.c2
 clear t9
 have t10:=(Uh AC0a).r (w1.heap.size) (.bool g_b) (.slice a_y n_y c_y) (.slice b_y m_y d_y) (.tail _ (.tail _ (.head _)))
 have t10a:=t10.c0
 have t10b:=t10.c1
 have t10c:=t10.c2
 clear t10
 go_wp2_with fail
 clear t9a t9b t9c t10a t10b t10c
 have K:=ratAdd_any g_a g_b (a_x) (b_x) (a_y) (b_y) n_x c_x m_x d_x n_y c_y m_y d_y (x_a) (y_a) (x_b) (y_b) wE ((Uh AC0a).n (a_x) n_x c_x (x_a) (b_x) m_x d_x (y_a) (.tail _ (.tail _ (.tail _ (.tail _ (.tail _ (.tail _ (.tail _ (.head _))))))))).num ((Uh AC0a).n (a_x) n_x c_x (x_a) (b_x) m_x d_x (y_a) (.tail _ (.tail _ (.tail _ (.tail _ (.tail _ (.tail _ (.tail _ (.head _))))))))).den ((Uh AC0a).n (a_y) n_y c_y (x_b) (b_y) m_y d_y (y_b) (.tail _ (.tail _ (.tail _ (.tail _ (.tail _ (.tail _ (.head _)))))))).num ((Uh AC0a).n (a_y) n_y c_y (x_b) (b_y) m_y d_y (y_b) (.tail _ (.tail _ (.tail _ (.tail _ (.tail _ (.tail _ (.head _)))))))).den (Uh O_x).1 (Uh O_x).2 (Uh O_y).1 (Uh O_y).2 ((Uh AC0a).tab (.tail _ (.tail _ (.tail _ (.tail _ (.tail _ (.tail _ (.tail _ (.tail _ (.head _))))))))))
 rw [Uh Hs] at K
 try unfold ResF at K
 try dsimp only at K
 unfold ratV at K
 refine K.mono ?_
 clear K
 rintro _ W01 ⟨v,rfl,ar0,nr0,cr0,br0,mr0,dr0,rfl,sx,sy,nx,ny,hb⟩
 try dsimp only at sx sy
 unfold ratV
 have hB1:=(Uh HBW).trans (hb.mono (Uh HBW).size)
 obtain ⟨W02,hW02⟩:∃ x,W01.alloc (.cells #[.bool g_s,.slice ar0 nr0 cr0,.slice br0 mr0 dr0] 25) = x:=⟨_,rfl⟩
 have hal:Below W01.heap.size W01 W02:=by rw [← hW02]; exact bAl
 have TR0:=Hd (show Tri W02 W01.heap.size (.bool g_s) (.slice ar0 nr0 cr0) (.slice br0 mr0 dr0) by rw [← hW02]; exact Tri.made _ _ _ _ _)
 have RBr:=Hd (show wE.heap.size ≤ W01.heap.size from hB1.size)
 have HB02:=Hd (hB1.trans (hal.mono hB1.size))
 have LR0:=Hd (And.intro (sx.below hal) (And.intro (sy.below hal) (And.intro (show NewAt wE.heap.size ar0 from nx) (show NewAt wE.heap.size br0 from ny))))
 clear sx sy nx ny hb hal hB1
 have AC0b:=Hd ((Uh AB).step (Uh HB02))
 have t11:=(Uh AC0b).r (w2.heap.size) (.bool g_a) (.slice a_a n_a c_a) (.slice b_a m_a d_a) (.tail _ (.head _))
 have t11a:=t11.c0
 have t11b:=t11.c1
 have t11c:=t11.c2
 clear t11
 have t12:=(Uh AC0b).r (w3.heap.size) (.bool g_b) (.slice a_b n_b c_b) (.slice b_b m_b d_b) (.head _)
 have t12a:=t12.c0
 have t12b:=t12.c1
 have t12c:=t12.c2
 clear t12
 go_wp2_with fail
 clear t11a t11b t11c t12a t12b t12c
 have K:=wAdd_any g_a g_b (a_a) (b_a) (a_b) (b_b) n_a c_a m_a d_a n_b c_b m_b d_b (x_a) (y_a) (x_b) (y_b) W02 ((Uh AC0b).n (a_a) n_a c_a (x_a) (b_a) m_a d_a (y_a) (.tail _ (.tail _ (.tail _ (.tail _ (.tail _ (.head _))))))).num ((Uh AC0b).n (a_a) n_a c_a (x_a) (b_a) m_a d_a (y_a) (.tail _ (.tail _ (.tail _ (.tail _ (.tail _ (.head _))))))).den ((Uh AC0b).n (a_b) n_b c_b (x_b) (b_b) m_b d_b (y_b) (.tail _ (.tail _ (.tail _ (.tail _ (.head _)))))).num ((Uh AC0b).n (a_b) n_b c_b (x_b) (b_b) m_b d_b (y_b) (.tail _ (.tail _ (.tail _ (.tail _ (.head _)))))).den (Uh O_a).1 (Uh O_a).2 (Uh O_b).1 (Uh O_b).2
 rw [Uh Hs] at K
 try unfold ResF at K
 try dsimp only at K
 unfold ratV at K
 refine K.mono ?_
 clear K
 rintro _ W03 ⟨v,rfl,as0,ns0,cs0,bs0,ms0,ds0,rfl,sx,sy,nx,ny,hb⟩
 try dsimp only at sx sy
 unfold ratV
 have hB3:=(Uh HB02).trans (hb.mono (Uh HB02).size)
 have tr:=(Uh TR0).keep hb
 obtain ⟨W04,hW04⟩:∃ x,W03.alloc (.cells #[.bool g_s,.slice as0 ns0 cs0,.slice bs0 ms0 ds0] 25) = x:=⟨_,rfl⟩
 have hal:Below W03.heap.size W03 W04:=by rw [← hW04]; exact bAl
 have TS0:=Hd (show Tri W04 W03.heap.size (.bool g_s) (.slice as0 ns0 cs0) (.slice bs0 ms0 ds0) by rw [← hW04]; exact Tri.made _ _ _ _ _)
 have RBs:=Hd (show wE.heap.size ≤ W03.heap.size from hB3.size)
 have RNE:=Hd (show W01.heap.size ≠ W03.heap.size from Nat.ne_of_lt tr.lt)
 have TQ0:=Hd (tr.keep hal)
 have HB04:=Hd (hB3.trans (hal.mono hB3.size))
 have LS0:=Hd (And.intro (((Uh LR0).1.below hb).below hal) (And.intro (((Uh LR0).2.1.below hb).below hal) (And.intro (sx.below hal) (sy.below hal))))
 clear sx sy nx ny hb hal hB3 tr TR0 LR0
 have tq:=Uh TQ0
 have ts:=Uh TS0
 have tq0:=tq.c0
 have ts0:=ts.c0
 have tq1:=tq.c1
 have ts1:=ts.c1
 have tq2:=tq.c2
 have ts2:=ts.c2
 clear tq ts
 go_wp2_with fail
 clear tq0 tq1 tq2 ts0 ts1 ts2
 have K:=like_any g_s ar0 br0 as0 bs0 nr0 cr0 mr0 dr0 ns0 cs0 ms0 ds0 x_s y_s e_s W04 (Uh LS0).1 (Uh LS0).2.1 (Uh LS0).2.2.1 (Uh LS0).2.2.2
 unfold ratV at K
 refine K.mono ?_
 clear K
 rintro _ W05 ⟨rfl,hb⟩
 have HB05:=Hd ((Uh HB04).trans (hb.mono (Uh HB04).size))
 have OR:=Hd ((Uh TQ0).out.keep hb)
 have OS:=Hd ((Uh TS0).out.keep hb)
 clear hb TQ0 TS0 LS0 HB02 HB04  AC0a AC0b
 have AC1a:=Hd ((Uh AB).step (Uh HB05))
 have t13:=(Uh AC1a).r (w.heap.size) (.bool g_a) (.slice a_x n_x c_x) (.slice b_x m_x d_x) (.tail _ (.tail _ (.tail _ (.head _))))
 have t13a:=t13.c0
 have t13b:=t13.c1
 have t13c:=t13.c2
 clear t13
 have t14:=(Uh AC1a).r (w1.heap.size) (.bool g_b) (.slice a_y n_y c_y) (.slice b_y m_y d_y) (.tail _ (.tail _ (.head _)))
 have t14a:=t14.c0
 have t14b:=t14.c1
 have t14c:=t14.c2
 clear t14
 go_wp2_with fail
 clear t13a t13b t13c t14a t14b t14c
 have K:=ratSub_any g_a g_b (a_x) (b_x) (a_y) (b_y) n_x c_x m_x d_x n_y c_y m_y d_y (x_a) (y_a) (x_b) (y_b) W05 ((Uh AC1a).n (a_x) n_x c_x (x_a) (b_x) m_x d_x (y_a) (.tail _ (.tail _ (.tail _ (.tail _ (.tail _ (.tail _ (.tail _ (.head _))))))))).num ((Uh AC1a).n (a_x) n_x c_x (x_a) (b_x) m_x d_x (y_a) (.tail _ (.tail _ (.tail _ (.tail _ (.tail _ (.tail _ (.tail _ (.head _))))))))).den ((Uh AC1a).n (a_y) n_y c_y (x_b) (b_y) m_y d_y (y_b) (.tail _ (.tail _ (.tail _ (.tail _ (.tail _ (.tail _ (.head _)))))))).num ((Uh AC1a).n (a_y) n_y c_y (x_b) (b_y) m_y d_y (y_b) (.tail _ (.tail _ (.tail _ (.tail _ (.tail _ (.tail _ (.head _)))))))).den (Uh O_x).1 (Uh O_x).2 (Uh O_y).1 (Uh O_y).2 ((Uh AC1a).tab (.tail _ (.tail _ (.tail _ (.tail _ (.tail _ (.tail _ (.tail _ (.tail _ (.head _))))))))))
 rw [Uh Ht] at K
 try unfold ResF at K
 try dsimp only at K
 unfold ratV at K
 refine K.mono ?_
 clear K
 rintro _ W11 ⟨v,rfl,ar1,nr1,cr1,br1,mr1,dr1,rfl,sx,sy,nx,ny,hb⟩
 try dsimp only at sx sy
 unfold ratV
 have hB1:=(Uh HB05).trans (hb.mono (Uh HB05).size)
 have tx:=(Uh OR).keep hb
 have ty:=(Uh OS).keep hb
 have c4:=three_set W11 (W01.heap.size) (.bool g_t) (.slice ar1 nr1 cr1) (.slice br1 mr1 dr1) tx.cells
 have TR1:=Hd (tri_set tx (.bool g_t) (.slice ar1 nr1 cr1) (.slice br1 mr1 dr1))
 have OS2:=Hd (ty.chgW c4.2.2.2 (fun h => Uh RNE h.symm))
 have hlR:=(Uh OR).lt
 have HlS:=Hd (Uh OS).lt
 have HB12:=Hd (hB1.trans (c4.2.2.2.below hB1.size (fun k hk h => by have:=Uh RBr; omega)))
 have LR1:=Hd (show Sl (((W11.setCell ⟨W01.heap.size,0,none⟩ (.bool g_t)).setCell ⟨W01.heap.size,1,none⟩ (.slice ar1 nr1 cr1)).setCell ⟨W01.heap.size,2,none⟩ (.slice br1 mr1 dr1)) ar1 nr1 cr1 x_t ∧ Sl (((W11.setCell ⟨W01.heap.size,0,none⟩ (.bool g_t)).setCell ⟨W01.heap.size,1,none⟩ (.slice ar1 nr1 cr1)).setCell ⟨W01.heap.size,2,none⟩ (.slice br1 mr1 dr1)) br1 mr1 dr1 y_t ∧ NewAt W05.heap.size ar1 ∧ NewAt W05.heap.size br1 from ⟨sx.chg c4.2.2.2 (fun p hp _ h => by have:=nx p hp; omega),sy.chg c4.2.2.2 (fun p hp _ h => by have:=ny p hp; omega),nx,ny⟩)
 obtain ⟨z0,q0⟩:=tx.cells 0 (by decide)
 obtain ⟨z1,q1⟩:=tx.cells 1 (by decide)
 obtain ⟨z2,q2⟩:=tx.cells 2 (by decide)
 have r0:=tx.fz 0 (by decide)
 have r1:=tx.fz 1 (by decide)
 have r2:=tx.fz 2 (by decide)
 clear sx sy nx ny hb hB1 c4 tx ty hlR OR OS
 have AC1b:=Hd ((Uh AB).step (Uh HB12))
 have t15:=(Uh AC1b).r (w2.heap.size) (.bool g_a) (.slice a_a n_a c_a) (.slice b_a m_a d_a) (.tail _ (.head _))
 have t15a:=t15.c0
 have t15b:=t15.c1
 have t15c:=t15.c2
 clear t15
 have t16:=(Uh AC1b).r (w3.heap.size) (.bool g_b) (.slice a_b n_b c_b) (.slice b_b m_b d_b) (.head _)
 have t16a:=t16.c0
 have t16b:=t16.c1
 have t16c:=t16.c2
 clear t16
 go_wp2_with fail
 clear t15a t15b t15c t16a t16b t16c q0 q1 q2 r0 r1 r2
 generalize ((W11.setCell ⟨W01.heap.size,0,none⟩ (.bool g_t)).setCell ⟨W01.heap.size,1,none⟩ (.slice ar1 nr1 cr1)).setCell ⟨W01.heap.size,2,none⟩ (.slice br1 mr1 dr1) = W12 at *
 have K:=wSub_any g_a g_b (a_a) (b_a) (a_b) (b_b) n_a c_a m_a d_a n_b c_b m_b d_b (x_a) (y_a) (x_b) (y_b) W12 ((Uh AC1b).n (a_a) n_a c_a (x_a) (b_a) m_a d_a (y_a) (.tail _ (.tail _ (.tail _ (.tail _ (.tail _ (.head _))))))).num ((Uh AC1b).n (a_a) n_a c_a (x_a) (b_a) m_a d_a (y_a) (.tail _ (.tail _ (.tail _ (.tail _ (.tail _ (.head _))))))).den ((Uh AC1b).n (a_b) n_b c_b (x_b) (b_b) m_b d_b (y_b) (.tail _ (.tail _ (.tail _ (.tail _ (.head _)))))).num ((Uh AC1b).n (a_b) n_b c_b (x_b) (b_b) m_b d_b (y_b) (.tail _ (.tail _ (.tail _ (.tail _ (.head _)))))).den (Uh O_a).1 (Uh O_a).2 (Uh O_b).1 (Uh O_b).2 (Uh NB).1 (Uh NB).2
 rw [Uh Ht] at K
 try unfold ResF at K
 try dsimp only at K
 unfold ratV at K
 refine K.mono ?_
 clear K
 rintro _ W13 ⟨v,rfl,as1,ns1,cs1,bs1,ms1,ds1,rfl,sx,sy,nx,ny,hb⟩
 try dsimp only at sx sy
 unfold ratV
 have hB3:=(Uh HB12).trans (hb.mono (Uh HB12).size)
 have tr:=(Uh TR1).keep hb
 have tx:=(Uh OS2).keep hb
 have c4:=three_set W13 (W03.heap.size) (.bool g_t) (.slice as1 ns1 cs1) (.slice bs1 ms1 ds1) tx.cells
 have TS1:=Hd (tri_set tx (.bool g_t) (.slice as1 ns1 cs1) (.slice bs1 ms1 ds1))
 have TQ1:=Hd (tr.chgW c4.2.2.2 (fun h => Uh RNE h))
 have HB14:=Hd (hB3.trans (c4.2.2.2.below hB3.size (fun k hk h => by have:=Uh RBs; omega)))
 have hl2:=(Uh OS2).lt
 have hlS:=Uh HlS
 have LS1:=Hd (show Sl (((W13.setCell ⟨W03.heap.size,0,none⟩ (.bool g_t)).setCell ⟨W03.heap.size,1,none⟩ (.slice as1 ns1 cs1)).setCell ⟨W03.heap.size,2,none⟩ (.slice bs1 ms1 ds1)) ar1 nr1 cr1 x_t ∧ Sl (((W13.setCell ⟨W03.heap.size,0,none⟩ (.bool g_t)).setCell ⟨W03.heap.size,1,none⟩ (.slice as1 ns1 cs1)).setCell ⟨W03.heap.size,2,none⟩ (.slice bs1 ms1 ds1)) br1 mr1 dr1 y_t ∧ Sl (((W13.setCell ⟨W03.heap.size,0,none⟩ (.bool g_t)).setCell ⟨W03.heap.size,1,none⟩ (.slice as1 ns1 cs1)).setCell ⟨W03.heap.size,2,none⟩ (.slice bs1 ms1 ds1)) as1 ns1 cs1 x_t ∧ Sl (((W13.setCell ⟨W03.heap.size,0,none⟩ (.bool g_t)).setCell ⟨W03.heap.size,1,none⟩ (.slice as1 ns1 cs1)).setCell ⟨W03.heap.size,2,none⟩ (.slice bs1 ms1 ds1)) bs1 ms1 ds1 y_t from ⟨((Uh LR1).1.below hb).chg c4.2.2.2 (fun p hp _ h => by have:=(Uh LR1).2.2.1 p hp; omega),((Uh LR1).2.1.below hb).chg c4.2.2.2 (fun p hp _ h => by have:=(Uh LR1).2.2.2 p hp; omega),sx.chg c4.2.2.2 (fun p hp _ h => by have:=nx p hp; omega),sy.chg c4.2.2.2 (fun p hp _ h => by have:=ny p hp; omega)⟩)
 obtain ⟨z0,q0⟩:=tx.cells 0 (by decide)
 obtain ⟨z1,q1⟩:=tx.cells 1 (by decide)
 obtain ⟨z2,q2⟩:=tx.cells 2 (by decide)
 have r0:=tx.fz 0 (by decide)
 have r1:=tx.fz 1 (by decide)
 have r2:=tx.fz 2 (by decide)
 clear sx sy nx ny hb hB3 c4 tx hl2 hlS tr TR1 LR1 OS2 HlS
 have tq:=Uh TQ1
 have ts:=Uh TS1
 have tq0:=tq.c0
 have ts0:=ts.c0
 have tq1:=tq.c1
 have ts1:=ts.c1
 have tq2:=tq.c2
 have ts2:=ts.c2
 clear tq ts
 go_wp2_with fail
 clear tq0 tq1 tq2 ts0 ts1 ts2 q0 q1 q2 r0 r1 r2
 generalize ((W13.setCell ⟨W03.heap.size,0,none⟩ (.bool g_t)).setCell ⟨W03.heap.size,1,none⟩ (.slice as1 ns1 cs1)).setCell ⟨W03.heap.size,2,none⟩ (.slice bs1 ms1 ds1) = W14 at *
 have K:=like_any g_t ar1 br1 as1 bs1 nr1 cr1 mr1 dr1 ns1 cs1 ms1 ds1 x_t y_t e_t W14 (Uh LS1).1 (Uh LS1).2.1 (Uh LS1).2.2.1 (Uh LS1).2.2.2
 unfold ratV at K
 refine K.mono ?_
 clear K
 rintro _ W15 ⟨rfl,hb⟩
 have HB15:=Hd ((Uh HB14).trans (hb.mono (Uh HB14).size))
 have OR:=Hd ((Uh TQ1).out.keep hb)
 have OS:=Hd ((Uh TS1).out.keep hb)
 clear hb TQ1 TS1 LS1 HB12 HB14 HB05 AC1a AC1b
 have AC2a:=Hd ((Uh AB).step (Uh HB15))
 have t17:=(Uh AC2a).r (w.heap.size) (.bool g_a) (.slice a_x n_x c_x) (.slice b_x m_x d_x) (.tail _ (.tail _ (.tail _ (.head _))))
 have t17a:=t17.c0
 have t17b:=t17.c1
 have t17c:=t17.c2
 clear t17
 have t18:=(Uh AC2a).r (w1.heap.size) (.bool g_b) (.slice a_y n_y c_y) (.slice b_y m_y d_y) (.tail _ (.tail _ (.head _)))
 have t18a:=t18.c0
 have t18b:=t18.c1
 have t18c:=t18.c2
 clear t18
 go_wp2_with fail
 clear t17a t17b t17c t18a t18b t18c
 have K:=ratMul_any g_a g_b (a_x) (b_x) (a_y) (b_y) n_x c_x m_x d_x n_y c_y m_y d_y (x_a) (y_a) (x_b) (y_b) W15 ((Uh AC2a).n (a_x) n_x c_x (x_a) (b_x) m_x d_x (y_a) (.tail _ (.tail _ (.tail _ (.tail _ (.tail _ (.tail _ (.tail _ (.head _))))))))).num ((Uh AC2a).n (a_x) n_x c_x (x_a) (b_x) m_x d_x (y_a) (.tail _ (.tail _ (.tail _ (.tail _ (.tail _ (.tail _ (.tail _ (.head _))))))))).den ((Uh AC2a).n (a_y) n_y c_y (x_b) (b_y) m_y d_y (y_b) (.tail _ (.tail _ (.tail _ (.tail _ (.tail _ (.tail _ (.head _)))))))).num ((Uh AC2a).n (a_y) n_y c_y (x_b) (b_y) m_y d_y (y_b) (.tail _ (.tail _ (.tail _ (.tail _ (.tail _ (.tail _ (.head _)))))))).den (Uh O_x).1 (Uh O_x).2 (Uh O_y).1 (Uh O_y).2 ((Uh AC2a).tab (.tail _ (.tail _ (.tail _ (.tail _ (.tail _ (.tail _ (.tail _ (.tail _ (.head _))))))))))
 rw [Uh Hu] at K
 try unfold ResF at K
 try dsimp only at K
 unfold ratV at K
 refine K.mono ?_
 clear K
 rintro _ W21 ⟨v,rfl,ar2,nr2,cr2,br2,mr2,dr2,rfl,sx,sy,nx,ny,hb⟩
 try dsimp only at sx sy
 unfold ratV
 have hB1:=(Uh HB15).trans (hb.mono (Uh HB15).size)
 have tx:=(Uh OR).keep hb
 have ty:=(Uh OS).keep hb
 have c4:=three_set W21 (W01.heap.size) (.bool g_u) (.slice ar2 nr2 cr2) (.slice br2 mr2 dr2) tx.cells
 have TR2:=Hd (tri_set tx (.bool g_u) (.slice ar2 nr2 cr2) (.slice br2 mr2 dr2))
 have OS2:=Hd (ty.chgW c4.2.2.2 (fun h => Uh RNE h.symm))
 have hlR:=(Uh OR).lt
 have HlS:=Hd (Uh OS).lt
 have HB22:=Hd (hB1.trans (c4.2.2.2.below hB1.size (fun k hk h => by have:=Uh RBr; omega)))
 have LR2:=Hd (show Sl (((W21.setCell ⟨W01.heap.size,0,none⟩ (.bool g_u)).setCell ⟨W01.heap.size,1,none⟩ (.slice ar2 nr2 cr2)).setCell ⟨W01.heap.size,2,none⟩ (.slice br2 mr2 dr2)) ar2 nr2 cr2 x_u ∧ Sl (((W21.setCell ⟨W01.heap.size,0,none⟩ (.bool g_u)).setCell ⟨W01.heap.size,1,none⟩ (.slice ar2 nr2 cr2)).setCell ⟨W01.heap.size,2,none⟩ (.slice br2 mr2 dr2)) br2 mr2 dr2 y_u ∧ NewAt W15.heap.size ar2 ∧ NewAt W15.heap.size br2 from ⟨sx.chg c4.2.2.2 (fun p hp _ h => by have:=nx p hp; omega),sy.chg c4.2.2.2 (fun p hp _ h => by have:=ny p hp; omega),nx,ny⟩)
 obtain ⟨z0,q0⟩:=tx.cells 0 (by decide)
 obtain ⟨z1,q1⟩:=tx.cells 1 (by decide)
 obtain ⟨z2,q2⟩:=tx.cells 2 (by decide)
 have r0:=tx.fz 0 (by decide)
 have r1:=tx.fz 1 (by decide)
 have r2:=tx.fz 2 (by decide)
 clear sx sy nx ny hb hB1 c4 tx ty hlR OR OS
 have AC2b:=Hd ((Uh AB).step (Uh HB22))
 have t19:=(Uh AC2b).r (w2.heap.size) (.bool g_a) (.slice a_a n_a c_a) (.slice b_a m_a d_a) (.tail _ (.head _))
 have t19a:=t19.c0
 have t19b:=t19.c1
 have t19c:=t19.c2
 clear t19
 have t20:=(Uh AC2b).r (w3.heap.size) (.bool g_b) (.slice a_b n_b c_b) (.slice b_b m_b d_b) (.head _)
 have t20a:=t20.c0
 have t20b:=t20.c1
 have t20c:=t20.c2
 clear t20
 go_wp2_with fail
 clear t19a t19b t19c t20a t20b t20c q0 q1 q2 r0 r1 r2
 generalize ((W21.setCell ⟨W01.heap.size,0,none⟩ (.bool g_u)).setCell ⟨W01.heap.size,1,none⟩ (.slice ar2 nr2 cr2)).setCell ⟨W01.heap.size,2,none⟩ (.slice br2 mr2 dr2) = W22 at *
 have K:=wMul_any g_a g_b (a_a) (b_a) (a_b) (b_b) n_a c_a m_a d_a n_b c_b m_b d_b (x_a) (y_a) (x_b) (y_b) W22 ((Uh AC2b).n (a_a) n_a c_a (x_a) (b_a) m_a d_a (y_a) (.tail _ (.tail _ (.tail _ (.tail _ (.tail _ (.head _))))))).num ((Uh AC2b).n (a_a) n_a c_a (x_a) (b_a) m_a d_a (y_a) (.tail _ (.tail _ (.tail _ (.tail _ (.tail _ (.head _))))))).den ((Uh AC2b).n (a_b) n_b c_b (x_b) (b_b) m_b d_b (y_b) (.tail _ (.tail _ (.tail _ (.tail _ (.head _)))))).num ((Uh AC2b).n (a_b) n_b c_b (x_b) (b_b) m_b d_b (y_b) (.tail _ (.tail _ (.tail _ (.tail _ (.head _)))))).den (Uh O_a).1 (Uh O_a).2 (Uh O_b).1 (Uh O_b).2
 rw [Uh Hu] at K
 try unfold ResF at K
 try dsimp only at K
 unfold ratV at K
 refine K.mono ?_
 clear K
 rintro _ W23 ⟨v,rfl,as2,ns2,cs2,bs2,ms2,ds2,rfl,sx,sy,nx,ny,hb⟩
 try dsimp only at sx sy
 unfold ratV
 have hB3:=(Uh HB22).trans (hb.mono (Uh HB22).size)
 have tr:=(Uh TR2).keep hb
 have tx:=(Uh OS2).keep hb
 have c4:=three_set W23 (W03.heap.size) (.bool g_u) (.slice as2 ns2 cs2) (.slice bs2 ms2 ds2) tx.cells
 have TS2:=Hd (tri_set tx (.bool g_u) (.slice as2 ns2 cs2) (.slice bs2 ms2 ds2))
 have TQ2:=Hd (tr.chgW c4.2.2.2 (fun h => Uh RNE h))
 have HB24:=Hd (hB3.trans (c4.2.2.2.below hB3.size (fun k hk h => by have:=Uh RBs; omega)))
 have hl2:=(Uh OS2).lt
 have hlS:=Uh HlS
 have LS2:=Hd (show Sl (((W23.setCell ⟨W03.heap.size,0,none⟩ (.bool g_u)).setCell ⟨W03.heap.size,1,none⟩ (.slice as2 ns2 cs2)).setCell ⟨W03.heap.size,2,none⟩ (.slice bs2 ms2 ds2)) ar2 nr2 cr2 x_u ∧ Sl (((W23.setCell ⟨W03.heap.size,0,none⟩ (.bool g_u)).setCell ⟨W03.heap.size,1,none⟩ (.slice as2 ns2 cs2)).setCell ⟨W03.heap.size,2,none⟩ (.slice bs2 ms2 ds2)) br2 mr2 dr2 y_u ∧ Sl (((W23.setCell ⟨W03.heap.size,0,none⟩ (.bool g_u)).setCell ⟨W03.heap.size,1,none⟩ (.slice as2 ns2 cs2)).setCell ⟨W03.heap.size,2,none⟩ (.slice bs2 ms2 ds2)) as2 ns2 cs2 x_u ∧ Sl (((W23.setCell ⟨W03.heap.size,0,none⟩ (.bool g_u)).setCell ⟨W03.heap.size,1,none⟩ (.slice as2 ns2 cs2)).setCell ⟨W03.heap.size,2,none⟩ (.slice bs2 ms2 ds2)) bs2 ms2 ds2 y_u from ⟨((Uh LR2).1.below hb).chg c4.2.2.2 (fun p hp _ h => by have:=(Uh LR2).2.2.1 p hp; omega),((Uh LR2).2.1.below hb).chg c4.2.2.2 (fun p hp _ h => by have:=(Uh LR2).2.2.2 p hp; omega),sx.chg c4.2.2.2 (fun p hp _ h => by have:=nx p hp; omega),sy.chg c4.2.2.2 (fun p hp _ h => by have:=ny p hp; omega)⟩)
 obtain ⟨z0,q0⟩:=tx.cells 0 (by decide)
 obtain ⟨z1,q1⟩:=tx.cells 1 (by decide)
 obtain ⟨z2,q2⟩:=tx.cells 2 (by decide)
 have r0:=tx.fz 0 (by decide)
 have r1:=tx.fz 1 (by decide)
 have r2:=tx.fz 2 (by decide)
 clear sx sy nx ny hb hB3 c4 tx hl2 hlS tr TR2 LR2 OS2 HlS
 have tq:=Uh TQ2
 have ts:=Uh TS2
 have tq0:=tq.c0
 have ts0:=ts.c0
 have tq1:=tq.c1
 have ts1:=ts.c1
 have tq2:=tq.c2
 have ts2:=ts.c2
 clear tq ts
 go_wp2_with fail
 clear tq0 tq1 tq2 ts0 ts1 ts2 q0 q1 q2 r0 r1 r2
 generalize ((W23.setCell ⟨W03.heap.size,0,none⟩ (.bool g_u)).setCell ⟨W03.heap.size,1,none⟩ (.slice as2 ns2 cs2)).setCell ⟨W03.heap.size,2,none⟩ (.slice bs2 ms2 ds2) = W24 at *
 have K:=like_any g_u ar2 br2 as2 bs2 nr2 cr2 mr2 dr2 ns2 cs2 ms2 ds2 x_u y_u e_u W24 (Uh LS2).1 (Uh LS2).2.1 (Uh LS2).2.2.1 (Uh LS2).2.2.2
 unfold ratV at K
 refine K.mono ?_
 clear K
 rintro _ W25 ⟨rfl,hb⟩
 have HB25:=Hd ((Uh HB24).trans (hb.mono (Uh HB24).size))
 have OR:=Hd ((Uh TQ2).out.keep hb)
 have OS:=Hd ((Uh TS2).out.keep hb)
 clear hb TQ2 TS2 LS2 HB22 HB24 HB15 AC2a AC2b
 have AC3a:=Hd ((Uh AB).step (Uh HB25))
 have t21:=(Uh AC3a).r (w.heap.size) (.bool g_a) (.slice a_x n_x c_x) (.slice b_x m_x d_x) (.tail _ (.tail _ (.tail _ (.head _))))
 have t21a:=t21.c0
 have t21b:=t21.c1
 have t21c:=t21.c2
 clear t21
 have t22:=(Uh AC3a).r (w1.heap.size) (.bool g_b) (.slice a_y n_y c_y) (.slice b_y m_y d_y) (.tail _ (.tail _ (.head _)))
 have t22a:=t22.c0
 have t22b:=t22.c1
 have t22c:=t22.c2
 clear t22
 go_wp2_with fail
 clear t21a t21b t21c t22a t22b t22c
 have K:=ratDiv_any g_a g_b (a_x) (b_x) (a_y) (b_y) n_x c_x m_x d_x n_y c_y m_y d_y (x_a) (y_a) (x_b) (y_b) W25 ((Uh AC3a).n (a_x) n_x c_x (x_a) (b_x) m_x d_x (y_a) (.tail _ (.tail _ (.tail _ (.tail _ (.tail _ (.tail _ (.tail _ (.head _))))))))).num ((Uh AC3a).n (a_x) n_x c_x (x_a) (b_x) m_x d_x (y_a) (.tail _ (.tail _ (.tail _ (.tail _ (.tail _ (.tail _ (.tail _ (.head _))))))))).den ((Uh AC3a).n (a_y) n_y c_y (x_b) (b_y) m_y d_y (y_b) (.tail _ (.tail _ (.tail _ (.tail _ (.tail _ (.tail _ (.head _)))))))).num ((Uh AC3a).n (a_y) n_y c_y (x_b) (b_y) m_y d_y (y_b) (.tail _ (.tail _ (.tail _ (.tail _ (.tail _ (.tail _ (.head _)))))))).den (Uh O_x).1 (Uh O_x).2 (Uh O_y).1 (Uh O_y).2 ((Uh AC3a).tab (.tail _ (.tail _ (.tail _ (.tail _ (.tail _ (.tail _ (.tail _ (.tail _ (.head _))))))))))
 rw [Uh Hz] at K
 try unfold ResF at K
 try dsimp only at K
 unfold ratV at K
 refine K.mono ?_
 clear K
 rintro _ W31 ⟨v,rfl,ar3,nr3,cr3,br3,mr3,dr3,rfl,sx,sy,nx,ny,hb⟩
 try dsimp only at sx sy
 unfold ratV
 have hB1:=(Uh HB25).trans (hb.mono (Uh HB25).size)
 have tx:=(Uh OR).keep hb
 have ty:=(Uh OS).keep hb
 have c4:=three_set W31 (W01.heap.size) (.bool g_z) (.slice ar3 nr3 cr3) (.slice br3 mr3 dr3) tx.cells
 have TR3:=Hd (tri_set tx (.bool g_z) (.slice ar3 nr3 cr3) (.slice br3 mr3 dr3))
 have OS2:=Hd (ty.chgW c4.2.2.2 (fun h => Uh RNE h.symm))
 have hlR:=(Uh OR).lt
 have HlS:=Hd (Uh OS).lt
 have HB32:=Hd (hB1.trans (c4.2.2.2.below hB1.size (fun k hk h => by have:=Uh RBr; omega)))
 have LR3:=Hd (show Sl (((W31.setCell ⟨W01.heap.size,0,none⟩ (.bool g_z)).setCell ⟨W01.heap.size,1,none⟩ (.slice ar3 nr3 cr3)).setCell ⟨W01.heap.size,2,none⟩ (.slice br3 mr3 dr3)) ar3 nr3 cr3 x_z ∧ Sl (((W31.setCell ⟨W01.heap.size,0,none⟩ (.bool g_z)).setCell ⟨W01.heap.size,1,none⟩ (.slice ar3 nr3 cr3)).setCell ⟨W01.heap.size,2,none⟩ (.slice br3 mr3 dr3)) br3 mr3 dr3 y_z ∧ NewAt W25.heap.size ar3 ∧ NewAt W25.heap.size br3 from ⟨sx.chg c4.2.2.2 (fun p hp _ h => by have:=nx p hp; omega),sy.chg c4.2.2.2 (fun p hp _ h => by have:=ny p hp; omega),nx,ny⟩)
 obtain ⟨z0,q0⟩:=tx.cells 0 (by decide)
 obtain ⟨z1,q1⟩:=tx.cells 1 (by decide)
 obtain ⟨z2,q2⟩:=tx.cells 2 (by decide)
 have r0:=tx.fz 0 (by decide)
 have r1:=tx.fz 1 (by decide)
 have r2:=tx.fz 2 (by decide)
 clear sx sy nx ny hb hB1 c4 tx ty hlR OR OS
 have AC3b:=Hd ((Uh AB).step (Uh HB32))
 have t23:=(Uh AC3b).r (w2.heap.size) (.bool g_a) (.slice a_a n_a c_a) (.slice b_a m_a d_a) (.tail _ (.head _))
 have t23a:=t23.c0
 have t23b:=t23.c1
 have t23c:=t23.c2
 clear t23
 have t24:=(Uh AC3b).r (w3.heap.size) (.bool g_b) (.slice a_b n_b c_b) (.slice b_b m_b d_b) (.head _)
 have t24a:=t24.c0
 have t24b:=t24.c1
 have t24c:=t24.c2
 clear t24
 go_wp2_with fail
 clear t23a t23b t23c t24a t24b t24c q0 q1 q2 r0 r1 r2
 generalize ((W31.setCell ⟨W01.heap.size,0,none⟩ (.bool g_z)).setCell ⟨W01.heap.size,1,none⟩ (.slice ar3 nr3 cr3)).setCell ⟨W01.heap.size,2,none⟩ (.slice br3 mr3 dr3) = W32 at *
 have K:=wDiv_any g_a g_b (a_a) (b_a) (a_b) (b_b) n_a c_a m_a d_a n_b c_b m_b d_b (x_a) (y_a) (x_b) (y_b) W32 ((Uh AC3b).n (a_a) n_a c_a (x_a) (b_a) m_a d_a (y_a) (.tail _ (.tail _ (.tail _ (.tail _ (.tail _ (.head _))))))).num ((Uh AC3b).n (a_a) n_a c_a (x_a) (b_a) m_a d_a (y_a) (.tail _ (.tail _ (.tail _ (.tail _ (.tail _ (.head _))))))).den ((Uh AC3b).n (a_b) n_b c_b (x_b) (b_b) m_b d_b (y_b) (.tail _ (.tail _ (.tail _ (.tail _ (.head _)))))).num ((Uh AC3b).n (a_b) n_b c_b (x_b) (b_b) m_b d_b (y_b) (.tail _ (.tail _ (.tail _ (.tail _ (.head _)))))).den (Uh O_a).1 (Uh O_a).2 (Uh O_b).1 (Uh O_b).2
 rw [Uh Hz] at K
 try unfold ResF at K
 try dsimp only at K
 unfold ratV at K
 refine K.mono ?_
 clear K
 rintro _ W33 ⟨v,rfl,as3,ns3,cs3,bs3,ms3,ds3,rfl,sx,sy,nx,ny,hb⟩
 try dsimp only at sx sy
 unfold ratV
 have hB3:=(Uh HB32).trans (hb.mono (Uh HB32).size)
 have tr:=(Uh TR3).keep hb
 have tx:=(Uh OS2).keep hb
 have c4:=three_set W33 (W03.heap.size) (.bool g_z) (.slice as3 ns3 cs3) (.slice bs3 ms3 ds3) tx.cells
 have TS3:=Hd (tri_set tx (.bool g_z) (.slice as3 ns3 cs3) (.slice bs3 ms3 ds3))
 have TQ3:=Hd (tr.chgW c4.2.2.2 (fun h => Uh RNE h))
 have HB34:=Hd (hB3.trans (c4.2.2.2.below hB3.size (fun k hk h => by have:=Uh RBs; omega)))
 have hl2:=(Uh OS2).lt
 have hlS:=Uh HlS
 have LS3:=Hd (show Sl (((W33.setCell ⟨W03.heap.size,0,none⟩ (.bool g_z)).setCell ⟨W03.heap.size,1,none⟩ (.slice as3 ns3 cs3)).setCell ⟨W03.heap.size,2,none⟩ (.slice bs3 ms3 ds3)) ar3 nr3 cr3 x_z ∧ Sl (((W33.setCell ⟨W03.heap.size,0,none⟩ (.bool g_z)).setCell ⟨W03.heap.size,1,none⟩ (.slice as3 ns3 cs3)).setCell ⟨W03.heap.size,2,none⟩ (.slice bs3 ms3 ds3)) br3 mr3 dr3 y_z ∧ Sl (((W33.setCell ⟨W03.heap.size,0,none⟩ (.bool g_z)).setCell ⟨W03.heap.size,1,none⟩ (.slice as3 ns3 cs3)).setCell ⟨W03.heap.size,2,none⟩ (.slice bs3 ms3 ds3)) as3 ns3 cs3 x_z ∧ Sl (((W33.setCell ⟨W03.heap.size,0,none⟩ (.bool g_z)).setCell ⟨W03.heap.size,1,none⟩ (.slice as3 ns3 cs3)).setCell ⟨W03.heap.size,2,none⟩ (.slice bs3 ms3 ds3)) bs3 ms3 ds3 y_z from ⟨((Uh LR3).1.below hb).chg c4.2.2.2 (fun p hp _ h => by have:=(Uh LR3).2.2.1 p hp; omega),((Uh LR3).2.1.below hb).chg c4.2.2.2 (fun p hp _ h => by have:=(Uh LR3).2.2.2 p hp; omega),sx.chg c4.2.2.2 (fun p hp _ h => by have:=nx p hp; omega),sy.chg c4.2.2.2 (fun p hp _ h => by have:=ny p hp; omega)⟩)
 obtain ⟨z0,q0⟩:=tx.cells 0 (by decide)
 obtain ⟨z1,q1⟩:=tx.cells 1 (by decide)
 obtain ⟨z2,q2⟩:=tx.cells 2 (by decide)
 have r0:=tx.fz 0 (by decide)
 have r1:=tx.fz 1 (by decide)
 have r2:=tx.fz 2 (by decide)
 clear sx sy nx ny hb hB3 c4 tx hl2 hlS tr TR3 LR3 OS2 HlS
 have tq:=Uh TQ3
 have ts:=Uh TS3
 have tq0:=tq.c0
 have ts0:=ts.c0
 have tq1:=tq.c1
 have ts1:=ts.c1
 have tq2:=tq.c2
 have ts2:=ts.c2
 clear tq ts
 go_wp2_with fail
 clear tq0 tq1 tq2 ts0 ts1 ts2 q0 q1 q2 r0 r1 r2
 generalize ((W33.setCell ⟨W03.heap.size,0,none⟩ (.bool g_z)).setCell ⟨W03.heap.size,1,none⟩ (.slice as3 ns3 cs3)).setCell ⟨W03.heap.size,2,none⟩ (.slice bs3 ms3 ds3) = W34 at *
 have K:=like_any g_z ar3 br3 as3 bs3 nr3 cr3 mr3 dr3 ns3 cs3 ms3 ds3 x_z y_z e_z W34 (Uh LS3).1 (Uh LS3).2.1 (Uh LS3).2.2.1 (Uh LS3).2.2.2
 unfold ratV at K
 refine K.mono ?_
 clear K
 rintro _ W35 ⟨rfl,hb⟩
 have HB35:=Hd ((Uh HB34).trans (hb.mono (Uh HB34).size))
 have OR:=Hd ((Uh TQ3).out.keep hb)
 have OS:=Hd ((Uh TS3).out.keep hb)
 clear hb TQ3 TS3 LS3 HB32 HB34 HB25 AC3a AC3b
 go_wp2_with fail
 go_ret
 exact ⟨rfl,(Uh AB).bel.trans ((Uh HB35).mono (Uh AB).bel.size)⟩
end Go.Proofs.YthmcfpeobkgihaaGreatDoor
