/- Rg7 -/
import Derived.Test.YtmmeiebbnjjijaaGreatDoorWkg
import Derived.Test.YtmmeiebbnjjijaaGreatDoorRgt
import Derived.Test.YtmmeiebbnjjijaaGreatDoorRl4
import Derived.Test.YtmmeiebbnjjijaaGreatDoorWkd
import Derived.Test.YtmmeiebbnjjijaaGreatDoorWs3
import Derived.Test.YtmmeiebbnjjijaaGreatDoorWs2
import Derived.Test.YtmmeiebbnjjijaaGreatDoorWkja
import Derived.Test.YtmmeiebbnjjijaaGreatDoorWkf
namespace Go.Proofs.YtmmeiebbnjjijaaGreatDoor
open Go.RowKit Go.Deep
set_option linter.unusedVariables false
theorem Out.chgW {S:Nat → Prop} {w w':World} {R:Nat} (h:Out w R) (k:Chg S w w') (hs:¬ S R):Out w' R :=
 ⟨fun i hi => by obtain ⟨v,hv⟩:=h.cells i hi; exact ⟨v,k.cell hs hv⟩,fun i hi => by rw [World.frozen?_of_block (w:=w) (k.block R h.lt hs)]; exact h.fz i hi,Nat.lt_of_lt_of_le h.lt k.size⟩
theorem tri_set {w:World} {R:Nat} (h:Out w R) (v0 v1 v2:Value):Tri (((w.setCell ⟨R,0,none⟩ v0).setCell ⟨R,1,none⟩ v1).setCell ⟨R,2,none⟩ v2) R v0 v1 v2:=by
 obtain ⟨a,b,c,d⟩:=three_set w R v0 v1 v2 h.cells
 have f:∀ j,(((w.setCell ⟨R,0,none⟩ v0).setCell ⟨R,1,none⟩ v1).setCell ⟨R,2,none⟩ v2).frozen? ⟨R,j,none⟩ = w.frozen? ⟨R,j,none⟩:=fun j => by rw [World.frozen?_setCell,World.frozen?_setCell,World.frozen?_setCell]
 exact ⟨a,b,c,(f 0).trans (h.fz 0 (by decide)),(f 1).trans (h.fz 1 (by decide)),(f 2).trans (h.fz 2 (by decide)),Nat.lt_of_lt_of_le h.lt d.size⟩

set_option maxRecDepth 100000 in
set_option maxHeartbeats 64000000 in
theorem wholes_any (g_a:Bool) (x_a y_a:List Nat) (g_b:Bool) (x_b y_b:List Nat) (a_x:Option Addr) (n_x c_x:Nat) (b_x:Option Addr) (m_x d_x:Nat) (a_y:Option Addr) (n_y c_y:Nat) (b_y:Option Addr) (m_y d_y:Nat) (a_a:Option Addr) (n_a c_a:Nat) (b_a:Option Addr) (m_a d_a:Nat) (a_b:Option Addr) (n_b c_b:Nat) (b_b:Option Addr) (m_b d_b:Nat) (w:World) (ox_a:Ok x_a) (oy_a:Ok y_a) (ox_b:Ok x_b) (oy_b:Ok y_b) (hx_x:Sl w a_x n_x c_x x_a) (hy_x:Sl w b_x m_x d_x y_a) (hx_y:Sl w a_y n_y c_y x_b) (hy_y:Sl w b_y m_y d_y y_b) (hx_a:Sl w a_a n_a c_a x_a) (hy_a:Sl w b_a m_a d_a y_a) (hx_b:Sl w a_b n_b c_b x_b) (hy_b:Sl w b_b m_b d_b y_b) (hT:Tab64 w) (nb1:a_a = none → c_a = 0) (nb2:b_a = none → d_a = 0) :
  Calls Tryz.prog 34 #[ratV g_a a_x n_x c_x b_x m_x d_x,ratV g_b a_y n_y c_y b_y m_y d_y,ratV g_a a_a n_a c_a b_a m_a d_a,ratV g_b a_b n_b c_b b_b m_b d_b] w fun e w' => e = .returned (.bool true) ∧ Below w.heap.size w w':=by
 have A00:Fcts w w [fTab]:=⟨Below.refl _ _,fun f hf => by simp at hf; subst hf; exact hT⟩
 have A01:=A00.add (fN a_x n_x c_x x_a b_x m_x d_x y_a) ⟨hx_x,hy_x⟩
 have A02:=A01.add (fN a_y n_y c_y x_b b_y m_y d_y y_b) ⟨hx_y,hy_y⟩
 have A03:=A02.add (fN a_a n_a c_a x_a b_a m_a d_a y_a) ⟨hx_a,hy_a⟩
 have A04:=A03.add (fN a_b n_b c_b x_b b_b m_b d_b y_b) ⟨hx_b,hy_b⟩
 have O_a:=Hd (And.intro ox_a oy_a)
 have O_b:=Hd (And.intro ox_b oy_b)
 have O_x:=O_a
 have O_y:=O_b
 have A0:=Hd A04
 have NB:=Hd (And.intro nb1 nb2)
 clear nb1 nb2
 obtain ⟨⟨⟨g_s,x_s,y_s⟩,e_s⟩,hs⟩:∃ r,FloorF g_a x_a y_a = r:=⟨_,rfl⟩
 have Hs:=Hd hs
 clear hs
 obtain ⟨⟨⟨g_t,x_t,y_t⟩,e_t⟩,ht⟩:∃ r,CeilF g_a x_a y_a = r:=⟨_,rfl⟩
 have Ht:=Hd ht
 clear ht
 obtain ⟨⟨⟨g_u,x_u,y_u⟩,e_u⟩,hu⟩:∃ r,RoundF g_a x_a y_a = r:=⟨_,rfl⟩
 have Hu:=Hd hu
 clear hu
 obtain ⟨⟨⟨⟨g_z,x_z,y_z⟩,⟨g_v,x_v,y_v⟩⟩,e_z⟩,hz⟩:∃ r,DivdF g_a x_a y_a g_b x_b y_b = r:=⟨_,rfl⟩
 have Hz:=Hd hz
 clear hz
 clear A00 hT hx_x hy_x A01 hx_y hy_y A02 hx_a hy_a A03 hx_b hy_b A04 ox_a oy_a ox_b oy_b
 unfold ratV
 obtain ⟨w1,hw1⟩:∃ x,w.alloc (.cells #[.bool g_a,.slice a_x n_x c_x,.slice b_x m_x d_x] 25) = x:=⟨_,rfl⟩
 have Aw1:=Hd ((Uh A0).box (.bool g_a) (.slice a_x n_x c_x) (.slice b_x m_x d_x) 25)
 rw [hw1] at Aw1
 clear A0
 obtain ⟨w2,hw2⟩:∃ x,w1.alloc (.cells #[.bool g_b,.slice a_y n_y c_y,.slice b_y m_y d_y] 25) = x:=⟨_,rfl⟩
 have Aw2:=Hd ((Uh Aw1).box (.bool g_b) (.slice a_y n_y c_y) (.slice b_y m_y d_y) 25)
 rw [hw2] at Aw2
 clear Aw1
 obtain ⟨w3,hw3⟩:∃ x,w2.alloc (.cells #[.bool g_a,.slice a_a n_a c_a,.slice b_a m_a d_a] 25) = x:=⟨_,rfl⟩
 have Aw3:=Hd ((Uh Aw2).box (.bool g_a) (.slice a_a n_a c_a) (.slice b_a m_a d_a) 25)
 rw [hw3] at Aw3
 clear Aw2
 obtain ⟨w4,hw4⟩:∃ x,w3.alloc (.cells #[.bool g_b,.slice a_b n_b c_b,.slice b_b m_b d_b] 25) = x:=⟨_,rfl⟩
 have Aw4:=Hd ((Uh Aw3).box (.bool g_b) (.slice a_b n_b c_b) (.slice b_b m_b d_b) 25)
 rw [hw4] at Aw4
 clear Aw3
 go_enter Tryz.func34,Tryz.ntmps34
 have AB:=Aw4
 obtain ⟨wB,hwB⟩:∃ x,w4 = x:=⟨_,rfl⟩
 clear hwB
 have HBW:=Hd (Below.refl w4.heap.size w4)
 have AC0a:=Hd ((Uh AB).step (Uh HBW))
 have t5:=(Uh AC0a).r (w.heap.size) (.bool g_a) (.slice a_x n_x c_x) (.slice b_x m_x d_x) (.tail _ (.tail _ (.tail _ (.head _))))
 have t5a:=t5.c0
 have t5b:=t5.c1
 have t5c:=t5.c2
 clear t5
 go_wp2_with fail
 clear t5a t5b t5c
 have K:=ratFloor_any g_a (a_x) (b_x) n_x c_x m_x d_x (x_a) (y_a)  w4 ((Uh AC0a).n (a_x) n_x c_x (x_a) (b_x) m_x d_x (y_a) (.tail _ (.tail _ (.tail _ (.tail _ (.tail _ (.tail _ (.tail _ (.head _))))))))).num ((Uh AC0a).n (a_x) n_x c_x (x_a) (b_x) m_x d_x (y_a) (.tail _ (.tail _ (.tail _ (.tail _ (.tail _ (.tail _ (.tail _ (.head _))))))))).den (Uh O_x).1 (Uh O_x).2 ((Uh AC0a).tab (.tail _ (.tail _ (.tail _ (.tail _ (.tail _ (.tail _ (.tail _ (.tail _ (.head _))))))))))
 rw [Uh Hs] at K
 try unfold ResF at K
 try dsimp only at K
 unfold ratV at K
 refine K.mono ?_
 clear K
 rintro _ W01 ⟨v,rfl,ar0,nr0,cr0,br0,mr0,dr0,rfl,sx,sy,nx,ny,hb⟩
 try dsimp only at sx sy
 unfold ratV
 have hB1:=(Uh HBW).trans (hb.mono (Uh HBW).size)
 obtain ⟨W02,hW02⟩:∃ x,W01.alloc (.cells #[.bool g_s,.slice ar0 nr0 cr0,.slice br0 mr0 dr0] 25) = x:=⟨_,rfl⟩
 have hal:Below W01.heap.size W01 W02:=by rw [← hW02]; exact bAl
 have TR0:=Hd (show Tri W02 W01.heap.size (.bool g_s) (.slice ar0 nr0 cr0) (.slice br0 mr0 dr0) by rw [← hW02]; exact Tri.made _ _ _ _ _)
 have RBr:=Hd (show w4.heap.size ≤ W01.heap.size from hB1.size)
 have HB02:=Hd (hB1.trans (hal.mono hB1.size))
 have LR0:=Hd (And.intro (sx.below hal) (And.intro (sy.below hal) (And.intro (show NewAt w4.heap.size ar0 from nx) (show NewAt w4.heap.size br0 from ny))))
 clear sx sy nx ny hb hal hB1
 have AC0b:=Hd ((Uh AB).step (Uh HB02))
 have t6:=(Uh AC0b).r (w2.heap.size) (.bool g_a) (.slice a_a n_a c_a) (.slice b_a m_a d_a) (.tail _ (.head _))
 have t6a:=t6.c0
 have t6b:=t6.c1
 have t6c:=t6.c2
 clear t6
 go_wp2_with fail
 clear t6a t6b t6c
 have K:=(wFloor_any g_a (a_a) (b_a) n_a c_a m_a d_a (x_a) (y_a)  W02 ((Uh AC0b).n (a_a) n_a c_a (x_a) (b_a) m_a d_a (y_a) (.tail _ (.tail _ (.tail _ (.tail _ (.tail _ (.head _))))))).num ((Uh AC0b).n (a_a) n_a c_a (x_a) (b_a) m_a d_a (y_a) (.tail _ (.tail _ (.tail _ (.tail _ (.tail _ (.head _))))))).den (Uh O_a).1 (Uh O_a).2 (Uh NB).1).mono (fun _ _ h => h.res)
 rw [Uh Hs] at K
 try unfold ResF at K
 try dsimp only at K
 unfold ratV at K
 refine K.mono ?_
 clear K
 rintro _ W03 ⟨v,rfl,as0,ns0,cs0,bs0,ms0,ds0,rfl,sx,sy,nx,ny,hb⟩
 try dsimp only at sx sy
 unfold ratV
 have hB3:=(Uh HB02).trans (hb.mono (Uh HB02).size)
 have tr:=(Uh TR0).keep hb
 obtain ⟨W04,hW04⟩:∃ x,W03.alloc (.cells #[.bool g_s,.slice as0 ns0 cs0,.slice bs0 ms0 ds0] 25) = x:=⟨_,rfl⟩
 have hal:Below W03.heap.size W03 W04:=by rw [← hW04]; exact bAl
 have TS0:=Hd (show Tri W04 W03.heap.size (.bool g_s) (.slice as0 ns0 cs0) (.slice bs0 ms0 ds0) by rw [← hW04]; exact Tri.made _ _ _ _ _)
 have RBs:=Hd (show w4.heap.size ≤ W03.heap.size from hB3.size)
 have RNE:=Hd (show W01.heap.size ≠ W03.heap.size from Nat.ne_of_lt tr.lt)
 have TQ0:=Hd (tr.keep hal)
 have HB04:=Hd (hB3.trans (hal.mono hB3.size))
 have LS0:=Hd (And.intro (((Uh LR0).1.below hb).below hal) (And.intro (((Uh LR0).2.1.below hb).below hal) (And.intro (sx.below hal) (sy.below hal))))
 clear sx sy nx ny hb hal hB3 tr TR0 LR0
 have tq:=Uh TQ0
 have ts:=Uh TS0
 have tq0:=tq.c0
 have ts0:=ts.c0
 have tq1:=tq.c1
 have ts1:=ts.c1
 have tq2:=tq.c2
 have ts2:=ts.c2
 clear tq ts
 go_wp2_with fail
 clear tq0 tq1 tq2 ts0 ts1 ts2
 have K:=like_any g_s ar0 br0 as0 bs0 nr0 cr0 mr0 dr0 ns0 cs0 ms0 ds0 x_s y_s e_s W04 (Uh LS0).1 (Uh LS0).2.1 (Uh LS0).2.2.1 (Uh LS0).2.2.2
 unfold ratV at K
 refine K.mono ?_
 clear K
 rintro _ W05 ⟨rfl,hb⟩
 have HB05:=Hd ((Uh HB04).trans (hb.mono (Uh HB04).size))
 have OR:=Hd ((Uh TQ0).out.keep hb)
 have OS:=Hd ((Uh TS0).out.keep hb)
 clear hb TQ0 TS0 LS0 HB02 HB04  AC0a AC0b
 have AC1a:=Hd ((Uh AB).step (Uh HB05))
 have t7:=(Uh AC1a).r (w.heap.size) (.bool g_a) (.slice a_x n_x c_x) (.slice b_x m_x d_x) (.tail _ (.tail _ (.tail _ (.head _))))
 have t7a:=t7.c0
 have t7b:=t7.c1
 have t7c:=t7.c2
 clear t7
 go_wp2_with fail
 clear t7a t7b t7c
 have K:=ratCeil_any g_a (a_x) (b_x) n_x c_x m_x d_x (x_a) (y_a)  W05 ((Uh AC1a).n (a_x) n_x c_x (x_a) (b_x) m_x d_x (y_a) (.tail _ (.tail _ (.tail _ (.tail _ (.tail _ (.tail _ (.tail _ (.head _))))))))).num ((Uh AC1a).n (a_x) n_x c_x (x_a) (b_x) m_x d_x (y_a) (.tail _ (.tail _ (.tail _ (.tail _ (.tail _ (.tail _ (.tail _ (.head _))))))))).den (Uh O_x).1 (Uh O_x).2 ((Uh AC1a).tab (.tail _ (.tail _ (.tail _ (.tail _ (.tail _ (.tail _ (.tail _ (.tail _ (.head _))))))))))
 rw [Uh Ht] at K
 try unfold ResF at K
 try dsimp only at K
 unfold ratV at K
 refine K.mono ?_
 clear K
 rintro _ W11 ⟨v,rfl,ar1,nr1,cr1,br1,mr1,dr1,rfl,sx,sy,nx,ny,hb⟩
 try dsimp only at sx sy
 unfold ratV
 have hB1:=(Uh HB05).trans (hb.mono (Uh HB05).size)
 have tx:=(Uh OR).keep hb
 have ty:=(Uh OS).keep hb
 have c4:=three_set W11 (W01.heap.size) (.bool g_t) (.slice ar1 nr1 cr1) (.slice br1 mr1 dr1) tx.cells
 have TR1:=Hd (tri_set tx (.bool g_t) (.slice ar1 nr1 cr1) (.slice br1 mr1 dr1))
 have OS2:=Hd (ty.chgW c4.2.2.2 (fun h => Uh RNE h.symm))
 have hlR:=(Uh OR).lt
 have HlS:=Hd (Uh OS).lt
 have HB12:=Hd (hB1.trans (c4.2.2.2.below hB1.size (fun k hk h => by have:=Uh RBr; omega)))
 have LR1:=Hd (show Sl (((W11.setCell ⟨W01.heap.size,0,none⟩ (.bool g_t)).setCell ⟨W01.heap.size,1,none⟩ (.slice ar1 nr1 cr1)).setCell ⟨W01.heap.size,2,none⟩ (.slice br1 mr1 dr1)) ar1 nr1 cr1 x_t ∧ Sl (((W11.setCell ⟨W01.heap.size,0,none⟩ (.bool g_t)).setCell ⟨W01.heap.size,1,none⟩ (.slice ar1 nr1 cr1)).setCell ⟨W01.heap.size,2,none⟩ (.slice br1 mr1 dr1)) br1 mr1 dr1 y_t ∧ NewAt W05.heap.size ar1 ∧ NewAt W05.heap.size br1 from ⟨sx.chg c4.2.2.2 (fun p hp _ h => by have:=nx p hp; omega),sy.chg c4.2.2.2 (fun p hp _ h => by have:=ny p hp; omega),nx,ny⟩)
 obtain ⟨z0,q0⟩:=tx.cells 0 (by decide)
 obtain ⟨z1,q1⟩:=tx.cells 1 (by decide)
 obtain ⟨z2,q2⟩:=tx.cells 2 (by decide)
 have r0:=tx.fz 0 (by decide)
 have r1:=tx.fz 1 (by decide)
 have r2:=tx.fz 2 (by decide)
 clear sx sy nx ny hb hB1 c4 tx ty hlR OR OS
 have AC1b:=Hd ((Uh AB).step (Uh HB12))
 have t8:=(Uh AC1b).r (w2.heap.size) (.bool g_a) (.slice a_a n_a c_a) (.slice b_a m_a d_a) (.tail _ (.head _))
 have t8a:=t8.c0
 have t8b:=t8.c1
 have t8c:=t8.c2
 clear t8
 go_wp2_with fail
 clear t8a t8b t8c q0 q1 q2 r0 r1 r2
 generalize ((W11.setCell ⟨W01.heap.size,0,none⟩ (.bool g_t)).setCell ⟨W01.heap.size,1,none⟩ (.slice ar1 nr1 cr1)).setCell ⟨W01.heap.size,2,none⟩ (.slice br1 mr1 dr1) = W12 at *
 have K:=wCeil_any g_a (a_a) (b_a) n_a c_a m_a d_a (x_a) (y_a)  W12 ((Uh AC1b).n (a_a) n_a c_a (x_a) (b_a) m_a d_a (y_a) (.tail _ (.tail _ (.tail _ (.tail _ (.tail _ (.head _))))))).num ((Uh AC1b).n (a_a) n_a c_a (x_a) (b_a) m_a d_a (y_a) (.tail _ (.tail _ (.tail _ (.tail _ (.tail _ (.head _))))))).den (Uh O_a).1 (Uh O_a).2 (Uh NB).1 (Uh NB).2
 rw [Uh Ht] at K
 try unfold ResF at K
 try dsimp only at K
 unfold ratV at K
 refine K.mono ?_
 clear K
 rintro _ W13 ⟨v,rfl,as1,ns1,cs1,bs1,ms1,ds1,rfl,sx,sy,nx,ny,hb⟩
 try dsimp only at sx sy
 unfold ratV
 have hB3:=(Uh HB12).trans (hb.mono (Uh HB12).size)
 have tr:=(Uh TR1).keep hb
 have tx:=(Uh OS2).keep hb
 have c4:=three_set W13 (W03.heap.size) (.bool g_t) (.slice as1 ns1 cs1) (.slice bs1 ms1 ds1) tx.cells
 have TS1:=Hd (tri_set tx (.bool g_t) (.slice as1 ns1 cs1) (.slice bs1 ms1 ds1))
 have TQ1:=Hd (tr.chgW c4.2.2.2 (fun h => Uh RNE h))
 have HB14:=Hd (hB3.trans (c4.2.2.2.below hB3.size (fun k hk h => by have:=Uh RBs; omega)))
 have hl2:=(Uh OS2).lt
 have hlS:=Uh HlS
 have LS1:=Hd (show Sl (((W13.setCell ⟨W03.heap.size,0,none⟩ (.bool g_t)).setCell ⟨W03.heap.size,1,none⟩ (.slice as1 ns1 cs1)).setCell ⟨W03.heap.size,2,none⟩ (.slice bs1 ms1 ds1)) ar1 nr1 cr1 x_t ∧ Sl (((W13.setCell ⟨W03.heap.size,0,none⟩ (.bool g_t)).setCell ⟨W03.heap.size,1,none⟩ (.slice as1 ns1 cs1)).setCell ⟨W03.heap.size,2,none⟩ (.slice bs1 ms1 ds1)) br1 mr1 dr1 y_t ∧ Sl (((W13.setCell ⟨W03.heap.size,0,none⟩ (.bool g_t)).setCell ⟨W03.heap.size,1,none⟩ (.slice as1 ns1 cs1)).setCell ⟨W03.heap.size,2,none⟩ (.slice bs1 ms1 ds1)) as1 ns1 cs1 x_t ∧ Sl (((W13.setCell ⟨W03.heap.size,0,none⟩ (.bool g_t)).setCell ⟨W03.heap.size,1,none⟩ (.slice as1 ns1 cs1)).setCell ⟨W03.heap.size,2,none⟩ (.slice bs1 ms1 ds1)) bs1 ms1 ds1 y_t from ⟨((Uh LR1).1.below hb).chg c4.2.2.2 (fun p hp _ h => by have:=(Uh LR1).2.2.1 p hp; omega),((Uh LR1).2.1.below hb).chg c4.2.2.2 (fun p hp _ h => by have:=(Uh LR1).2.2.2 p hp; omega),sx.chg c4.2.2.2 (fun p hp _ h => by have:=nx p hp; omega),sy.chg c4.2.2.2 (fun p hp _ h => by have:=ny p hp; omega)⟩)
 obtain ⟨z0,q0⟩:=tx.cells 0 (by decide)
 obtain ⟨z1,q1⟩:=tx.cells 1 (by decide)
 obtain ⟨z2,q2⟩:=tx.cells 2 (by decide)
 have r0:=tx.fz 0 (by decide)
 have r1:=tx.fz 1 (by decide)
 have r2:=tx.fz 2 (by decide)
 clear sx sy nx ny hb hB3 c4 tx hl2 hlS tr TR1 LR1 OS2 HlS
 have tq:=Uh TQ1
 have ts:=Uh TS1
 have tq0:=tq.c0
 have ts0:=ts.c0
 have tq1:=tq.c1
 have ts1:=ts.c1
 have tq2:=tq.c2
 have ts2:=ts.c2
 clear tq ts
 go_wp2_with fail
 clear tq0 tq1 tq2 ts0 ts1 ts2 q0 q1 q2 r0 r1 r2
 generalize ((W13.setCell ⟨W03.heap.size,0,none⟩ (.bool g_t)).setCell ⟨W03.heap.size,1,none⟩ (.slice as1 ns1 cs1)).setCell ⟨W03.heap.size,2,none⟩ (.slice bs1 ms1 ds1) = W14 at *
 have K:=like_any g_t ar1 br1 as1 bs1 nr1 cr1 mr1 dr1 ns1 cs1 ms1 ds1 x_t y_t e_t W14 (Uh LS1).1 (Uh LS1).2.1 (Uh LS1).2.2.1 (Uh LS1).2.2.2
 unfold ratV at K
 refine K.mono ?_
 clear K
 rintro _ W15 ⟨rfl,hb⟩
 have HB15:=Hd ((Uh HB14).trans (hb.mono (Uh HB14).size))
 have OR:=Hd ((Uh TQ1).out.keep hb)
 have OS:=Hd ((Uh TS1).out.keep hb)
 clear hb TQ1 TS1 LS1 HB12 HB14 HB05 AC1a AC1b
 have AC2a:=Hd ((Uh AB).step (Uh HB15))
 have t9:=(Uh AC2a).r (w.heap.size) (.bool g_a) (.slice a_x n_x c_x) (.slice b_x m_x d_x) (.tail _ (.tail _ (.tail _ (.head _))))
 have t9a:=t9.c0
 have t9b:=t9.c1
 have t9c:=t9.c2
 clear t9
 go_wp2_with fail
 clear t9a t9b t9c
 have K:=ratRound_any g_a (a_x) (b_x) n_x c_x m_x d_x (x_a) (y_a)  W15 ((Uh AC2a).n (a_x) n_x c_x (x_a) (b_x) m_x d_x (y_a) (.tail _ (.tail _ (.tail _ (.tail _ (.tail _ (.tail _ (.tail _ (.head _))))))))).num ((Uh AC2a).n (a_x) n_x c_x (x_a) (b_x) m_x d_x (y_a) (.tail _ (.tail _ (.tail _ (.tail _ (.tail _ (.tail _ (.tail _ (.head _))))))))).den (Uh O_x).1 (Uh O_x).2 ((Uh AC2a).tab (.tail _ (.tail _ (.tail _ (.tail _ (.tail _ (.tail _ (.tail _ (.tail _ (.head _))))))))))
 rw [Uh Hu] at K
 try unfold ResF at K
 try dsimp only at K
 unfold ratV at K
 refine K.mono ?_
 clear K
 rintro _ W21 ⟨v,rfl,ar2,nr2,cr2,br2,mr2,dr2,rfl,sx,sy,nx,ny,hb⟩
 try dsimp only at sx sy
 unfold ratV
 have hB1:=(Uh HB15).trans (hb.mono (Uh HB15).size)
 have tx:=(Uh OR).keep hb
 have ty:=(Uh OS).keep hb
 have c4:=three_set W21 (W01.heap.size) (.bool g_u) (.slice ar2 nr2 cr2) (.slice br2 mr2 dr2) tx.cells
 have TR2:=Hd (tri_set tx (.bool g_u) (.slice ar2 nr2 cr2) (.slice br2 mr2 dr2))
 have OS2:=Hd (ty.chgW c4.2.2.2 (fun h => Uh RNE h.symm))
 have hlR:=(Uh OR).lt
 have HlS:=Hd (Uh OS).lt
 have HB22:=Hd (hB1.trans (c4.2.2.2.below hB1.size (fun k hk h => by have:=Uh RBr; omega)))
 have LR2:=Hd (show Sl (((W21.setCell ⟨W01.heap.size,0,none⟩ (.bool g_u)).setCell ⟨W01.heap.size,1,none⟩ (.slice ar2 nr2 cr2)).setCell ⟨W01.heap.size,2,none⟩ (.slice br2 mr2 dr2)) ar2 nr2 cr2 x_u ∧ Sl (((W21.setCell ⟨W01.heap.size,0,none⟩ (.bool g_u)).setCell ⟨W01.heap.size,1,none⟩ (.slice ar2 nr2 cr2)).setCell ⟨W01.heap.size,2,none⟩ (.slice br2 mr2 dr2)) br2 mr2 dr2 y_u ∧ NewAt W15.heap.size ar2 ∧ NewAt W15.heap.size br2 from ⟨sx.chg c4.2.2.2 (fun p hp _ h => by have:=nx p hp; omega),sy.chg c4.2.2.2 (fun p hp _ h => by have:=ny p hp; omega),nx,ny⟩)
 obtain ⟨z0,q0⟩:=tx.cells 0 (by decide)
 obtain ⟨z1,q1⟩:=tx.cells 1 (by decide)
 obtain ⟨z2,q2⟩:=tx.cells 2 (by decide)
 have r0:=tx.fz 0 (by decide)
 have r1:=tx.fz 1 (by decide)
 have r2:=tx.fz 2 (by decide)
 clear sx sy nx ny hb hB1 c4 tx ty hlR OR OS
 have AC2b:=Hd ((Uh AB).step (Uh HB22))
 have t10:=(Uh AC2b).r (w2.heap.size) (.bool g_a) (.slice a_a n_a c_a) (.slice b_a m_a d_a) (.tail _ (.head _))
 have t10a:=t10.c0
 have t10b:=t10.c1
 have t10c:=t10.c2
 clear t10
 go_wp2_with fail
 clear t10a t10b t10c q0 q1 q2 r0 r1 r2
 generalize ((W21.setCell ⟨W01.heap.size,0,none⟩ (.bool g_u)).setCell ⟨W01.heap.size,1,none⟩ (.slice ar2 nr2 cr2)).setCell ⟨W01.heap.size,2,none⟩ (.slice br2 mr2 dr2) = W22 at *
 have K:=wRound_any g_a (a_a) (b_a) n_a c_a m_a d_a (x_a) (y_a)  W22 ((Uh AC2b).n (a_a) n_a c_a (x_a) (b_a) m_a d_a (y_a) (.tail _ (.tail _ (.tail _ (.tail _ (.tail _ (.head _))))))).num ((Uh AC2b).n (a_a) n_a c_a (x_a) (b_a) m_a d_a (y_a) (.tail _ (.tail _ (.tail _ (.tail _ (.tail _ (.head _))))))).den (Uh O_a).1 (Uh O_a).2 (Uh NB).1
 rw [Uh Hu] at K
 try unfold ResF at K
 try dsimp only at K
 unfold ratV at K
 refine K.mono ?_
 clear K
 rintro _ W23 ⟨v,rfl,as2,ns2,cs2,bs2,ms2,ds2,rfl,sx,sy,nx,ny,hb⟩
 try dsimp only at sx sy
 unfold ratV
 have hB3:=(Uh HB22).trans (hb.mono (Uh HB22).size)
 have tr:=(Uh TR2).keep hb
 have tx:=(Uh OS2).keep hb
 have c4:=three_set W23 (W03.heap.size) (.bool g_u) (.slice as2 ns2 cs2) (.slice bs2 ms2 ds2) tx.cells
 have TS2:=Hd (tri_set tx (.bool g_u) (.slice as2 ns2 cs2) (.slice bs2 ms2 ds2))
 have TQ2:=Hd (tr.chgW c4.2.2.2 (fun h => Uh RNE h))
 have HB24:=Hd (hB3.trans (c4.2.2.2.below hB3.size (fun k hk h => by have:=Uh RBs; omega)))
 have hl2:=(Uh OS2).lt
 have hlS:=Uh HlS
 have LS2:=Hd (show Sl (((W23.setCell ⟨W03.heap.size,0,none⟩ (.bool g_u)).setCell ⟨W03.heap.size,1,none⟩ (.slice as2 ns2 cs2)).setCell ⟨W03.heap.size,2,none⟩ (.slice bs2 ms2 ds2)) ar2 nr2 cr2 x_u ∧ Sl (((W23.setCell ⟨W03.heap.size,0,none⟩ (.bool g_u)).setCell ⟨W03.heap.size,1,none⟩ (.slice as2 ns2 cs2)).setCell ⟨W03.heap.size,2,none⟩ (.slice bs2 ms2 ds2)) br2 mr2 dr2 y_u ∧ Sl (((W23.setCell ⟨W03.heap.size,0,none⟩ (.bool g_u)).setCell ⟨W03.heap.size,1,none⟩ (.slice as2 ns2 cs2)).setCell ⟨W03.heap.size,2,none⟩ (.slice bs2 ms2 ds2)) as2 ns2 cs2 x_u ∧ Sl (((W23.setCell ⟨W03.heap.size,0,none⟩ (.bool g_u)).setCell ⟨W03.heap.size,1,none⟩ (.slice as2 ns2 cs2)).setCell ⟨W03.heap.size,2,none⟩ (.slice bs2 ms2 ds2)) bs2 ms2 ds2 y_u from ⟨((Uh LR2).1.below hb).chg c4.2.2.2 (fun p hp _ h => by have:=(Uh LR2).2.2.1 p hp; omega),((Uh LR2).2.1.below hb).chg c4.2.2.2 (fun p hp _ h => by have:=(Uh LR2).2.2.2 p hp; omega),sx.chg c4.2.2.2 (fun p hp _ h => by have:=nx p hp; omega),sy.chg c4.2.2.2 (fun p hp _ h => by have:=ny p hp; omega)⟩)
 obtain ⟨z0,q0⟩:=tx.cells 0 (by decide)
 obtain ⟨z1,q1⟩:=tx.cells 1 (by decide)
 obtain ⟨z2,q2⟩:=tx.cells 2 (by decide)
 have r0:=tx.fz 0 (by decide)
 have r1:=tx.fz 1 (by decide)
 have r2:=tx.fz 2 (by decide)
 clear sx sy nx ny hb hB3 c4 tx hl2 hlS tr TR2 LR2 OS2 HlS
 have tq:=Uh TQ2
 have ts:=Uh TS2
 have tq0:=tq.c0
 have ts0:=ts.c0
 have tq1:=tq.c1
 have ts1:=ts.c1
 have tq2:=tq.c2
 have ts2:=ts.c2
 clear tq ts
 go_wp2_with fail
 clear tq0 tq1 tq2 ts0 ts1 ts2 q0 q1 q2 r0 r1 r2
 generalize ((W23.setCell ⟨W03.heap.size,0,none⟩ (.bool g_u)).setCell ⟨W03.heap.size,1,none⟩ (.slice as2 ns2 cs2)).setCell ⟨W03.heap.size,2,none⟩ (.slice bs2 ms2 ds2) = W24 at *
 have K:=like_any g_u ar2 br2 as2 bs2 nr2 cr2 mr2 dr2 ns2 cs2 ms2 ds2 x_u y_u e_u W24 (Uh LS2).1 (Uh LS2).2.1 (Uh LS2).2.2.1 (Uh LS2).2.2.2
 unfold ratV at K
 refine K.mono ?_
 clear K
 rintro _ W25 ⟨rfl,hb⟩
 have HB25:=Hd ((Uh HB24).trans (hb.mono (Uh HB24).size))
 have OR:=Hd ((Uh TQ2).out.keep hb)
 have OS:=Hd ((Uh TS2).out.keep hb)
 clear hb TQ2 TS2 LS2 HB22 HB24 HB15 AC2a AC2b
 clear OR OS RNE RBr RBs
 have ADa:=Hd ((Uh AB).step (Uh HB25))
 have t11:=(Uh ADa).r (w.heap.size) (.bool g_a) (.slice a_x n_x c_x) (.slice b_x m_x d_x) (.tail _ (.tail _ (.tail _ (.head _))))
 have t11a:=t11.c0
 have t11b:=t11.c1
 have t11c:=t11.c2
 clear t11
 have t12:=(Uh ADa).r (w1.heap.size) (.bool g_b) (.slice a_y n_y c_y) (.slice b_y m_y d_y) (.tail _ (.tail _ (.head _)))
 have t12a:=t12.c0
 have t12b:=t12.c1
 have t12c:=t12.c2
 clear t12
 go_wp2_with fail
 clear t11a t11b t11c t12a t12b t12c
 have K:=ratDivide_any g_a g_b (a_x) (b_x) (a_y) (b_y) n_x c_x m_x d_x n_y c_y m_y d_y (x_a) (y_a) (x_b) (y_b) W25 ((Uh ADa).n (a_x) n_x c_x (x_a) (b_x) m_x d_x (y_a) (.tail _ (.tail _ (.tail _ (.tail _ (.tail _ (.tail _ (.tail _ (.head _))))))))).num ((Uh ADa).n (a_x) n_x c_x (x_a) (b_x) m_x d_x (y_a) (.tail _ (.tail _ (.tail _ (.tail _ (.tail _ (.tail _ (.tail _ (.head _))))))))).den ((Uh ADa).n (a_y) n_y c_y (x_b) (b_y) m_y d_y (y_b) (.tail _ (.tail _ (.tail _ (.tail _ (.tail _ (.tail _ (.head _)))))))).num ((Uh ADa).n (a_y) n_y c_y (x_b) (b_y) m_y d_y (y_b) (.tail _ (.tail _ (.tail _ (.tail _ (.tail _ (.tail _ (.head _)))))))).den (Uh O_x).1 (Uh O_x).2 (Uh O_y).1 (Uh O_y).2 ((Uh ADa).tab (.tail _ (.tail _ (.tail _ (.tail _ (.tail _ (.tail _ (.tail _ (.tail _ (.head _))))))))))
 rw [Uh Hz] at K
 unfold ResD at K
 try dsimp only at K
 unfold ratV at K
 refine K.mono ?_
 clear K
 rintro _ Va ⟨v,v_,rfl,⟨aqVa,nqVa,cqVa,bqVa,mqVa,dqVa,rfl,sx,sy,nx,ny,hb⟩,⟨alVa,nlVa,clVa,blVa,mlVa,dlVa,rfl,tx,ty,ux,uy,hb_⟩⟩
 try dsimp only at sx sy tx ty
 unfold ratV
 clear nx ny ux uy hb_
 obtain ⟨Vax,hVax⟩:∃ x,Va.alloc (.cells #[.bool false,.slice none 0 0,.slice none 0 0] 25) = x:=⟨_,rfl⟩
 obtain ⟨Vay,hVay⟩:∃ x,Vax.alloc (.cells #[.bool false,.slice none 0 0,.slice none 0 0] 25) = x:=⟨_,rfl⟩
 obtain ⟨tb1,tb2,tb3⟩:=two_boxes hVax hVay (.bool g_z) (.slice aqVa nqVa cqVa) (.slice bqVa mqVa dqVa) (.bool g_v) (.slice alVa nlVa clVa) (.slice blVa mlVa dlVa)
 obtain ⟨oo1,oo2,hlt,_⟩:=two_outs hVax hVay
 have hn1:=Nat.ne_of_lt hlt
 have hn2:=hn1.symm
 obtain ⟨zz10,qq10⟩:=oo1.cells 0 (by decide)
 have ff10:=oo1.fz 0 (by decide)
 obtain ⟨zz11,qq11⟩:=oo1.cells 1 (by decide)
 have ff11:=oo1.fz 1 (by decide)
 obtain ⟨zz12,qq12⟩:=oo1.cells 2 (by decide)
 have ff12:=oo1.fz 2 (by decide)
 obtain ⟨zz20,qq20⟩:=oo2.cells 0 (by decide)
 have ff20:=oo2.fz 0 (by decide)
 obtain ⟨zz21,qq21⟩:=oo2.cells 1 (by decide)
 have ff21:=oo2.fz 1 (by decide)
 obtain ⟨zz22,qq22⟩:=oo2.cells 2 (by decide)
 have ff22:=oo2.fz 2 (by decide)
 have TQVa:=Hd tb1
 have TLVa:=Hd tb2
 have LLVa:=Hd (And.intro (sx.below tb3) (And.intro (sy.below tb3) (And.intro (tx.below tb3) (ty.below tb3))))
 have hB1:=(Uh HB25).trans (hb.mono (Uh HB25).size)
 have HBVa:=Hd (hB1.trans (tb3.mono hB1.size))
 clear sx sy tx ty hB1 hb tb1 tb2 tb3 hlt oo1 oo2
 clear ADa
 have ADb:=Hd ((Uh AB).step (Uh HBVa))
 have t13:=(Uh ADb).r (w2.heap.size) (.bool g_a) (.slice a_a n_a c_a) (.slice b_a m_a d_a) (.tail _ (.head _))
 have t13a:=t13.c0
 have t13b:=t13.c1
 have t13c:=t13.c2
 clear t13
 have t14:=(Uh ADb).r (w3.heap.size) (.bool g_b) (.slice a_b n_b c_b) (.slice b_b m_b d_b) (.head _)
 have t14a:=t14.c0
 have t14b:=t14.c1
 have t14c:=t14.c2
 clear t14
 go_wp2_with fail
 clear t13a t13b t13c t14a t14b t14c qq10 ff10 qq11 ff11 qq12 ff12 qq20 ff20 qq21 ff21 qq22 ff22 hn1 hn2
 generalize (((((Vay.setCell ⟨Va.heap.size,0,none⟩ (.bool g_z)).setCell ⟨Va.heap.size,1,none⟩ (.slice aqVa nqVa cqVa)).setCell ⟨Va.heap.size,2,none⟩ (.slice bqVa mqVa dqVa)).setCell ⟨Vax.heap.size,0,none⟩ (.bool g_v)).setCell ⟨Vax.heap.size,1,none⟩ (.slice alVa nlVa clVa)).setCell ⟨Vax.heap.size,2,none⟩ (.slice blVa mlVa dlVa) = Vc at *
 have K:=wDivide_any g_a g_b (a_a) (b_a) (a_b) (b_b) n_a c_a m_a d_a n_b c_b m_b d_b (x_a) (y_a) (x_b) (y_b) Vc ((Uh ADb).n (a_a) n_a c_a (x_a) (b_a) m_a d_a (y_a) (.tail _ (.tail _ (.tail _ (.tail _ (.tail _ (.head _))))))).num ((Uh ADb).n (a_a) n_a c_a (x_a) (b_a) m_a d_a (y_a) (.tail _ (.tail _ (.tail _ (.tail _ (.tail _ (.head _))))))).den ((Uh ADb).n (a_b) n_b c_b (x_b) (b_b) m_b d_b (y_b) (.tail _ (.tail _ (.tail _ (.tail _ (.head _)))))).num ((Uh ADb).n (a_b) n_b c_b (x_b) (b_b) m_b d_b (y_b) (.tail _ (.tail _ (.tail _ (.tail _ (.head _)))))).den (Uh O_a).1 (Uh O_a).2 (Uh O_b).1 (Uh O_b).2
 rw [Uh Hz] at K
 unfold ResD at K
 try dsimp only at K
 unfold ratV at K
 refine K.mono ?_
 clear K
 rintro _ Vd ⟨v,v_,rfl,⟨aqVd,nqVd,cqVd,bqVd,mqVd,dqVd,rfl,sx,sy,nx,ny,hb⟩,⟨alVd,nlVd,clVd,blVd,mlVd,dlVd,rfl,tx,ty,ux,uy,hb_⟩⟩
 try dsimp only at sx sy tx ty
 unfold ratV
 clear nx ny ux uy hb_
 obtain ⟨Vdx,hVdx⟩:∃ x,Vd.alloc (.cells #[.bool false,.slice none 0 0,.slice none 0 0] 25) = x:=⟨_,rfl⟩
 obtain ⟨Vdy,hVdy⟩:∃ x,Vdx.alloc (.cells #[.bool false,.slice none 0 0,.slice none 0 0] 25) = x:=⟨_,rfl⟩
 obtain ⟨tb1,tb2,tb3⟩:=two_boxes hVdx hVdy (.bool g_z) (.slice aqVd nqVd cqVd) (.slice bqVd mqVd dqVd) (.bool g_v) (.slice alVd nlVd clVd) (.slice blVd mlVd dlVd)
 obtain ⟨oo1,oo2,hlt,_⟩:=two_outs hVdx hVdy
 have hn1:=Nat.ne_of_lt hlt
 have hn2:=hn1.symm
 obtain ⟨zz10,qq10⟩:=oo1.cells 0 (by decide)
 have ff10:=oo1.fz 0 (by decide)
 obtain ⟨zz11,qq11⟩:=oo1.cells 1 (by decide)
 have ff11:=oo1.fz 1 (by decide)
 obtain ⟨zz12,qq12⟩:=oo1.cells 2 (by decide)
 have ff12:=oo1.fz 2 (by decide)
 obtain ⟨zz20,qq20⟩:=oo2.cells 0 (by decide)
 have ff20:=oo2.fz 0 (by decide)
 obtain ⟨zz21,qq21⟩:=oo2.cells 1 (by decide)
 have ff21:=oo2.fz 1 (by decide)
 obtain ⟨zz22,qq22⟩:=oo2.cells 2 (by decide)
 have ff22:=oo2.fz 2 (by decide)
 have TQVd:=Hd tb1
 have TLVd:=Hd tb2
 have LLVd:=Hd (And.intro (sx.below tb3) (And.intro (sy.below tb3) (And.intro (tx.below tb3) (ty.below tb3))))
 have hB1:=(Uh HBVa).trans (hb.mono (Uh HBVa).size)
 have HBVd:=Hd (hB1.trans (tb3.mono hB1.size))
 have TQVak:=Hd (((Uh TQVa).keep hb).keep tb3)
 have TLVak:=Hd (((Uh TLVa).keep hb).keep tb3)
 have LMVa:=Hd (And.intro (((Uh LLVa).1.below hb).below tb3) (And.intro (((Uh LLVa).2.1.below hb).below tb3) (And.intro (((Uh LLVa).2.2.1.below hb).below tb3) (((Uh LLVa).2.2.2.below hb).below tb3))))
 clear sx sy tx ty hB1 hb tb1 tb2 tb3 hlt oo1 oo2 LLVa TQVa TLVa
 clear ADb
 have tq:=Uh TQVak
 have ts:=Uh TQVd
 have tq0:=tq.c0
 have ts0:=ts.c0
 have tq1:=tq.c1
 have ts1:=ts.c1
 have tq2:=tq.c2
 have ts2:=ts.c2
 clear tq ts
 go_wp2_with fail
 clear tq0 tq1 tq2 ts0 ts1 ts2 qq10 ff10 qq11 ff11 qq12 ff12 qq20 ff20 qq21 ff21 qq22 ff22 hn1 hn2
 generalize (((((Vdy.setCell ⟨Vd.heap.size,0,none⟩ (.bool g_z)).setCell ⟨Vd.heap.size,1,none⟩ (.slice aqVd nqVd cqVd)).setCell ⟨Vd.heap.size,2,none⟩ (.slice bqVd mqVd dqVd)).setCell ⟨Vdx.heap.size,0,none⟩ (.bool g_v)).setCell ⟨Vdx.heap.size,1,none⟩ (.slice alVd nlVd clVd)).setCell ⟨Vdx.heap.size,2,none⟩ (.slice blVd mlVd dlVd) = Vf at *
 have K:=like_any g_z aqVa bqVa aqVd bqVd nqVa cqVa mqVa dqVa nqVd cqVd mqVd dqVd x_z y_z e_z Vf (Uh LMVa).1 (Uh LMVa).2.1 (Uh LLVd).1 (Uh LLVd).2.1
 unfold ratV at K
 refine K.mono ?_
 clear K
 rintro _ Vg ⟨rfl,hb⟩
 have tq:=(Uh TLVak).keep hb
 have ts:=(Uh TLVd).keep hb
 have tq0:=tq.c0
 have ts0:=ts.c0
 have tq1:=tq.c1
 have ts1:=ts.c1
 have tq2:=tq.c2
 have ts2:=ts.c2
 have HLg:=Hd (And.intro ((Uh LMVa).2.2.1.below hb) (And.intro ((Uh LMVa).2.2.2.below hb) (And.intro ((Uh LLVd).2.2.1.below hb) ((Uh LLVd).2.2.2.below hb))))
 have HBg:=Hd ((Uh HBVd).trans (hb.mono (Uh HBVd).size))
 clear tq ts hb
 go_wp2_with fail
 clear tq0 tq1 tq2 ts0 ts1 ts2
 have K:=sameRat_any g_v g_v alVa blVa alVd blVd nlVa clVa mlVa dlVa nlVd clVd mlVd dlVd x_v y_v x_v y_v Vg (Uh HLg).1 (Uh HLg).2.1 (Uh HLg).2.2.1 (Uh HLg).2.2.2
 rw [show sameR g_v x_v y_v g_v x_v y_v = true by unfold sameR; simp] at K
 unfold ratV at K
 refine K.mono ?_
 clear K
 rintro _ Vh ⟨rfl,hb⟩
 try go_wp2_with fail
 go_ret
 have hX:=(Uh HBg).trans (hb.mono (Uh HBg).size)
 exact ⟨rfl,(Uh AB).bel.trans (hX.mono (Uh AB).bel.size)⟩
end Go.Proofs.YtmmeiebbnjjijaaGreatDoor
