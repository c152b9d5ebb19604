/- Rg4 -/
import Derived.Test.YthmcfpeobkgihaaGreatDoorWrm
import Derived.Test.YthmcfpeobkgihaaGreatDoorPw2
import Derived.Test.YthmcfpeobkgihaaGreatDoorWjd
namespace Go.Proofs.YthmcfpeobkgihaaGreatDoor
open Go.RowKit Go.Deep
set_option linter.unusedVariables false
set_option maxRecDepth 100000 in
set_option maxHeartbeats 64000000 in
theorem one_any (g_a:Bool) (x_a y_a:List Nat) (a_x:Option Addr) (n_x c_x:Nat) (b_x:Option Addr) (m_x d_x:Nat) (a_a:Option Addr) (n_a c_a:Nat) (b_a:Option Addr) (m_a d_a:Nat) (i_n:Int) (w:World) (ox_a:Ok x_a) (oy_a:Ok y_a) (hx_x:Sl w a_x n_x c_x x_a) (hy_x:Sl w b_x m_x d_x y_a) (hx_a:Sl w a_a n_a c_a x_a) (hy_a:Sl w b_a m_a d_a y_a) (hl_n:-9223372036854775808 ≤ i_n) (hh_n:i_n ≤ 9223372036854775807) (hT:Tab64 w) (nb1:a_a = none → c_a = 0) (nb2:b_a = none → d_a = 0) :
  Calls Tryz.prog 5 #[ratV g_a a_x n_x c_x b_x m_x d_x,ratV g_a a_a n_a c_a b_a m_a d_a,.int .i64 i_n] w fun e w' => e = .returned (.bool true) ∧ Below w.heap.size w w':=by
 have A00:Fcts w w [fTab]:=⟨Below.refl _ _,fun f hf => by simp at hf; subst hf; exact hT⟩
 have A01:=A00.add (fN a_x n_x c_x x_a b_x m_x d_x y_a) ⟨hx_x,hy_x⟩
 have A02:=A01.add (fN a_a n_a c_a x_a b_a m_a d_a y_a) ⟨hx_a,hy_a⟩
 have O_a:=Hd (And.intro ox_a oy_a)
 have O_x:=O_a
 have A0:=Hd A02
 have NB:=Hd (And.intro nb1 nb2)
 clear nb1 nb2
 obtain ⟨⟨⟨g_s,x_s,y_s⟩,e_s⟩,hs⟩:∃ r,NegF g_a x_a y_a = r:=⟨_,rfl⟩
 have Hs:=Hd hs
 clear hs
 obtain ⟨⟨⟨g_t,x_t,y_t⟩,e_t⟩,ht⟩:∃ r,AbsF g_a x_a y_a = r:=⟨_,rfl⟩
 have Ht:=Hd ht
 clear ht
 obtain ⟨⟨⟨g_u,x_u,y_u⟩,e_u⟩,hu⟩:∃ r,InvF g_a x_a y_a = r:=⟨_,rfl⟩
 have Hu:=Hd hu
 clear hu
 obtain ⟨⟨⟨g_z,x_z,y_z⟩,e_z⟩,hz⟩:∃ r,PowF g_a x_a y_a i_n = r:=⟨_,rfl⟩
 have Hz:=Hd hz
 clear hz
 clear A00 hT hx_x hy_x A01 hx_a hy_a A02 ox_a oy_a
 unfold ratV
 obtain ⟨w1,hw1⟩:∃ x,w.alloc (.cells #[.bool g_a,.slice a_x n_x c_x,.slice b_x m_x d_x] 25) = x:=⟨_,rfl⟩
 have Aw1:=Hd ((Uh A0).box (.bool g_a) (.slice a_x n_x c_x) (.slice b_x m_x d_x) 25)
 rw [hw1] at Aw1
 clear A0
 obtain ⟨w2,hw2⟩:∃ x,w1.alloc (.cells #[.bool g_a,.slice a_a n_a c_a,.slice b_a m_a d_a] 25) = x:=⟨_,rfl⟩
 have Aw2:=Hd ((Uh Aw1).box (.bool g_a) (.slice a_a n_a c_a) (.slice b_a m_a d_a) 25)
 rw [hw2] at Aw2
 clear Aw1
 go_enter Tryz.func5,Tryz.ntmps5
 have AB:=Aw2
 obtain ⟨wB,hwB⟩:∃ x,w2 = x:=⟨_,rfl⟩
 clear hwB
 have HBW:=Hd (Below.refl w2.heap.size w2)
 have AC0a:=Hd ((Uh AB).step (Uh HBW))
 have t3:=(Uh AC0a).r (w.heap.size) (.bool g_a) (.slice a_x n_x c_x) (.slice b_x m_x d_x) mM1
 have t3a:=t3.c0
 have t3b:=t3.c1
 have t3c:=t3.c2
 clear t3
 go_wp2_with fail
 clear t3a t3b t3c
 have K:=ratNeg_F g_a (a_x) (b_x) n_x c_x m_x d_x (x_a) (y_a)  w2 ((Uh AC0a).n (a_x) n_x c_x (x_a) (b_x) m_x d_x (y_a) mM3).num ((Uh AC0a).n (a_x) n_x c_x (x_a) (b_x) m_x d_x (y_a) mM3).den (Uh O_x).1 (Uh O_x).2 ((Uh AC0a).tab mM4)
 rw [Uh Hs] at K
 try unfold ResF at K
 try dsimp only at K
 unfold ratV at K
 refine K.mono ?_
 clear K
 rintro _ W01 ⟨v,rfl,ar0,nr0,cr0,br0,mr0,dr0,rfl,sx,sy,nx,ny,hb⟩
 try dsimp only at sx sy
 unfold ratV
 have hB1:=(Uh HBW).trans (hb.mono (Uh HBW).size)
 obtain ⟨W02,hW02⟩:∃ x,W01.alloc (.cells #[.bool g_s,.slice ar0 nr0 cr0,.slice br0 mr0 dr0] 25) = x:=⟨_,rfl⟩
 have hal:Below W01.heap.size W01 W02:=by rw [← hW02]; exact bAl
 have TR0:=Hd (show Tri W02 W01.heap.size (.bool g_s) (.slice ar0 nr0 cr0) (.slice br0 mr0 dr0) by rw [← hW02]; exact Tri.made _ _ _ _ _)
 have RBr:=Hd (show w2.heap.size ≤ W01.heap.size from hB1.size)
 have HB02:=Hd (hB1.trans (hal.mono hB1.size))
 have LR0:=Hd (And.intro (sx.below hal) (And.intro (sy.below hal) (And.intro (show NewAt w2.heap.size ar0 from nx) (show NewAt w2.heap.size br0 from ny))))
 clear sx sy nx ny hb hal hB1
 have AC0b:=Hd ((Uh AB).step (Uh HB02))
 have t4:=(Uh AC0b).r (w1.heap.size) (.bool g_a) (.slice a_a n_a c_a) (.slice b_a m_a d_a) (.head _)
 have t4a:=t4.c0
 have t4b:=t4.c1
 have t4c:=t4.c2
 clear t4
 go_wp2_with fail
 clear t4a t4b t4c
 have K:=wNeg_any g_a (a_a) (b_a) n_a c_a m_a d_a (x_a) (y_a)  W02 ((Uh AC0b).n (a_a) n_a c_a (x_a) (b_a) m_a d_a (y_a) mM2).num ((Uh AC0b).n (a_a) n_a c_a (x_a) (b_a) m_a d_a (y_a) mM2).den (Uh O_a).1 (Uh O_a).2 (Uh NB).1 (Uh NB).2
 rw [Uh Hs] at K
 try unfold ResF at K
 try dsimp only at K
 unfold ratV at K
 refine K.mono ?_
 clear K
 rintro _ W03 ⟨v,rfl,as0,ns0,cs0,bs0,ms0,ds0,rfl,sx,sy,nx,ny,hb⟩
 try dsimp only at sx sy
 unfold ratV
 have hB3:=(Uh HB02).trans (hb.mono (Uh HB02).size)
 have tr:=(Uh TR0).keep hb
 obtain ⟨W04,hW04⟩:∃ x,W03.alloc (.cells #[.bool g_s,.slice as0 ns0 cs0,.slice bs0 ms0 ds0] 25) = x:=⟨_,rfl⟩
 have hal:Below W03.heap.size W03 W04:=by rw [← hW04]; exact bAl
 have TS0:=Hd (show Tri W04 W03.heap.size (.bool g_s) (.slice as0 ns0 cs0) (.slice bs0 ms0 ds0) by rw [← hW04]; exact Tri.made _ _ _ _ _)
 have RBs:=Hd (show w2.heap.size ≤ W03.heap.size from hB3.size)
 have RNE:=Hd (show W01.heap.size ≠ W03.heap.size from Nat.ne_of_lt tr.lt)
 have TQ0:=Hd (tr.keep hal)
 have HB04:=Hd (hB3.trans (hal.mono hB3.size))
 have LS0:=Hd (And.intro (((Uh LR0).1.below hb).below hal) (And.intro (((Uh LR0).2.1.below hb).below hal) (And.intro (sx.below hal) (sy.below hal))))
 clear sx sy nx ny hb hal hB3 tr TR0 LR0
 have tq:=Uh TQ0
 have ts:=Uh TS0
 have tq0:=tq.c0
 have ts0:=ts.c0
 have tq1:=tq.c1
 have ts1:=ts.c1
 have tq2:=tq.c2
 have ts2:=ts.c2
 clear tq ts
 go_wp2_with fail
 clear tq0 tq1 tq2 ts0 ts1 ts2
 have K:=like_any g_s ar0 br0 as0 bs0 nr0 cr0 mr0 dr0 ns0 cs0 ms0 ds0 x_s y_s e_s W04 (Uh LS0).1 (Uh LS0).2.1 (Uh LS0).2.2.1 (Uh LS0).2.2.2
 unfold ratV at K
 refine K.mono ?_
 clear K
 rintro _ W05 ⟨rfl,hb⟩
 have HB05:=Hd ((Uh HB04).trans (hb.mono (Uh HB04).size))
 have OR:=Hd ((Uh TQ0).out.keep hb)
 have OS:=Hd ((Uh TS0).out.keep hb)
 clear hb TQ0 TS0 LS0 HB02 HB04  AC0a AC0b
 have AC1a:=Hd ((Uh AB).step (Uh HB05))
 have t5:=(Uh AC1a).r (w.heap.size) (.bool g_a) (.slice a_x n_x c_x) (.slice b_x m_x d_x) mM1
 have t5a:=t5.c0
 have t5b:=t5.c1
 have t5c:=t5.c2
 clear t5
 go_wp2_with fail
 clear t5a t5b t5c
 have K:=ratAbs_F g_a (a_x) (b_x) n_x c_x m_x d_x (x_a) (y_a)  W05 ((Uh AC1a).n (a_x) n_x c_x (x_a) (b_x) m_x d_x (y_a) mM3).num ((Uh AC1a).n (a_x) n_x c_x (x_a) (b_x) m_x d_x (y_a) mM3).den (Uh O_x).1 (Uh O_x).2 ((Uh AC1a).tab mM4)
 rw [Uh Ht] at K
 try unfold ResF at K
 try dsimp only at K
 unfold ratV at K
 refine K.mono ?_
 clear K
 rintro _ W11 ⟨v,rfl,ar1,nr1,cr1,br1,mr1,dr1,rfl,sx,sy,nx,ny,hb⟩
 try dsimp only at sx sy
 unfold ratV
 have hB1:=(Uh HB05).trans (hb.mono (Uh HB05).size)
 have tx:=(Uh OR).keep hb
 have ty:=(Uh OS).keep hb
 have c4:=three_set W11 (W01.heap.size) (.bool g_t) (.slice ar1 nr1 cr1) (.slice br1 mr1 dr1) tx.cells
 have TR1:=Hd (tri_set tx (.bool g_t) (.slice ar1 nr1 cr1) (.slice br1 mr1 dr1))
 have OS2:=Hd (ty.chgW c4.2.2.2 (fun h => Uh RNE h.symm))
 have hlR:=(Uh OR).lt
 have HlS:=Hd (Uh OS).lt
 have HB12:=Hd (hB1.trans (c4.2.2.2.below hB1.size (fun k hk h => by have:=Uh RBr; omega)))
 have LR1:=Hd (show Sl (((W11.setCell ⟨W01.heap.size,0,none⟩ (.bool g_t)).setCell ⟨W01.heap.size,1,none⟩ (.slice ar1 nr1 cr1)).setCell ⟨W01.heap.size,2,none⟩ (.slice br1 mr1 dr1)) ar1 nr1 cr1 x_t ∧ Sl (((W11.setCell ⟨W01.heap.size,0,none⟩ (.bool g_t)).setCell ⟨W01.heap.size,1,none⟩ (.slice ar1 nr1 cr1)).setCell ⟨W01.heap.size,2,none⟩ (.slice br1 mr1 dr1)) br1 mr1 dr1 y_t ∧ NewAt W05.heap.size ar1 ∧ NewAt W05.heap.size br1 from ⟨sx.chg c4.2.2.2 (fun p hp _ h => by have:=nx p hp; omega),sy.chg c4.2.2.2 (fun p hp _ h => by have:=ny p hp; omega),nx,ny⟩)
 obtain ⟨z0,q0⟩:=tx.cells 0 (by decide)
 obtain ⟨z1,q1⟩:=tx.cells 1 (by decide)
 obtain ⟨z2,q2⟩:=tx.cells 2 (by decide)
 have r0:=tx.fz 0 (by decide)
 have r1:=tx.fz 1 (by decide)
 have r2:=tx.fz 2 (by decide)
 clear sx sy nx ny hb hB1 c4 tx ty hlR OR OS
 have AC1b:=Hd ((Uh AB).step (Uh HB12))
 have t6:=(Uh AC1b).r (w1.heap.size) (.bool g_a) (.slice a_a n_a c_a) (.slice b_a m_a d_a) (.head _)
 have t6a:=t6.c0
 have t6b:=t6.c1
 have t6c:=t6.c2
 clear t6
 go_wp2_with fail
 clear t6a t6b t6c q0 q1 q2 r0 r1 r2
 generalize ((W11.setCell ⟨W01.heap.size,0,none⟩ (.bool g_t)).setCell ⟨W01.heap.size,1,none⟩ (.slice ar1 nr1 cr1)).setCell ⟨W01.heap.size,2,none⟩ (.slice br1 mr1 dr1) = W12 at *
 have K:=wAbs_any g_a (a_a) (b_a) n_a c_a m_a d_a (x_a) (y_a)  W12 ((Uh AC1b).n (a_a) n_a c_a (x_a) (b_a) m_a d_a (y_a) mM2).num ((Uh AC1b).n (a_a) n_a c_a (x_a) (b_a) m_a d_a (y_a) mM2).den (Uh O_a).1 (Uh O_a).2 (Uh NB).1 (Uh NB).2
 rw [Uh Ht] at K
 try unfold ResF at K
 try dsimp only at K
 unfold ratV at K
 refine K.mono ?_
 clear K
 rintro _ W13 ⟨v,rfl,as1,ns1,cs1,bs1,ms1,ds1,rfl,sx,sy,nx,ny,hb⟩
 try dsimp only at sx sy
 unfold ratV
 have hB3:=(Uh HB12).trans (hb.mono (Uh HB12).size)
 have tr:=(Uh TR1).keep hb
 have tx:=(Uh OS2).keep hb
 have c4:=three_set W13 (W03.heap.size) (.bool g_t) (.slice as1 ns1 cs1) (.slice bs1 ms1 ds1) tx.cells
 have TS1:=Hd (tri_set tx (.bool g_t) (.slice as1 ns1 cs1) (.slice bs1 ms1 ds1))
 have TQ1:=Hd (tr.chgW c4.2.2.2 (fun h => Uh RNE h))
 have HB14:=Hd (hB3.trans (c4.2.2.2.below hB3.size (fun k hk h => by have:=Uh RBs; omega)))
 have hl2:=(Uh OS2).lt
 have hlS:=Uh HlS
 have LS1:=Hd (show Sl (((W13.setCell ⟨W03.heap.size,0,none⟩ (.bool g_t)).setCell ⟨W03.heap.size,1,none⟩ (.slice as1 ns1 cs1)).setCell ⟨W03.heap.size,2,none⟩ (.slice bs1 ms1 ds1)) ar1 nr1 cr1 x_t ∧ Sl (((W13.setCell ⟨W03.heap.size,0,none⟩ (.bool g_t)).setCell ⟨W03.heap.size,1,none⟩ (.slice as1 ns1 cs1)).setCell ⟨W03.heap.size,2,none⟩ (.slice bs1 ms1 ds1)) br1 mr1 dr1 y_t ∧ Sl (((W13.setCell ⟨W03.heap.size,0,none⟩ (.bool g_t)).setCell ⟨W03.heap.size,1,none⟩ (.slice as1 ns1 cs1)).setCell ⟨W03.heap.size,2,none⟩ (.slice bs1 ms1 ds1)) as1 ns1 cs1 x_t ∧ Sl (((W13.setCell ⟨W03.heap.size,0,none⟩ (.bool g_t)).setCell ⟨W03.heap.size,1,none⟩ (.slice as1 ns1 cs1)).setCell ⟨W03.heap.size,2,none⟩ (.slice bs1 ms1 ds1)) bs1 ms1 ds1 y_t from ⟨((Uh LR1).1.below hb).chg c4.2.2.2 (fun p hp _ h => by have:=(Uh LR1).2.2.1 p hp; omega),((Uh LR1).2.1.below hb).chg c4.2.2.2 (fun p hp _ h => by have:=(Uh LR1).2.2.2 p hp; omega),sx.chg c4.2.2.2 (fun p hp _ h => by have:=nx p hp; omega),sy.chg c4.2.2.2 (fun p hp _ h => by have:=ny p hp; omega)⟩)
 obtain ⟨z0,q0⟩:=tx.cells 0 (by decide)
 obtain ⟨z1,q1⟩:=tx.cells 1 (by decide)
 obtain ⟨z2,q2⟩:=tx.cells 2 (by decide)
 have r0:=tx.fz 0 (by decide)
 have r1:=tx.fz 1 (by decide)
 have r2:=tx.fz 2 (by decide)
 clear sx sy nx ny hb hB3 c4 tx hl2 hlS tr TR1 LR1 OS2 HlS
 have tq:=Uh TQ1
 have ts:=Uh TS1
 have tq0:=tq.c0
 have ts0:=ts.c0
 have tq1:=tq.c1
 have ts1:=ts.c1
 have tq2:=tq.c2
 have ts2:=ts.c2
 clear tq ts
 go_wp2_with fail
 clear tq0 tq1 tq2 ts0 ts1 ts2 q0 q1 q2 r0 r1 r2
 generalize ((W13.setCell ⟨W03.heap.size,0,none⟩ (.bool g_t)).setCell ⟨W03.heap.size,1,none⟩ (.slice as1 ns1 cs1)).setCell ⟨W03.heap.size,2,none⟩ (.slice bs1 ms1 ds1) = W14 at *
 have K:=like_any g_t ar1 br1 as1 bs1 nr1 cr1 mr1 dr1 ns1 cs1 ms1 ds1 x_t y_t e_t W14 (Uh LS1).1 (Uh LS1).2.1 (Uh LS1).2.2.1 (Uh LS1).2.2.2
 unfold ratV at K
 refine K.mono ?_
 clear K
 rintro _ W15 ⟨rfl,hb⟩
 have HB15:=Hd ((Uh HB14).trans (hb.mono (Uh HB14).size))
 have OR:=Hd ((Uh TQ1).out.keep hb)
 have OS:=Hd ((Uh TS1).out.keep hb)
 clear hb TQ1 TS1 LS1 HB12 HB14 HB05 AC1a AC1b
 have AC2a:=Hd ((Uh AB).step (Uh HB15))
 have t7:=(Uh AC2a).r (w.heap.size) (.bool g_a) (.slice a_x n_x c_x) (.slice b_x m_x d_x) mM1
 have t7a:=t7.c0
 have t7b:=t7.c1
 have t7c:=t7.c2
 clear t7
 go_wp2_with fail
 clear t7a t7b t7c
 have K:=ratInv_F g_a (a_x) (b_x) n_x c_x m_x d_x (x_a) (y_a)  W15 ((Uh AC2a).n (a_x) n_x c_x (x_a) (b_x) m_x d_x (y_a) mM3).num ((Uh AC2a).n (a_x) n_x c_x (x_a) (b_x) m_x d_x (y_a) mM3).den (Uh O_x).1 (Uh O_x).2 ((Uh AC2a).tab mM4)
 rw [Uh Hu] at K
 try unfold ResF at K
 try dsimp only at K
 unfold ratV at K
 refine K.mono ?_
 clear K
 rintro _ W21 ⟨v,rfl,ar2,nr2,cr2,br2,mr2,dr2,rfl,sx,sy,nx,ny,hb⟩
 try dsimp only at sx sy
 unfold ratV
 have hB1:=(Uh HB15).trans (hb.mono (Uh HB15).size)
 have tx:=(Uh OR).keep hb
 have ty:=(Uh OS).keep hb
 have c4:=three_set W21 (W01.heap.size) (.bool g_u) (.slice ar2 nr2 cr2) (.slice br2 mr2 dr2) tx.cells
 have TR2:=Hd (tri_set tx (.bool g_u) (.slice ar2 nr2 cr2) (.slice br2 mr2 dr2))
 have OS2:=Hd (ty.chgW c4.2.2.2 (fun h => Uh RNE h.symm))
 have hlR:=(Uh OR).lt
 have HlS:=Hd (Uh OS).lt
 have HB22:=Hd (hB1.trans (c4.2.2.2.below hB1.size (fun k hk h => by have:=Uh RBr; omega)))
 have LR2:=Hd (show Sl (((W21.setCell ⟨W01.heap.size,0,none⟩ (.bool g_u)).setCell ⟨W01.heap.size,1,none⟩ (.slice ar2 nr2 cr2)).setCell ⟨W01.heap.size,2,none⟩ (.slice br2 mr2 dr2)) ar2 nr2 cr2 x_u ∧ Sl (((W21.setCell ⟨W01.heap.size,0,none⟩ (.bool g_u)).setCell ⟨W01.heap.size,1,none⟩ (.slice ar2 nr2 cr2)).setCell ⟨W01.heap.size,2,none⟩ (.slice br2 mr2 dr2)) br2 mr2 dr2 y_u ∧ NewAt W15.heap.size ar2 ∧ NewAt W15.heap.size br2 from ⟨sx.chg c4.2.2.2 (fun p hp _ h => by have:=nx p hp; omega),sy.chg c4.2.2.2 (fun p hp _ h => by have:=ny p hp; omega),nx,ny⟩)
 obtain ⟨z0,q0⟩:=tx.cells 0 (by decide)
 obtain ⟨z1,q1⟩:=tx.cells 1 (by decide)
 obtain ⟨z2,q2⟩:=tx.cells 2 (by decide)
 have r0:=tx.fz 0 (by decide)
 have r1:=tx.fz 1 (by decide)
 have r2:=tx.fz 2 (by decide)
 clear sx sy nx ny hb hB1 c4 tx ty hlR OR OS
 have AC2b:=Hd ((Uh AB).step (Uh HB22))
 have t8:=(Uh AC2b).r (w1.heap.size) (.bool g_a) (.slice a_a n_a c_a) (.slice b_a m_a d_a) (.head _)
 have t8a:=t8.c0
 have t8b:=t8.c1
 have t8c:=t8.c2
 clear t8
 go_wp2_with fail
 clear t8a t8b t8c q0 q1 q2 r0 r1 r2
 generalize ((W21.setCell ⟨W01.heap.size,0,none⟩ (.bool g_u)).setCell ⟨W01.heap.size,1,none⟩ (.slice ar2 nr2 cr2)).setCell ⟨W01.heap.size,2,none⟩ (.slice br2 mr2 dr2) = W22 at *
 have K:=wInv_any g_a (a_a) (b_a) n_a c_a m_a d_a (x_a) (y_a)  W22 ((Uh AC2b).n (a_a) n_a c_a (x_a) (b_a) m_a d_a (y_a) mM2).num ((Uh AC2b).n (a_a) n_a c_a (x_a) (b_a) m_a d_a (y_a) mM2).den (Uh O_a).1 (Uh O_a).2
 rw [Uh Hu] at K
 try unfold ResF at K
 try dsimp only at K
 unfold ratV at K
 refine K.mono ?_
 clear K
 rintro _ W23 ⟨v,rfl,as2,ns2,cs2,bs2,ms2,ds2,rfl,sx,sy,nx,ny,hb⟩
 try dsimp only at sx sy
 unfold ratV
 have hB3:=(Uh HB22).trans (hb.mono (Uh HB22).size)
 have tr:=(Uh TR2).keep hb
 have tx:=(Uh OS2).keep hb
 have c4:=three_set W23 (W03.heap.size) (.bool g_u) (.slice as2 ns2 cs2) (.slice bs2 ms2 ds2) tx.cells
 have TS2:=Hd (tri_set tx (.bool g_u) (.slice as2 ns2 cs2) (.slice bs2 ms2 ds2))
 have TQ2:=Hd (tr.chgW c4.2.2.2 (fun h => Uh RNE h))
 have HB24:=Hd (hB3.trans (c4.2.2.2.below hB3.size (fun k hk h => by have:=Uh RBs; omega)))
 have hl2:=(Uh OS2).lt
 have hlS:=Uh HlS
 have LS2:=Hd (show Sl (((W23.setCell ⟨W03.heap.size,0,none⟩ (.bool g_u)).setCell ⟨W03.heap.size,1,none⟩ (.slice as2 ns2 cs2)).setCell ⟨W03.heap.size,2,none⟩ (.slice bs2 ms2 ds2)) ar2 nr2 cr2 x_u ∧ Sl (((W23.setCell ⟨W03.heap.size,0,none⟩ (.bool g_u)).setCell ⟨W03.heap.size,1,none⟩ (.slice as2 ns2 cs2)).setCell ⟨W03.heap.size,2,none⟩ (.slice bs2 ms2 ds2)) br2 mr2 dr2 y_u ∧ Sl (((W23.setCell ⟨W03.heap.size,0,none⟩ (.bool g_u)).setCell ⟨W03.heap.size,1,none⟩ (.slice as2 ns2 cs2)).setCell ⟨W03.heap.size,2,none⟩ (.slice bs2 ms2 ds2)) as2 ns2 cs2 x_u ∧ Sl (((W23.setCell ⟨W03.heap.size,0,none⟩ (.bool g_u)).setCell ⟨W03.heap.size,1,none⟩ (.slice as2 ns2 cs2)).setCell ⟨W03.heap.size,2,none⟩ (.slice bs2 ms2 ds2)) bs2 ms2 ds2 y_u from ⟨((Uh LR2).1.below hb).chg c4.2.2.2 (fun p hp _ h => by have:=(Uh LR2).2.2.1 p hp; omega),((Uh LR2).2.1.below hb).chg c4.2.2.2 (fun p hp _ h => by have:=(Uh LR2).2.2.2 p hp; omega),sx.chg c4.2.2.2 (fun p hp _ h => by have:=nx p hp; omega),sy.chg c4.2.2.2 (fun p hp _ h => by have:=ny p hp; omega)⟩)
 obtain ⟨z0,q0⟩:=tx.cells 0 (by decide)
 obtain ⟨z1,q1⟩:=tx.cells 1 (by decide)
 obtain ⟨z2,q2⟩:=tx.cells 2 (by decide)
 have r0:=tx.fz 0 (by decide)
 have r1:=tx.fz 1 (by decide)
 have r2:=tx.fz 2 (by decide)
 clear sx sy nx ny hb hB3 c4 tx hl2 hlS tr TR2 LR2 OS2 HlS
 have tq:=Uh TQ2
 have ts:=Uh TS2
 have tq0:=tq.c0
 have ts0:=ts.c0
 have tq1:=tq.c1
 have ts1:=ts.c1
 have tq2:=tq.c2
 have ts2:=ts.c2
 clear tq ts
 go_wp2_with fail
 clear tq0 tq1 tq2 ts0 ts1 ts2 q0 q1 q2 r0 r1 r2
 generalize ((W23.setCell ⟨W03.heap.size,0,none⟩ (.bool g_u)).setCell ⟨W03.heap.size,1,none⟩ (.slice as2 ns2 cs2)).setCell ⟨W03.heap.size,2,none⟩ (.slice bs2 ms2 ds2) = W24 at *
 have K:=like_any g_u ar2 br2 as2 bs2 nr2 cr2 mr2 dr2 ns2 cs2 ms2 ds2 x_u y_u e_u W24 (Uh LS2).1 (Uh LS2).2.1 (Uh LS2).2.2.1 (Uh LS2).2.2.2
 unfold ratV at K
 refine K.mono ?_
 clear K
 rintro _ W25 ⟨rfl,hb⟩
 have HB25:=Hd ((Uh HB24).trans (hb.mono (Uh HB24).size))
 have OR:=Hd ((Uh TQ2).out.keep hb)
 have OS:=Hd ((Uh TS2).out.keep hb)
 clear hb TQ2 TS2 LS2 HB22 HB24 HB15 AC2a AC2b
 have AC3a:=Hd ((Uh AB).step (Uh HB25))
 have t9:=(Uh AC3a).r (w.heap.size) (.bool g_a) (.slice a_x n_x c_x) (.slice b_x m_x d_x) mM1
 have t9a:=t9.c0
 have t9b:=t9.c1
 have t9c:=t9.c2
 clear t9
 go_wp2_with fail
 clear t9a t9b t9c
 have K:=ratPow_any g_a (a_x) (b_x) n_x c_x m_x d_x (x_a) (y_a) i_n W25 ((Uh AC3a).n (a_x) n_x c_x (x_a) (b_x) m_x d_x (y_a) mM3).num ((Uh AC3a).n (a_x) n_x c_x (x_a) (b_x) m_x d_x (y_a) mM3).den (Uh O_x).1 (Uh O_x).2 ((Uh AC3a).tab mM4)
 rw [Uh Hz] at K
 try unfold ResF at K
 try dsimp only at K
 unfold ratV at K
 refine K.mono ?_
 clear K
 rintro _ W31 ⟨v,rfl,ar3,nr3,cr3,br3,mr3,dr3,rfl,sx,sy,nx,ny,hb⟩
 try dsimp only at sx sy
 unfold ratV
 have hB1:=(Uh HB25).trans (hb.mono (Uh HB25).size)
 have tx:=(Uh OR).keep hb
 have ty:=(Uh OS).keep hb
 have c4:=three_set W31 (W01.heap.size) (.bool g_z) (.slice ar3 nr3 cr3) (.slice br3 mr3 dr3) tx.cells
 have TR3:=Hd (tri_set tx (.bool g_z) (.slice ar3 nr3 cr3) (.slice br3 mr3 dr3))
 have OS2:=Hd (ty.chgW c4.2.2.2 (fun h => Uh RNE h.symm))
 have hlR:=(Uh OR).lt
 have HlS:=Hd (Uh OS).lt
 have HB32:=Hd (hB1.trans (c4.2.2.2.below hB1.size (fun k hk h => by have:=Uh RBr; omega)))
 have LR3:=Hd (show Sl (((W31.setCell ⟨W01.heap.size,0,none⟩ (.bool g_z)).setCell ⟨W01.heap.size,1,none⟩ (.slice ar3 nr3 cr3)).setCell ⟨W01.heap.size,2,none⟩ (.slice br3 mr3 dr3)) ar3 nr3 cr3 x_z ∧ Sl (((W31.setCell ⟨W01.heap.size,0,none⟩ (.bool g_z)).setCell ⟨W01.heap.size,1,none⟩ (.slice ar3 nr3 cr3)).setCell ⟨W01.heap.size,2,none⟩ (.slice br3 mr3 dr3)) br3 mr3 dr3 y_z ∧ NewAt W25.heap.size ar3 ∧ NewAt W25.heap.size br3 from ⟨sx.chg c4.2.2.2 (fun p hp _ h => by have:=nx p hp; omega),sy.chg c4.2.2.2 (fun p hp _ h => by have:=ny p hp; omega),nx,ny⟩)
 obtain ⟨z0,q0⟩:=tx.cells 0 (by decide)
 obtain ⟨z1,q1⟩:=tx.cells 1 (by decide)
 obtain ⟨z2,q2⟩:=tx.cells 2 (by decide)
 have r0:=tx.fz 0 (by decide)
 have r1:=tx.fz 1 (by decide)
 have r2:=tx.fz 2 (by decide)
 clear sx sy nx ny hb hB1 c4 tx ty hlR OR OS
 have AC3b:=Hd ((Uh AB).step (Uh HB32))
 have t10:=(Uh AC3b).r (w1.heap.size) (.bool g_a) (.slice a_a n_a c_a) (.slice b_a m_a d_a) (.head _)
 have t10a:=t10.c0
 have t10b:=t10.c1
 have t10c:=t10.c2
 clear t10
 go_wp2_with fail
 clear t10a t10b t10c q0 q1 q2 r0 r1 r2
 generalize ((W31.setCell ⟨W01.heap.size,0,none⟩ (.bool g_z)).setCell ⟨W01.heap.size,1,none⟩ (.slice ar3 nr3 cr3)).setCell ⟨W01.heap.size,2,none⟩ (.slice br3 mr3 dr3) = W32 at *
 have K:=wPow_any g_a (a_a) (b_a) n_a c_a m_a d_a (x_a) (y_a) i_n W32 ((Uh AC3b).n (a_a) n_a c_a (x_a) (b_a) m_a d_a (y_a) mM2).num ((Uh AC3b).n (a_a) n_a c_a (x_a) (b_a) m_a d_a (y_a) mM2).den (Uh O_a).1 (Uh O_a).2
 rw [Uh Hz] at K
 try unfold ResF at K
 try dsimp only at K
 unfold ratV at K
 refine K.mono ?_
 clear K
 rintro _ W33 ⟨v,rfl,as3,ns3,cs3,bs3,ms3,ds3,rfl,sx,sy,nx,ny,hb⟩
 try dsimp only at sx sy
 unfold ratV
 have hB3:=(Uh HB32).trans (hb.mono (Uh HB32).size)
 have tr:=(Uh TR3).keep hb
 have tx:=(Uh OS2).keep hb
 have c4:=three_set W33 (W03.heap.size) (.bool g_z) (.slice as3 ns3 cs3) (.slice bs3 ms3 ds3) tx.cells
 have TS3:=Hd (tri_set tx (.bool g_z) (.slice as3 ns3 cs3) (.slice bs3 ms3 ds3))
 have TQ3:=Hd (tr.chgW c4.2.2.2 (fun h => Uh RNE h))
 have HB34:=Hd (hB3.trans (c4.2.2.2.below hB3.size (fun k hk h => by have:=Uh RBs; omega)))
 have hl2:=(Uh OS2).lt
 have hlS:=Uh HlS
 have LS3:=Hd (show Sl (((W33.setCell ⟨W03.heap.size,0,none⟩ (.bool g_z)).setCell ⟨W03.heap.size,1,none⟩ (.slice as3 ns3 cs3)).setCell ⟨W03.heap.size,2,none⟩ (.slice bs3 ms3 ds3)) ar3 nr3 cr3 x_z ∧ Sl (((W33.setCell ⟨W03.heap.size,0,none⟩ (.bool g_z)).setCell ⟨W03.heap.size,1,none⟩ (.slice as3 ns3 cs3)).setCell ⟨W03.heap.size,2,none⟩ (.slice bs3 ms3 ds3)) br3 mr3 dr3 y_z ∧ Sl (((W33.setCell ⟨W03.heap.size,0,none⟩ (.bool g_z)).setCell ⟨W03.heap.size,1,none⟩ (.slice as3 ns3 cs3)).setCell ⟨W03.heap.size,2,none⟩ (.slice bs3 ms3 ds3)) as3 ns3 cs3 x_z ∧ Sl (((W33.setCell ⟨W03.heap.size,0,none⟩ (.bool g_z)).setCell ⟨W03.heap.size,1,none⟩ (.slice as3 ns3 cs3)).setCell ⟨W03.heap.size,2,none⟩ (.slice bs3 ms3 ds3)) bs3 ms3 ds3 y_z from ⟨((Uh LR3).1.below hb).chg c4.2.2.2 (fun p hp _ h => by have:=(Uh LR3).2.2.1 p hp; omega),((Uh LR3).2.1.below hb).chg c4.2.2.2 (fun p hp _ h => by have:=(Uh LR3).2.2.2 p hp; omega),sx.chg c4.2.2.2 (fun p hp _ h => by have:=nx p hp; omega),sy.chg c4.2.2.2 (fun p hp _ h => by have:=ny p hp; omega)⟩)
 obtain ⟨z0,q0⟩:=tx.cells 0 (by decide)
 obtain ⟨z1,q1⟩:=tx.cells 1 (by decide)
 obtain ⟨z2,q2⟩:=tx.cells 2 (by decide)
 have r0:=tx.fz 0 (by decide)
 have r1:=tx.fz 1 (by decide)
 have r2:=tx.fz 2 (by decide)
 clear sx sy nx ny hb hB3 c4 tx hl2 hlS tr TR3 LR3 OS2 HlS
 have tq:=Uh TQ3
 have ts:=Uh TS3
 have tq0:=tq.c0
 have ts0:=ts.c0
 have tq1:=tq.c1
 have ts1:=ts.c1
 have tq2:=tq.c2
 have ts2:=ts.c2
 clear tq ts
 go_wp2_with fail
 clear tq0 tq1 tq2 ts0 ts1 ts2 q0 q1 q2 r0 r1 r2
 generalize ((W33.setCell ⟨W03.heap.size,0,none⟩ (.bool g_z)).setCell ⟨W03.heap.size,1,none⟩ (.slice as3 ns3 cs3)).setCell ⟨W03.heap.size,2,none⟩ (.slice bs3 ms3 ds3) = W34 at *
 have K:=like_any g_z ar3 br3 as3 bs3 nr3 cr3 mr3 dr3 ns3 cs3 ms3 ds3 x_z y_z e_z W34 (Uh LS3).1 (Uh LS3).2.1 (Uh LS3).2.2.1 (Uh LS3).2.2.2
 unfold ratV at K
 refine K.mono ?_
 clear K
 rintro _ W35 ⟨rfl,hb⟩
 have HB35:=Hd ((Uh HB34).trans (hb.mono (Uh HB34).size))
 have OR:=Hd ((Uh TQ3).out.keep hb)
 have OS:=Hd ((Uh TS3).out.keep hb)
 clear hb TQ3 TS3 LS3 HB32 HB34 HB25 AC3a AC3b
 go_wp2_with fail
 go_ret
 exact ⟨rfl,(Uh AB).bel.trans ((Uh HB35).mono (Uh AB).bel.size)⟩
end Go.Proofs.YthmcfpeobkgihaaGreatDoor
