/- Ruc -/
import Derived.Test.YtmmeiebbnjjijaaGreatDoorRud
import Derived.Test.YtmmeiebbnjjijaaGreatDoorWr1
import Derived.Test.YtmmeiebbnjjijaaGreatDoorRl4
namespace Go.Proofs.YtmmeiebbnjjijaaGreatDoor
open Go.RowKit Go.Deep
set_option linter.unusedVariables false
def fS (a:Option Addr) (n c:Nat) (ps:List Nq):Fct:=⟨fun w => SlQ w a n c ps,fun k h => h.below k⟩
theorem Fcts.s {w0 w:World} {L:List Fct} (h:Fcts w0 w L) (a:Option Addr) (n c:Nat) (ps:List Nq) (hm:fS a n c ps ∈ L):SlQ w a n c ps:=h.all _ hm
theorem Out.chgW {S:Nat → Prop} {w w':World} {R:Nat} (h:Out w R) (k:Chg S w w') (hs:¬ S R):Out w' R :=
 ⟨fun i hi => by obtain ⟨v,hv⟩:=h.cells i hi; exact ⟨v,k.cell hs hv⟩,fun i hi => by rw [World.frozen?_of_block (w:=w) (k.block R h.lt hs)]; exact h.fz i hi,Nat.lt_of_lt_of_le h.lt k.size⟩
theorem tri_set {w:World} {R:Nat} (h:Out w R) (v0 v1 v2:Value):Tri (((w.setCell ⟨R,0,none⟩ v0).setCell ⟨R,1,none⟩ v1).setCell ⟨R,2,none⟩ v2) R v0 v1 v2:=by
 obtain ⟨a,b,c,d⟩:=three_set w R v0 v1 v2 h.cells
 have f:∀ j,(((w.setCell ⟨R,0,none⟩ v0).setCell ⟨R,1,none⟩ v1).setCell ⟨R,2,none⟩ v2).frozen? ⟨R,j,none⟩ = w.frozen? ⟨R,j,none⟩:=fun j => by rw [World.frozen?_setCell,World.frozen?_setCell,World.frozen?_setCell]
 exact ⟨a,b,c,(f 0).trans (h.fz 0 (by decide)),(f 1).trans (h.fz 1 (by decide)),(f 2).trans (h.fz 2 (by decide)),Nat.lt_of_lt_of_le h.lt d.size⟩

set_option maxRecDepth 100000 in
set_option maxHeartbeats 64000000 in
theorem lists_any (ps qs pl ql:List Nq) (hpl:pl.map conQ = ps.map conQ) (hql:ql.map conQ = qs.map conQ) (a_x:Option Addr) (n_x c_x:Nat) (a_y:Option Addr) (n_y c_y:Nat) (a_l:Option Addr) (n_l c_l:Nat) (a_m:Option Addr) (n_m c_m:Nat) (w:World) (h_x:SlQ w a_x n_x c_x ps) (b_x:n_x ≤ 140737488355328) (h_y:SlQ w a_y n_y c_y qs) (b_y:n_y ≤ 140737488355328) (h_l:SlQ w a_l n_l c_l pl) (b_l:n_l ≤ 140737488355328) (h_m:SlQ w a_m n_m c_m ql) (b_m:n_m ≤ 140737488355328) (hT:Tab64 w) :
  Calls Tryz.prog 32 #[.slice a_x n_x c_x,.slice a_y n_y c_y,.slice a_l n_l c_l,.slice a_m n_m c_m] w fun e w' => e = .returned (.bool true) ∧ Below w.heap.size w w':=by
 have A00:Fcts w w [fTab]:=⟨Below.refl _ _,fun f hf => by simp at hf; subst hf; exact hT⟩
 have A01:=A00.add (fS a_x n_x c_x ps) h_x
 have A02:=A01.add (fS a_y n_y c_y qs) h_y
 have A03:=A02.add (fS a_l n_l c_l pl) h_l
 have A04:=A03.add (fS a_m n_m c_m ql) h_m
 have A0:=Hd A04
 have HB_:=Hd (And.intro b_x (And.intro b_y (And.intro b_l b_m)))
 obtain ⟨⟨⟨g_s,x_s,y_s⟩,e_s⟩,hs⟩:∃ r,foldQ AddF [] ps = r:=⟨_,rfl⟩
 have Hs:=Hd hs
 have Ls:=Hd ((foldQ_con AddF [] hpl).trans hs)
 clear hs
 obtain ⟨⟨⟨g_t,x_t,y_t⟩,e_t⟩,ht⟩:∃ r,foldQ MulF [1] ps = r:=⟨_,rfl⟩
 have Ht:=Hd ht
 have Lt:=Hd ((foldQ_con MulF [1] hpl).trans ht)
 clear ht
 obtain ⟨⟨⟨g_z,x_z,y_z⟩,e_z⟩,hz⟩:∃ r,dotQ ps qs = r:=⟨_,rfl⟩
 have Hz:=Hd hz
 have Lz:=Hd ((dotQ_con hpl hql).trans hz)
 clear hz
 clear A00 hT hpl hql A01 h_x b_x A02 h_y b_y A03 h_l b_l A04 h_m b_m
 go_enter Tryz.func32,Tryz.ntmps32
 have AB:=A0
 obtain ⟨wB,hwB⟩:∃ x,w = x:=⟨_,rfl⟩
 clear hwB
 have HBW:=Hd (Below.refl w.heap.size w)
 have AC0a:=Hd ((Uh AB).step (Uh HBW))
 go_wp2_with fail
 have K:=rSum_any a_x n_x c_x ps w ((Uh AC0a).s a_x n_x c_x ps mM3) (Uh HB_).1 ((Uh AC0a).tab mM4)
 rw [Uh Hs] at K
 try unfold ResF at K
 try dsimp only at K
 try unfold ratV at K
 refine K.mono ?_
 clear K
 rintro _ W01 ⟨v,rfl,ar0,nr0,cr0,br0,mr0,dr0,rfl,sx,sy,nx,ny,hb⟩
 try dsimp only at sx sy
 unfold ratV
 have hB1:=(Uh HBW).trans (hb.mono (Uh HBW).size)
 obtain ⟨W02,hW02⟩:∃ x,W01.alloc (.cells #[.bool g_s,.slice ar0 nr0 cr0,.slice br0 mr0 dr0] 25) = x:=⟨_,rfl⟩
 have hal:Below W01.heap.size W01 W02:=by rw [← hW02]; exact bAl
 have TR0:=Hd (show Tri W02 W01.heap.size (.bool g_s) (.slice ar0 nr0 cr0) (.slice br0 mr0 dr0) by rw [← hW02]; exact Tri.made _ _ _ _ _)
 have RBr:=Hd (show w.heap.size ≤ W01.heap.size from hB1.size)
 have HB02:=Hd (hB1.trans (hal.mono hB1.size))
 have LR0:=Hd (And.intro (sx.below hal) (And.intro (sy.below hal) (And.intro (show NewAt w.heap.size ar0 from nx) (show NewAt w.heap.size br0 from ny))))
 clear sx sy nx ny hb hal hB1
 have AC0b:=Hd ((Uh AB).step (Uh HB02))
 go_wp2_with fail
 have K:=wSum_any a_l n_l c_l pl W02 ((Uh AC0b).s a_l n_l c_l pl mM1) (Uh HB_).2.2.1
 rw [Uh Ls] at K
 try unfold ResF at K
 try dsimp only at K
 try unfold ratV at K
 refine K.mono ?_
 clear K
 rintro _ W03 ⟨v,rfl,as0,ns0,cs0,bs0,ms0,ds0,rfl,sx,sy,nx,ny,hb⟩
 try dsimp only at sx sy
 unfold ratV
 have hB3:=(Uh HB02).trans (hb.mono (Uh HB02).size)
 have tr:=(Uh TR0).keep hb
 obtain ⟨W04,hW04⟩:∃ x,W03.alloc (.cells #[.bool g_s,.slice as0 ns0 cs0,.slice bs0 ms0 ds0] 25) = x:=⟨_,rfl⟩
 have hal:Below W03.heap.size W03 W04:=by rw [← hW04]; exact bAl
 have TS0:=Hd (show Tri W04 W03.heap.size (.bool g_s) (.slice as0 ns0 cs0) (.slice bs0 ms0 ds0) by rw [← hW04]; exact Tri.made _ _ _ _ _)
 have RBs:=Hd (show w.heap.size ≤ W03.heap.size from hB3.size)
 have RNE:=Hd (show W01.heap.size ≠ W03.heap.size from Nat.ne_of_lt tr.lt)
 have TQ0:=Hd (tr.keep hal)
 have HB04:=Hd (hB3.trans (hal.mono hB3.size))
 have LS0:=Hd (And.intro (((Uh LR0).1.below hb).below hal) (And.intro (((Uh LR0).2.1.below hb).below hal) (And.intro (sx.below hal) (sy.below hal))))
 clear sx sy nx ny hb hal hB3 tr TR0 LR0
 have tq:=Uh TQ0
 have ts:=Uh TS0
 have tq0:=tq.c0
 have ts0:=ts.c0
 have tq1:=tq.c1
 have ts1:=ts.c1
 have tq2:=tq.c2
 have ts2:=ts.c2
 clear tq ts
 go_wp2_with fail
 clear tq0 tq1 tq2 ts0 ts1 ts2
 have K:=like_any g_s ar0 br0 as0 bs0 nr0 cr0 mr0 dr0 ns0 cs0 ms0 ds0 x_s y_s e_s W04 (Uh LS0).1 (Uh LS0).2.1 (Uh LS0).2.2.1 (Uh LS0).2.2.2
 try unfold ratV at K
 refine K.mono ?_
 clear K
 rintro _ W05 ⟨rfl,hb⟩
 have HB05:=Hd ((Uh HB04).trans (hb.mono (Uh HB04).size))
 have OR:=Hd ((Uh TQ0).out.keep hb)
 have OS:=Hd ((Uh TS0).out.keep hb)
 clear hb TQ0 TS0 LS0 HB02 HB04  AC0a AC0b
 have AC1a:=Hd ((Uh AB).step (Uh HB05))
 go_wp2_with fail
 have K:=rProduct_any a_x n_x c_x ps W05 ((Uh AC1a).s a_x n_x c_x ps mM3) (Uh HB_).1 ((Uh AC1a).tab mM4)
 rw [Uh Ht] at K
 try unfold ResF at K
 try dsimp only at K
 try unfold ratV at K
 refine K.mono ?_
 clear K
 rintro _ W11 ⟨v,rfl,ar1,nr1,cr1,br1,mr1,dr1,rfl,sx,sy,nx,ny,hb⟩
 try dsimp only at sx sy
 unfold ratV
 have hB1:=(Uh HB05).trans (hb.mono (Uh HB05).size)
 have tx:=(Uh OR).keep hb
 have ty:=(Uh OS).keep hb
 have c4:=three_set W11 (W01.heap.size) (.bool g_t) (.slice ar1 nr1 cr1) (.slice br1 mr1 dr1) tx.cells
 have TR1:=Hd (tri_set tx (.bool g_t) (.slice ar1 nr1 cr1) (.slice br1 mr1 dr1))
 have OS2:=Hd (ty.chgW c4.2.2.2 (fun h => Uh RNE h.symm))
 have hlR:=(Uh OR).lt
 have HlS:=Hd (Uh OS).lt
 have HB12:=Hd (hB1.trans (c4.2.2.2.below hB1.size (fun k hk h => by have:=Uh RBr; omega)))
 have LR1:=Hd (show Sl (((W11.setCell ⟨W01.heap.size,0,none⟩ (.bool g_t)).setCell ⟨W01.heap.size,1,none⟩ (.slice ar1 nr1 cr1)).setCell ⟨W01.heap.size,2,none⟩ (.slice br1 mr1 dr1)) ar1 nr1 cr1 x_t ∧ Sl (((W11.setCell ⟨W01.heap.size,0,none⟩ (.bool g_t)).setCell ⟨W01.heap.size,1,none⟩ (.slice ar1 nr1 cr1)).setCell ⟨W01.heap.size,2,none⟩ (.slice br1 mr1 dr1)) br1 mr1 dr1 y_t ∧ NewAt W05.heap.size ar1 ∧ NewAt W05.heap.size br1 from ⟨sx.chg c4.2.2.2 (fun p hp _ h => by have:=nx p hp; omega),sy.chg c4.2.2.2 (fun p hp _ h => by have:=ny p hp; omega),nx,ny⟩)
 obtain ⟨z0,q0⟩:=tx.cells 0 (by decide)
 obtain ⟨z1,q1⟩:=tx.cells 1 (by decide)
 obtain ⟨z2,q2⟩:=tx.cells 2 (by decide)
 have r0:=tx.fz 0 (by decide)
 have r1:=tx.fz 1 (by decide)
 have r2:=tx.fz 2 (by decide)
 clear sx sy nx ny hb hB1 c4 tx ty hlR OR OS
 have AC1b:=Hd ((Uh AB).step (Uh HB12))
 go_wp2_with fail
 clear  q0 q1 q2 r0 r1 r2
 generalize ((W11.setCell ⟨W01.heap.size,0,none⟩ (.bool g_t)).setCell ⟨W01.heap.size,1,none⟩ (.slice ar1 nr1 cr1)).setCell ⟨W01.heap.size,2,none⟩ (.slice br1 mr1 dr1) = W12 at *
 have K:=wProduct_any a_l n_l c_l pl W12 ((Uh AC1b).s a_l n_l c_l pl mM1) (Uh HB_).2.2.1
 rw [Uh Lt] at K
 try unfold ResF at K
 try dsimp only at K
 try unfold ratV at K
 refine K.mono ?_
 clear K
 rintro _ W13 ⟨v,rfl,as1,ns1,cs1,bs1,ms1,ds1,rfl,sx,sy,nx,ny,hb⟩
 try dsimp only at sx sy
 unfold ratV
 have hB3:=(Uh HB12).trans (hb.mono (Uh HB12).size)
 have tr:=(Uh TR1).keep hb
 have tx:=(Uh OS2).keep hb
 have c4:=three_set W13 (W03.heap.size) (.bool g_t) (.slice as1 ns1 cs1) (.slice bs1 ms1 ds1) tx.cells
 have TS1:=Hd (tri_set tx (.bool g_t) (.slice as1 ns1 cs1) (.slice bs1 ms1 ds1))
 have TQ1:=Hd (tr.chgW c4.2.2.2 (fun h => Uh RNE h))
 have HB14:=Hd (hB3.trans (c4.2.2.2.below hB3.size (fun k hk h => by have:=Uh RBs; omega)))
 have hl2:=(Uh OS2).lt
 have hlS:=Uh HlS
 have LS1:=Hd (show Sl (((W13.setCell ⟨W03.heap.size,0,none⟩ (.bool g_t)).setCell ⟨W03.heap.size,1,none⟩ (.slice as1 ns1 cs1)).setCell ⟨W03.heap.size,2,none⟩ (.slice bs1 ms1 ds1)) ar1 nr1 cr1 x_t ∧ Sl (((W13.setCell ⟨W03.heap.size,0,none⟩ (.bool g_t)).setCell ⟨W03.heap.size,1,none⟩ (.slice as1 ns1 cs1)).setCell ⟨W03.heap.size,2,none⟩ (.slice bs1 ms1 ds1)) br1 mr1 dr1 y_t ∧ Sl (((W13.setCell ⟨W03.heap.size,0,none⟩ (.bool g_t)).setCell ⟨W03.heap.size,1,none⟩ (.slice as1 ns1 cs1)).setCell ⟨W03.heap.size,2,none⟩ (.slice bs1 ms1 ds1)) as1 ns1 cs1 x_t ∧ Sl (((W13.setCell ⟨W03.heap.size,0,none⟩ (.bool g_t)).setCell ⟨W03.heap.size,1,none⟩ (.slice as1 ns1 cs1)).setCell ⟨W03.heap.size,2,none⟩ (.slice bs1 ms1 ds1)) bs1 ms1 ds1 y_t from ⟨((Uh LR1).1.below hb).chg c4.2.2.2 (fun p hp _ h => by have:=(Uh LR1).2.2.1 p hp; omega),((Uh LR1).2.1.below hb).chg c4.2.2.2 (fun p hp _ h => by have:=(Uh LR1).2.2.2 p hp; omega),sx.chg c4.2.2.2 (fun p hp _ h => by have:=nx p hp; omega),sy.chg c4.2.2.2 (fun p hp _ h => by have:=ny p hp; omega)⟩)
 obtain ⟨z0,q0⟩:=tx.cells 0 (by decide)
 obtain ⟨z1,q1⟩:=tx.cells 1 (by decide)
 obtain ⟨z2,q2⟩:=tx.cells 2 (by decide)
 have r0:=tx.fz 0 (by decide)
 have r1:=tx.fz 1 (by decide)
 have r2:=tx.fz 2 (by decide)
 clear sx sy nx ny hb hB3 c4 tx hl2 hlS tr TR1 LR1 OS2 HlS
 have tq:=Uh TQ1
 have ts:=Uh TS1
 have tq0:=tq.c0
 have ts0:=ts.c0
 have tq1:=tq.c1
 have ts1:=ts.c1
 have tq2:=tq.c2
 have ts2:=ts.c2
 clear tq ts
 go_wp2_with fail
 clear tq0 tq1 tq2 ts0 ts1 ts2 q0 q1 q2 r0 r1 r2
 generalize ((W13.setCell ⟨W03.heap.size,0,none⟩ (.bool g_t)).setCell ⟨W03.heap.size,1,none⟩ (.slice as1 ns1 cs1)).setCell ⟨W03.heap.size,2,none⟩ (.slice bs1 ms1 ds1) = W14 at *
 have K:=like_any g_t ar1 br1 as1 bs1 nr1 cr1 mr1 dr1 ns1 cs1 ms1 ds1 x_t y_t e_t W14 (Uh LS1).1 (Uh LS1).2.1 (Uh LS1).2.2.1 (Uh LS1).2.2.2
 try unfold ratV at K
 refine K.mono ?_
 clear K
 rintro _ W15 ⟨rfl,hb⟩
 have HB15:=Hd ((Uh HB14).trans (hb.mono (Uh HB14).size))
 have OR:=Hd ((Uh TQ1).out.keep hb)
 have OS:=Hd ((Uh TS1).out.keep hb)
 clear hb TQ1 TS1 LS1 HB12 HB14 HB05 AC1a AC1b
 have AC2a:=Hd ((Uh AB).step (Uh HB15))
 go_wp2_with fail
 have K:=rDot_any a_x n_x c_x ps a_y n_y c_y qs W15 ((Uh AC2a).s a_x n_x c_x ps mM3) ((Uh AC2a).s a_y n_y c_y qs mM2) (Uh HB_).1 (Uh HB_).2.1 ((Uh AC2a).tab mM4)
 rw [Uh Hz] at K
 try unfold ResF at K
 try dsimp only at K
 try unfold ratV at K
 refine K.mono ?_
 clear K
 rintro _ W21 ⟨v,rfl,ar2,nr2,cr2,br2,mr2,dr2,rfl,sx,sy,nx,ny,hb⟩
 try dsimp only at sx sy
 unfold ratV
 have hB1:=(Uh HB15).trans (hb.mono (Uh HB15).size)
 have tx:=(Uh OR).keep hb
 have ty:=(Uh OS).keep hb
 have c4:=three_set W21 (W01.heap.size) (.bool g_z) (.slice ar2 nr2 cr2) (.slice br2 mr2 dr2) tx.cells
 have TR2:=Hd (tri_set tx (.bool g_z) (.slice ar2 nr2 cr2) (.slice br2 mr2 dr2))
 have OS2:=Hd (ty.chgW c4.2.2.2 (fun h => Uh RNE h.symm))
 have hlR:=(Uh OR).lt
 have HlS:=Hd (Uh OS).lt
 have HB22:=Hd (hB1.trans (c4.2.2.2.below hB1.size (fun k hk h => by have:=Uh RBr; omega)))
 have LR2:=Hd (show Sl (((W21.setCell ⟨W01.heap.size,0,none⟩ (.bool g_z)).setCell ⟨W01.heap.size,1,none⟩ (.slice ar2 nr2 cr2)).setCell ⟨W01.heap.size,2,none⟩ (.slice br2 mr2 dr2)) ar2 nr2 cr2 x_z ∧ Sl (((W21.setCell ⟨W01.heap.size,0,none⟩ (.bool g_z)).setCell ⟨W01.heap.size,1,none⟩ (.slice ar2 nr2 cr2)).setCell ⟨W01.heap.size,2,none⟩ (.slice br2 mr2 dr2)) br2 mr2 dr2 y_z ∧ NewAt W15.heap.size ar2 ∧ NewAt W15.heap.size br2 from ⟨sx.chg c4.2.2.2 (fun p hp _ h => by have:=nx p hp; omega),sy.chg c4.2.2.2 (fun p hp _ h => by have:=ny p hp; omega),nx,ny⟩)
 obtain ⟨z0,q0⟩:=tx.cells 0 (by decide)
 obtain ⟨z1,q1⟩:=tx.cells 1 (by decide)
 obtain ⟨z2,q2⟩:=tx.cells 2 (by decide)
 have r0:=tx.fz 0 (by decide)
 have r1:=tx.fz 1 (by decide)
 have r2:=tx.fz 2 (by decide)
 clear sx sy nx ny hb hB1 c4 tx ty hlR OR OS
 have AC2b:=Hd ((Uh AB).step (Uh HB22))
 go_wp2_with fail
 clear  q0 q1 q2 r0 r1 r2
 generalize ((W21.setCell ⟨W01.heap.size,0,none⟩ (.bool g_z)).setCell ⟨W01.heap.size,1,none⟩ (.slice ar2 nr2 cr2)).setCell ⟨W01.heap.size,2,none⟩ (.slice br2 mr2 dr2) = W22 at *
 have K:=wDot_any a_l n_l c_l pl a_m n_m c_m ql W22 ((Uh AC2b).s a_l n_l c_l pl mM1) ((Uh AC2b).s a_m n_m c_m ql (.head _)) (Uh HB_).2.2.1 (Uh HB_).2.2.2
 rw [Uh Lz] at K
 try unfold ResF at K
 try dsimp only at K
 try unfold ratV at K
 refine K.mono ?_
 clear K
 rintro _ W23 ⟨v,rfl,as2,ns2,cs2,bs2,ms2,ds2,rfl,sx,sy,nx,ny,hb⟩
 try dsimp only at sx sy
 unfold ratV
 have hB3:=(Uh HB22).trans (hb.mono (Uh HB22).size)
 have tr:=(Uh TR2).keep hb
 have tx:=(Uh OS2).keep hb
 have c4:=three_set W23 (W03.heap.size) (.bool g_z) (.slice as2 ns2 cs2) (.slice bs2 ms2 ds2) tx.cells
 have TS2:=Hd (tri_set tx (.bool g_z) (.slice as2 ns2 cs2) (.slice bs2 ms2 ds2))
 have TQ2:=Hd (tr.chgW c4.2.2.2 (fun h => Uh RNE h))
 have HB24:=Hd (hB3.trans (c4.2.2.2.below hB3.size (fun k hk h => by have:=Uh RBs; omega)))
 have hl2:=(Uh OS2).lt
 have hlS:=Uh HlS
 have LS2:=Hd (show Sl (((W23.setCell ⟨W03.heap.size,0,none⟩ (.bool g_z)).setCell ⟨W03.heap.size,1,none⟩ (.slice as2 ns2 cs2)).setCell ⟨W03.heap.size,2,none⟩ (.slice bs2 ms2 ds2)) ar2 nr2 cr2 x_z ∧ Sl (((W23.setCell ⟨W03.heap.size,0,none⟩ (.bool g_z)).setCell ⟨W03.heap.size,1,none⟩ (.slice as2 ns2 cs2)).setCell ⟨W03.heap.size,2,none⟩ (.slice bs2 ms2 ds2)) br2 mr2 dr2 y_z ∧ Sl (((W23.setCell ⟨W03.heap.size,0,none⟩ (.bool g_z)).setCell ⟨W03.heap.size,1,none⟩ (.slice as2 ns2 cs2)).setCell ⟨W03.heap.size,2,none⟩ (.slice bs2 ms2 ds2)) as2 ns2 cs2 x_z ∧ Sl (((W23.setCell ⟨W03.heap.size,0,none⟩ (.bool g_z)).setCell ⟨W03.heap.size,1,none⟩ (.slice as2 ns2 cs2)).setCell ⟨W03.heap.size,2,none⟩ (.slice bs2 ms2 ds2)) bs2 ms2 ds2 y_z from ⟨((Uh LR2).1.below hb).chg c4.2.2.2 (fun p hp _ h => by have:=(Uh LR2).2.2.1 p hp; omega),((Uh LR2).2.1.below hb).chg c4.2.2.2 (fun p hp _ h => by have:=(Uh LR2).2.2.2 p hp; omega),sx.chg c4.2.2.2 (fun p hp _ h => by have:=nx p hp; omega),sy.chg c4.2.2.2 (fun p hp _ h => by have:=ny p hp; omega)⟩)
 obtain ⟨z0,q0⟩:=tx.cells 0 (by decide)
 obtain ⟨z1,q1⟩:=tx.cells 1 (by decide)
 obtain ⟨z2,q2⟩:=tx.cells 2 (by decide)
 have r0:=tx.fz 0 (by decide)
 have r1:=tx.fz 1 (by decide)
 have r2:=tx.fz 2 (by decide)
 clear sx sy nx ny hb hB3 c4 tx hl2 hlS tr TR2 LR2 OS2 HlS
 have tq:=Uh TQ2
 have ts:=Uh TS2
 have tq0:=tq.c0
 have ts0:=ts.c0
 have tq1:=tq.c1
 have ts1:=ts.c1
 have tq2:=tq.c2
 have ts2:=ts.c2
 clear tq ts
 go_wp2_with fail
 clear tq0 tq1 tq2 ts0 ts1 ts2 q0 q1 q2 r0 r1 r2
 generalize ((W23.setCell ⟨W03.heap.size,0,none⟩ (.bool g_z)).setCell ⟨W03.heap.size,1,none⟩ (.slice as2 ns2 cs2)).setCell ⟨W03.heap.size,2,none⟩ (.slice bs2 ms2 ds2) = W24 at *
 have K:=like_any g_z ar2 br2 as2 bs2 nr2 cr2 mr2 dr2 ns2 cs2 ms2 ds2 x_z y_z e_z W24 (Uh LS2).1 (Uh LS2).2.1 (Uh LS2).2.2.1 (Uh LS2).2.2.2
 try unfold ratV at K
 refine K.mono ?_
 clear K
 rintro _ W25 ⟨rfl,hb⟩
 have HB25:=Hd ((Uh HB24).trans (hb.mono (Uh HB24).size))
 have OR:=Hd ((Uh TQ2).out.keep hb)
 have OS:=Hd ((Uh TS2).out.keep hb)
 clear hb TQ2 TS2 LS2 HB22 HB24 HB15 AC2a AC2b
 go_wp2_with fail
 go_ret
 exact ⟨rfl,(Uh AB).bel.trans ((Uh HB25).mono (Uh AB).bel.size)⟩
end Go.Proofs.YtmmeiebbnjjijaaGreatDoor
