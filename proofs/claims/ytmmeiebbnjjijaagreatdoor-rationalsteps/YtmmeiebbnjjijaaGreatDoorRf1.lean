/- Rf1 -/
import Derived.Test.YtmmeiebbnjjijaaGreatDoorRl5
import Derived.StillTailTactics
namespace Go.Proofs.YtmmeiebbnjjijaaGreatDoor
open Go.RowKit Go.Deep
set_option linter.unusedVariables false
def didV (g:Bool) (a:Option Addr) (n c:Nat) (b:Option Addr) (m d:Nat) (ok:Bool):Value:=.agg #[.bool g,.slice a n c,.slice b m d,.bool ok]
def NewD (w w':World) (g:Bool) (xs ys:List Nat) (ok:Bool) (e:Ending):Prop :=
 ∃ a n c b m d,e = .returned (didV g a n c b m d ok) ∧ Sl w' a n c xs ∧ Sl w' b m d ys ∧ Below w.heap.size w w'
structure Quad (w:World) (R:Nat) (v0 v1 v2 v3:Value):Prop where
 tri:Tri w R v0 v1 v2
 c3:w.cell? ⟨R,3,none⟩ = some v3
 f3:w.frozen? ⟨R,3,none⟩ = false
theorem Quad.keep {w w':World} {R:Nat} {v0 v1 v2 v3:Value} (h:Quad w R v0 v1 v2 v3) (k:Below w.heap.size w w'):Quad w' R v0 v1 v2 v3:=by
 have hc:w'.cell? ⟨R,3,none⟩ = w.cell? ⟨R,3,none⟩:=by unfold World.cell?; simp only; rw [k.block _ h.tri.lt]
 have hf:w'.frozen? ⟨R,3,none⟩ = w.frozen? ⟨R,3,none⟩:=by unfold World.frozen?; simp only; rw [k.block _ h.tri.lt]
 exact ⟨h.tri.keep k,hc.trans h.c3,hf.trans h.f3⟩
theorem Quad.made (w:World) (v0 v1 v2 v3:Value) (e:TypeId):Quad (w.alloc (.cells #[v0,v1,v2,v3] e)) w.heap.size v0 v1 v2 v3:=by
 refine ⟨⟨?_,?_,?_,?_,?_,?_,?_⟩,?_,?_⟩ <;> simp
def fQ (R:Nat) (v0 v1 v2 v3:Value):Fct:=⟨fun w => Quad w R v0 v1 v2 v3,fun k h => h.keep k⟩
theorem Fcts.q {w0 w:World} {L:List Fct} (h:Fcts w0 w L) (R:Nat) (v0 v1 v2 v3:Value) (hm:fQ R v0 v1 v2 v3 ∈ L):Quad w R v0 v1 v2 v3:=h.all _ hm
theorem Fcts.quad {w0 w:World} {L:List Fct} (h:Fcts w0 w L) (v0 v1 v2 v3:Value) (e:TypeId):Fcts w0 (w.alloc (.cells #[v0,v1,v2,v3] e)) (fQ w.heap.size v0 v1 v2 v3 :: L) :=
 (h.step (bAl)).add (fQ w.heap.size v0 v1 v2 v3) (Quad.made _ _ _ _ _ _)
theorem quad_set (w1:World) (R:Nat) (v0 v1 v2 v3:Value) {u0 u1 u2 u3:Value} (h:Quad w1 R u0 u1 u2 u3) :
  ((((w1.setCell ⟨R,0,none⟩ v0).setCell ⟨R,1,none⟩ v1).setCell ⟨R,2,none⟩ v2).setCell ⟨R,3,none⟩ v3).cell? ⟨R,0,none⟩ = some v0 ∧
  ((((w1.setCell ⟨R,0,none⟩ v0).setCell ⟨R,1,none⟩ v1).setCell ⟨R,2,none⟩ v2).setCell ⟨R,3,none⟩ v3).cell? ⟨R,1,none⟩ = some v1 ∧
  ((((w1.setCell ⟨R,0,none⟩ v0).setCell ⟨R,1,none⟩ v1).setCell ⟨R,2,none⟩ v2).setCell ⟨R,3,none⟩ v3).cell? ⟨R,2,none⟩ = some v2 ∧
  ((((w1.setCell ⟨R,0,none⟩ v0).setCell ⟨R,1,none⟩ v1).setCell ⟨R,2,none⟩ v2).setCell ⟨R,3,none⟩ v3).cell? ⟨R,3,none⟩ = some v3 ∧
  Chg (fun j => j = R) w1 ((((w1.setCell ⟨R,0,none⟩ v0).setCell ⟨R,1,none⟩ v1).setCell ⟨R,2,none⟩ v2).setCell ⟨R,3,none⟩ v3):=by
 obtain ⟨t0,t1,t2,c4⟩:=three_set w1 R v0 v1 v2 h.tri.out.cells
 have h3:(((w1.setCell ⟨R,0,none⟩ v0).setCell ⟨R,1,none⟩ v1).setCell ⟨R,2,none⟩ v2).cell? ⟨R,3,none⟩ = some u3:=by
  rw [World.cell?_setCell_other _ _ _ _ (by simp),World.cell?_setCell_other _ _ _ _ (by simp),World.cell?_setCell_other _ _ _ _ (by simp)]; exact h.c3
 refine ⟨?_,?_,?_,World.cell?_setCell_same _ _ _ h3,c4.trans (Chg.of_set (S:=fun j => j = R) _ _ _ _ rfl)⟩
 ·rw [World.cell?_setCell_other _ _ _ _ (by simp)]; exact t0
 ·rw [World.cell?_setCell_other _ _ _ _ (by simp)]; exact t1
 ·rw [World.cell?_setCell_other _ _ _ _ (by simp)]; exact t2

set_option maxHeartbeats 8000000 in
set_option maxRecDepth 100000 in
theorem didSum_any (g1 g2 k1 k2:Bool) (a1 b1 a2 b2:Option Addr) (n1 c1 m1 d1 n2 c2 m2 d2:Nat) (x1 y1 x2 y2:List Nat) (w:World) (hx1:Sl w a1 n1 c1 x1) (hy1:Sl w b1 m1 d1 y1) (hx2:Sl w a2 n2 c2 x2) (hy2:Sl w b2 m2 d2 y2) (ox1:Ok x1) (oy1:Ok y1) (ox2:Ok x2) (oy2:Ok y2) (hT:Tab64 w) :
  Calls Tryz.prog 22 #[didV g1 a1 n1 c1 b1 m1 d1 k1,didV g2 a2 n2 c2 b2 m2 d2 k2] w fun e w' => NewD w w' (AddF g1 x1 y1 g2 x2 y2).1.1 (AddF g1 x1 y1 g2 x2 y2).1.2.1 (AddF g1 x1 y1 g2 x2 y2).1.2.2 (k1 && (k2 && ((AddF g1 x1 y1 g2 x2 y2).2 == 0))) e:=by
 obtain ⟨⟨⟨g,x,y⟩,er⟩,hR⟩:∃ r,AddF g1 x1 y1 g2 x2 y2 = r:=⟨_,rfl⟩
 obtain ⟨kk,hkk⟩:∃ k,(k1 && (k2 && (er == 0))) = k:=⟨_,rfl⟩
 rw [hR]
 show Calls Tryz.prog 22 #[didV g1 a1 n1 c1 b1 m1 d1 k1,didV g2 a2 n2 c2 b2 m2 d2 k2] w fun e w' => NewD w w' g x y (k1 && (k2 && (er == 0))) e
 rw [hkk]
 have HKK:=Hd hkk
 obtain ⟨wa,hwa⟩:∃ z,w.alloc (.cells #[.bool g1,.slice a1 n1 c1,.slice b1 m1 d1,.bool k1] 44) = z:=⟨_,rfl⟩
 obtain ⟨wb,hwb⟩:∃ z,wa.alloc (.cells #[.bool g2,.slice a2 n2 c2,.slice b2 m2 d2,.bool k2] 44) = z:=⟨_,rfl⟩
 obtain ⟨wo,hwo⟩:∃ z,wb.alloc (.cells #[.bool false,.slice none 0 0,.slice none 0 0,.bool false] 44) = z:=⟨_,rfl⟩
 have hF0:Fcts w w [fTab,fN a1 n1 c1 x1 b1 m1 d1 y1,fN a2 n2 c2 x2 b2 m2 d2 y2]:=⟨Below.refl _ _,fun f hf => by simp at hf; rcases hf with rfl | rfl | rfl; exact hT; exact ⟨hx1,hy1⟩; exact ⟨hx2,hy2⟩⟩
 have hF1:=hF0.quad (.bool g1) (.slice a1 n1 c1) (.slice b1 m1 d1) (.bool k1) 44
 rw [hwa] at hF1
 have hF2:=hF1.quad (.bool g2) (.slice a2 n2 c2) (.slice b2 m2 d2) (.bool k2) 44
 rw [hwb] at hF2
 have hF3:=hF2.quad (.bool false) (.slice none 0 0) (.slice none 0 0) (.bool false) 44
 rw [hwo] at hF3
 have HW:=Hd (show w.heap.size ≤ wb.heap.size from hF2.bel.size)
 have q1:=hF3.q w.heap.size (.bool g1) (.slice a1 n1 c1) (.slice b1 m1 d1) (.bool k1) mM2
 have q2:=hF3.q wa.heap.size (.bool g2) (.slice a2 n2 c2) (.slice b2 m2 d2) (.bool k2) mM1
 have u0:=q1.tri.c0
 have u1:=q1.tri.c1
 have u2:=q1.tri.c2
 have u3:=q2.tri.c0
 have u4:=q2.tri.c1
 have u5:=q2.tri.c2
 have HLo:=Hd (hF3.q wb.heap.size (.bool false) (.slice none 0 0) (.slice none 0 0) (.bool false) (.head _)).tri.lt
 have i1:=hF3.n a1 n1 c1 x1 b1 m1 d1 y1 mM4
 have i2:=hF3.n a2 n2 c2 x2 b2 m2 d2 y2 mM5
 have K:=ratAdd_any g1 g2 a1 b1 a2 b2 n1 c1 m1 d1 n2 c2 m2 d2 x1 y1 x2 y2 wo i1.num i1.den i2.num i2.den ox1 oy1 ox2 oy2 (hF3.tab mM3)
 rw [hR] at K
 try dsimp only at K
 unfold ratV at K
 have HK:=Hd K
 have HF3:=Hd hF3
 clear hkk hR hF0 hF1 hF2 hF3 q1 q2 i1 i2 K hx1 hy1 hx2 hy2 hT
 unfold didV
 go_enter Tryz.func22,Tryz.ntmps22
 go_wp2_with fail
 refine (Uh HK).mono ?_
 rintro _ w1 ⟨v,rfl,ax,nx,cx,bx,mx,dx,rfl,sx,sy,ex,ey,hb⟩
 unfold ratV
 have hF4:=((Uh HF3).step hb).add (fN ax nx cx x bx mx dx y) ⟨sx,sy⟩
 obtain ⟨w2,hw2⟩:∃ z,w1.alloc (.cells #[.bool g,.slice ax nx cx,.slice bx mx dx] 25) = z:=⟨_,rfl⟩
 have hF5:=hF4.box (.bool g) (.slice ax nx cx) (.slice bx mx dx) 25
 rw [hw2] at hF5
 have HNE:=Hd (And.intro (fun p hp h => by have h1:=ex p hp; have h2:=Uh HLo; omega:∀ p,ax = some p → p.block ≠ wb.heap.size) (fun p hp h => by have h1:=ey p hp; have h2:=Uh HLo; omega:∀ p,bx = some p → p.block ≠ wb.heap.size))
 have q1:=hF5.q w.heap.size (.bool g1) (.slice a1 n1 c1) (.slice b1 m1 d1) (.bool k1) mM4
 have q2:=hF5.q wa.heap.size (.bool g2) (.slice a2 n2 c2) (.slice b2 m2 d2) (.bool k2) mM3
 have qo:=hF5.q wb.heap.size (.bool false) (.slice none 0 0) (.slice none 0 0) (.bool false) mM2
 have qx:=hF5.r w1.heap.size (.bool g) (.slice ax nx cx) (.slice bx mx dx) (.head _)
 have v3:=q1.c3
 have v4:=q2.c3
 have o0:=qo.tri.c0
 have o1:=qo.tri.c1
 have o2:=qo.tri.c2
 have o3:=qo.c3
 have p0:=qo.tri.f0
 have p1:=qo.tri.f1
 have p2:=qo.tri.f2
 have p3:=qo.f3
 have e0:=qx.c0
 have e1:=qx.c1
 have e2:=qx.c2
 have HF:=Hd hF5
 clear sx sy ex ey hb hF4 hF5 q1 q2 qo qx HK HF3 u0 u1 u2 u3 u4 u5 HLo
 cases k1
 ·obtain rfl:kk = false:=by rw [← Uh HKK]; rfl
  have H4:=Hd (quad_set w2 wb.heap.size (.bool g) (.slice ax nx cx) (.slice bx mx dx) (.bool false) ((Uh HF).q wb.heap.size (.bool false) (.slice none 0 0) (.slice none 0 0) (.bool false) mM2))
  go_wp2_with fail
  refine wp_region_still_tail 13 (by kernel_rfl) (by kernel_rfl) ?_
  simp only [List.take_succ_cons,List.take_zero,List.drop_succ_cons,List.drop_zero]
  repeat (first | still_step | still_call (rnum2_any _ _))
  refine wpStill_nil ?_
  go_wp2_with fail
  obtain ⟨t0,t1,t2,t3,c4⟩:=Uh H4
  generalize (((w2.setCell ⟨wb.heap.size,0,none⟩ (.bool g)).setCell ⟨wb.heap.size,1,none⟩ (.slice ax nx cx)).setCell ⟨wb.heap.size,2,none⟩ (.slice bx mx dx)).setCell ⟨wb.heap.size,3,none⟩ (.bool false) = wk at *
  refine bodyPost_ret (by simp [results,Tryz.results22,go_sem,t0,t1,t2,t3]; try rfl) rfl ?_
  have hn:=(Uh HF).n ax nx cx x bx mx dx y mM1
  have hb:=(Uh HF).bel
  exact ⟨ax,nx,cx,bx,mx,dx,rfl,(hn.num.chg c4 (fun p hp _ => (Uh HNE).1 p hp)).below (Below.refl _ _).drew,(hn.den.chg c4 (fun p hp _ => (Uh HNE).2 p hp)).below (Below.refl _ _).drew,(hb.trans (c4.below hb.size (fun k hk h => by have:=Uh HW; omega))).drew⟩
 ·cases k2
  ·obtain rfl:kk = false:=by rw [← Uh HKK]; rfl
   have H4:=Hd (quad_set w2 wb.heap.size (.bool g) (.slice ax nx cx) (.slice bx mx dx) (.bool false) ((Uh HF).q wb.heap.size (.bool false) (.slice none 0 0) (.slice none 0 0) (.bool false) mM2))
   go_wp2_with fail
   refine wp_region_still_tail 13 (by kernel_rfl) (by kernel_rfl) ?_
   simp only [List.take_succ_cons,List.take_zero,List.drop_succ_cons,List.drop_zero]
   repeat (first | still_step | still_call (rnum2_any _ _))
   refine wpStill_nil ?_
   go_wp2_with fail
   obtain ⟨t0,t1,t2,t3,c4⟩:=Uh H4
   generalize (((w2.setCell ⟨wb.heap.size,0,none⟩ (.bool g)).setCell ⟨wb.heap.size,1,none⟩ (.slice ax nx cx)).setCell ⟨wb.heap.size,2,none⟩ (.slice bx mx dx)).setCell ⟨wb.heap.size,3,none⟩ (.bool false) = wk at *
   refine bodyPost_ret (by simp [results,Tryz.results22,go_sem,t0,t1,t2,t3]; try rfl) rfl ?_
   have hn:=(Uh HF).n ax nx cx x bx mx dx y mM1
   have hb:=(Uh HF).bel
   exact ⟨ax,nx,cx,bx,mx,dx,rfl,(hn.num.chg c4 (fun p hp _ => (Uh HNE).1 p hp)).below (Below.refl _ _).drew,(hn.den.chg c4 (fun p hp _ => (Uh HNE).2 p hp)).below (Below.refl _ _).drew,(hb.trans (c4.below hb.size (fun k hk h => by have:=Uh HW; omega))).drew⟩
  ·by_cases hz:er = 0
   ·obtain rfl:kk = true:=by rw [← Uh HKK,hz]; rfl
    have hz2:(er == 0) = true:=by simpa using hz
    clear hz
    have H4:=Hd (quad_set w2 wb.heap.size (.bool g) (.slice ax nx cx) (.slice bx mx dx) (.bool true) ((Uh HF).q wb.heap.size (.bool false) (.slice none 0 0) (.slice none 0 0) (.bool false) mM2))
    go_wp2_with fail
    refine wp_region_still_tail 13 (by kernel_rfl) (by kernel_rfl) ?_
    simp only [List.take_succ_cons,List.take_zero,List.drop_succ_cons,List.drop_zero]
    repeat (first | still_step | still_call (rnum2_any _ _))
    refine wpStill_nil ?_
    go_wp2_with fail
    obtain ⟨t0,t1,t2,t3,c4⟩:=Uh H4
    generalize (((w2.setCell ⟨wb.heap.size,0,none⟩ (.bool g)).setCell ⟨wb.heap.size,1,none⟩ (.slice ax nx cx)).setCell ⟨wb.heap.size,2,none⟩ (.slice bx mx dx)).setCell ⟨wb.heap.size,3,none⟩ (.bool true) = wk at *
    refine bodyPost_ret (by simp [results,Tryz.results22,go_sem,t0,t1,t2,t3]; try rfl) rfl ?_
    have hn:=(Uh HF).n ax nx cx x bx mx dx y mM1
    have hb:=(Uh HF).bel
    exact ⟨ax,nx,cx,bx,mx,dx,rfl,(hn.num.chg c4 (fun p hp _ => (Uh HNE).1 p hp)).below (Below.refl _ _).drew,(hn.den.chg c4 (fun p hp _ => (Uh HNE).2 p hp)).below (Below.refl _ _).drew,(hb.trans (c4.below hb.size (fun k hk h => by have:=Uh HW; omega))).drew⟩
   ·have hz2:(er == 0) = false:=by simpa using hz
    obtain rfl:kk = false:=by rw [← Uh HKK,hz2]; rfl
    clear hz
    have H4:=Hd (quad_set w2 wb.heap.size (.bool g) (.slice ax nx cx) (.slice bx mx dx) (.bool false) ((Uh HF).q wb.heap.size (.bool false) (.slice none 0 0) (.slice none 0 0) (.bool false) mM2))
    go_wp2_with fail
    refine wp_region_still_tail 13 (by kernel_rfl) (by kernel_rfl) ?_
    simp only [List.take_succ_cons,List.take_zero,List.drop_succ_cons,List.drop_zero]
    repeat (first | still_step | still_call (rnum2_any _ _))
    refine wpStill_nil ?_
    go_wp2_with fail
    obtain ⟨t0,t1,t2,t3,c4⟩:=Uh H4
    generalize (((w2.setCell ⟨wb.heap.size,0,none⟩ (.bool g)).setCell ⟨wb.heap.size,1,none⟩ (.slice ax nx cx)).setCell ⟨wb.heap.size,2,none⟩ (.slice bx mx dx)).setCell ⟨wb.heap.size,3,none⟩ (.bool false) = wk at *
    refine bodyPost_ret (by simp [results,Tryz.results22,go_sem,t0,t1,t2,t3]; try rfl) rfl ?_
    have hn:=(Uh HF).n ax nx cx x bx mx dx y mM1
    have hb:=(Uh HF).bel
    exact ⟨ax,nx,cx,bx,mx,dx,rfl,(hn.num.chg c4 (fun p hp _ => (Uh HNE).1 p hp)).below (Below.refl _ _).drew,(hn.den.chg c4 (fun p hp _ => (Uh HNE).2 p hp)).below (Below.refl _ _).drew,(hb.trans (c4.below hb.size (fun k hk h => by have:=Uh HW; omega))).drew⟩

set_option maxHeartbeats 8000000 in
set_option maxRecDepth 100000 in
theorem didTimes_any (g1 g2 k1 k2:Bool) (a1 b1 a2 b2:Option Addr) (n1 c1 m1 d1 n2 c2 m2 d2:Nat) (x1 y1 x2 y2:List Nat) (w:World) (hx1:Sl w a1 n1 c1 x1) (hy1:Sl w b1 m1 d1 y1) (hx2:Sl w a2 n2 c2 x2) (hy2:Sl w b2 m2 d2 y2) (ox1:Ok x1) (oy1:Ok y1) (ox2:Ok x2) (oy2:Ok y2) (hT:Tab64 w) :
  Calls Tryz.prog 23 #[didV g1 a1 n1 c1 b1 m1 d1 k1,didV g2 a2 n2 c2 b2 m2 d2 k2] w fun e w' => NewD w w' (MulF g1 x1 y1 g2 x2 y2).1.1 (MulF g1 x1 y1 g2 x2 y2).1.2.1 (MulF g1 x1 y1 g2 x2 y2).1.2.2 (k1 && (k2 && ((MulF g1 x1 y1 g2 x2 y2).2 == 0))) e:=by
 obtain ⟨⟨⟨g,x,y⟩,er⟩,hR⟩:∃ r,MulF g1 x1 y1 g2 x2 y2 = r:=⟨_,rfl⟩
 obtain ⟨kk,hkk⟩:∃ k,(k1 && (k2 && (er == 0))) = k:=⟨_,rfl⟩
 rw [hR]
 show Calls Tryz.prog 23 #[didV g1 a1 n1 c1 b1 m1 d1 k1,didV g2 a2 n2 c2 b2 m2 d2 k2] w fun e w' => NewD w w' g x y (k1 && (k2 && (er == 0))) e
 rw [hkk]
 have HKK:=Hd hkk
 obtain ⟨wa,hwa⟩:∃ z,w.alloc (.cells #[.bool g1,.slice a1 n1 c1,.slice b1 m1 d1,.bool k1] 44) = z:=⟨_,rfl⟩
 obtain ⟨wb,hwb⟩:∃ z,wa.alloc (.cells #[.bool g2,.slice a2 n2 c2,.slice b2 m2 d2,.bool k2] 44) = z:=⟨_,rfl⟩
 obtain ⟨wo,hwo⟩:∃ z,wb.alloc (.cells #[.bool false,.slice none 0 0,.slice none 0 0,.bool false] 44) = z:=⟨_,rfl⟩
 have hF0:Fcts w w [fTab,fN a1 n1 c1 x1 b1 m1 d1 y1,fN a2 n2 c2 x2 b2 m2 d2 y2]:=⟨Below.refl _ _,fun f hf => by simp at hf; rcases hf with rfl | rfl | rfl; exact hT; exact ⟨hx1,hy1⟩; exact ⟨hx2,hy2⟩⟩
 have hF1:=hF0.quad (.bool g1) (.slice a1 n1 c1) (.slice b1 m1 d1) (.bool k1) 44
 rw [hwa] at hF1
 have hF2:=hF1.quad (.bool g2) (.slice a2 n2 c2) (.slice b2 m2 d2) (.bool k2) 44
 rw [hwb] at hF2
 have hF3:=hF2.quad (.bool false) (.slice none 0 0) (.slice none 0 0) (.bool false) 44
 rw [hwo] at hF3
 have HW:=Hd (show w.heap.size ≤ wb.heap.size from hF2.bel.size)
 have q1:=hF3.q w.heap.size (.bool g1) (.slice a1 n1 c1) (.slice b1 m1 d1) (.bool k1) mM2
 have q2:=hF3.q wa.heap.size (.bool g2) (.slice a2 n2 c2) (.slice b2 m2 d2) (.bool k2) mM1
 have u0:=q1.tri.c0
 have u1:=q1.tri.c1
 have u2:=q1.tri.c2
 have u3:=q2.tri.c0
 have u4:=q2.tri.c1
 have u5:=q2.tri.c2
 have HLo:=Hd (hF3.q wb.heap.size (.bool false) (.slice none 0 0) (.slice none 0 0) (.bool false) (.head _)).tri.lt
 have i1:=hF3.n a1 n1 c1 x1 b1 m1 d1 y1 mM4
 have i2:=hF3.n a2 n2 c2 x2 b2 m2 d2 y2 mM5
 have K:=ratMul_any g1 g2 a1 b1 a2 b2 n1 c1 m1 d1 n2 c2 m2 d2 x1 y1 x2 y2 wo i1.num i1.den i2.num i2.den ox1 oy1 ox2 oy2 (hF3.tab mM3)
 rw [hR] at K
 try dsimp only at K
 unfold ratV at K
 have HK:=Hd K
 have HF3:=Hd hF3
 clear hkk hR hF0 hF1 hF2 hF3 q1 q2 i1 i2 K hx1 hy1 hx2 hy2 hT
 unfold didV
 go_enter Tryz.func23,Tryz.ntmps23
 go_wp2_with fail
 refine (Uh HK).mono ?_
 rintro _ w1 ⟨v,rfl,ax,nx,cx,bx,mx,dx,rfl,sx,sy,ex,ey,hb⟩
 unfold ratV
 have hF4:=((Uh HF3).step hb).add (fN ax nx cx x bx mx dx y) ⟨sx,sy⟩
 obtain ⟨w2,hw2⟩:∃ z,w1.alloc (.cells #[.bool g,.slice ax nx cx,.slice bx mx dx] 25) = z:=⟨_,rfl⟩
 have hF5:=hF4.box (.bool g) (.slice ax nx cx) (.slice bx mx dx) 25
 rw [hw2] at hF5
 have HNE:=Hd (And.intro (fun p hp h => by have h1:=ex p hp; have h2:=Uh HLo; omega:∀ p,ax = some p → p.block ≠ wb.heap.size) (fun p hp h => by have h1:=ey p hp; have h2:=Uh HLo; omega:∀ p,bx = some p → p.block ≠ wb.heap.size))
 have q1:=hF5.q w.heap.size (.bool g1) (.slice a1 n1 c1) (.slice b1 m1 d1) (.bool k1) mM4
 have q2:=hF5.q wa.heap.size (.bool g2) (.slice a2 n2 c2) (.slice b2 m2 d2) (.bool k2) mM3
 have qo:=hF5.q wb.heap.size (.bool false) (.slice none 0 0) (.slice none 0 0) (.bool false) mM2
 have qx:=hF5.r w1.heap.size (.bool g) (.slice ax nx cx) (.slice bx mx dx) (.head _)
 have v3:=q1.c3
 have v4:=q2.c3
 have o0:=qo.tri.c0
 have o1:=qo.tri.c1
 have o2:=qo.tri.c2
 have o3:=qo.c3
 have p0:=qo.tri.f0
 have p1:=qo.tri.f1
 have p2:=qo.tri.f2
 have p3:=qo.f3
 have e0:=qx.c0
 have e1:=qx.c1
 have e2:=qx.c2
 have HF:=Hd hF5
 clear sx sy ex ey hb hF4 hF5 q1 q2 qo qx HK HF3 u0 u1 u2 u3 u4 u5 HLo
 cases k1
 ·obtain rfl:kk = false:=by rw [← Uh HKK]; rfl
  have H4:=Hd (quad_set w2 wb.heap.size (.bool g) (.slice ax nx cx) (.slice bx mx dx) (.bool false) ((Uh HF).q wb.heap.size (.bool false) (.slice none 0 0) (.slice none 0 0) (.bool false) mM2))
  go_wp2_with fail
  refine wp_region_still_tail 13 (by kernel_rfl) (by kernel_rfl) ?_
  simp only [List.take_succ_cons,List.take_zero,List.drop_succ_cons,List.drop_zero]
  repeat (first | still_step | still_call (rnum2_any _ _))
  refine wpStill_nil ?_
  go_wp2_with fail
  obtain ⟨t0,t1,t2,t3,c4⟩:=Uh H4
  generalize (((w2.setCell ⟨wb.heap.size,0,none⟩ (.bool g)).setCell ⟨wb.heap.size,1,none⟩ (.slice ax nx cx)).setCell ⟨wb.heap.size,2,none⟩ (.slice bx mx dx)).setCell ⟨wb.heap.size,3,none⟩ (.bool false) = wk at *
  refine bodyPost_ret (by simp [results,Tryz.results23,go_sem,t0,t1,t2,t3]; try rfl) rfl ?_
  have hn:=(Uh HF).n ax nx cx x bx mx dx y mM1
  have hb:=(Uh HF).bel
  exact ⟨ax,nx,cx,bx,mx,dx,rfl,(hn.num.chg c4 (fun p hp _ => (Uh HNE).1 p hp)).below (Below.refl _ _).drew,(hn.den.chg c4 (fun p hp _ => (Uh HNE).2 p hp)).below (Below.refl _ _).drew,(hb.trans (c4.below hb.size (fun k hk h => by have:=Uh HW; omega))).drew⟩
 ·cases k2
  ·obtain rfl:kk = false:=by rw [← Uh HKK]; rfl
   have H4:=Hd (quad_set w2 wb.heap.size (.bool g) (.slice ax nx cx) (.slice bx mx dx) (.bool false) ((Uh HF).q wb.heap.size (.bool false) (.slice none 0 0) (.slice none 0 0) (.bool false) mM2))
   go_wp2_with fail
   refine wp_region_still_tail 13 (by kernel_rfl) (by kernel_rfl) ?_
   simp only [List.take_succ_cons,List.take_zero,List.drop_succ_cons,List.drop_zero]
   repeat (first | still_step | still_call (rnum2_any _ _))
   refine wpStill_nil ?_
   go_wp2_with fail
   obtain ⟨t0,t1,t2,t3,c4⟩:=Uh H4
   generalize (((w2.setCell ⟨wb.heap.size,0,none⟩ (.bool g)).setCell ⟨wb.heap.size,1,none⟩ (.slice ax nx cx)).setCell ⟨wb.heap.size,2,none⟩ (.slice bx mx dx)).setCell ⟨wb.heap.size,3,none⟩ (.bool false) = wk at *
   refine bodyPost_ret (by simp [results,Tryz.results23,go_sem,t0,t1,t2,t3]; try rfl) rfl ?_
   have hn:=(Uh HF).n ax nx cx x bx mx dx y mM1
   have hb:=(Uh HF).bel
   exact ⟨ax,nx,cx,bx,mx,dx,rfl,(hn.num.chg c4 (fun p hp _ => (Uh HNE).1 p hp)).below (Below.refl _ _).drew,(hn.den.chg c4 (fun p hp _ => (Uh HNE).2 p hp)).below (Below.refl _ _).drew,(hb.trans (c4.below hb.size (fun k hk h => by have:=Uh HW; omega))).drew⟩
  ·by_cases hz:er = 0
   ·obtain rfl:kk = true:=by rw [← Uh HKK,hz]; rfl
    have hz2:(er == 0) = true:=by simpa using hz
    clear hz
    have H4:=Hd (quad_set w2 wb.heap.size (.bool g) (.slice ax nx cx) (.slice bx mx dx) (.bool true) ((Uh HF).q wb.heap.size (.bool false) (.slice none 0 0) (.slice none 0 0) (.bool false) mM2))
    go_wp2_with fail
    refine wp_region_still_tail 13 (by kernel_rfl) (by kernel_rfl) ?_
    simp only [List.take_succ_cons,List.take_zero,List.drop_succ_cons,List.drop_zero]
    repeat (first | still_step | still_call (rnum2_any _ _))
    refine wpStill_nil ?_
    go_wp2_with fail
    obtain ⟨t0,t1,t2,t3,c4⟩:=Uh H4
    generalize (((w2.setCell ⟨wb.heap.size,0,none⟩ (.bool g)).setCell ⟨wb.heap.size,1,none⟩ (.slice ax nx cx)).setCell ⟨wb.heap.size,2,none⟩ (.slice bx mx dx)).setCell ⟨wb.heap.size,3,none⟩ (.bool true) = wk at *
    refine bodyPost_ret (by simp [results,Tryz.results23,go_sem,t0,t1,t2,t3]; try rfl) rfl ?_
    have hn:=(Uh HF).n ax nx cx x bx mx dx y mM1
    have hb:=(Uh HF).bel
    exact ⟨ax,nx,cx,bx,mx,dx,rfl,(hn.num.chg c4 (fun p hp _ => (Uh HNE).1 p hp)).below (Below.refl _ _).drew,(hn.den.chg c4 (fun p hp _ => (Uh HNE).2 p hp)).below (Below.refl _ _).drew,(hb.trans (c4.below hb.size (fun k hk h => by have:=Uh HW; omega))).drew⟩
   ·have hz2:(er == 0) = false:=by simpa using hz
    obtain rfl:kk = false:=by rw [← Uh HKK,hz2]; rfl
    clear hz
    have H4:=Hd (quad_set w2 wb.heap.size (.bool g) (.slice ax nx cx) (.slice bx mx dx) (.bool false) ((Uh HF).q wb.heap.size (.bool false) (.slice none 0 0) (.slice none 0 0) (.bool false) mM2))
    go_wp2_with fail
    refine wp_region_still_tail 13 (by kernel_rfl) (by kernel_rfl) ?_
    simp only [List.take_succ_cons,List.take_zero,List.drop_succ_cons,List.drop_zero]
    repeat (first | still_step | still_call (rnum2_any _ _))
    refine wpStill_nil ?_
    go_wp2_with fail
    obtain ⟨t0,t1,t2,t3,c4⟩:=Uh H4
    generalize (((w2.setCell ⟨wb.heap.size,0,none⟩ (.bool g)).setCell ⟨wb.heap.size,1,none⟩ (.slice ax nx cx)).setCell ⟨wb.heap.size,2,none⟩ (.slice bx mx dx)).setCell ⟨wb.heap.size,3,none⟩ (.bool false) = wk at *
    refine bodyPost_ret (by simp [results,Tryz.results23,go_sem,t0,t1,t2,t3]; try rfl) rfl ?_
    have hn:=(Uh HF).n ax nx cx x bx mx dx y mM1
    have hb:=(Uh HF).bel
    exact ⟨ax,nx,cx,bx,mx,dx,rfl,(hn.num.chg c4 (fun p hp _ => (Uh HNE).1 p hp)).below (Below.refl _ _).drew,(hn.den.chg c4 (fun p hp _ => (Uh HNE).2 p hp)).below (Below.refl _ _).drew,(hb.trans (c4.below hb.size (fun k hk h => by have:=Uh HW; omega))).drew⟩
end Go.Proofs.YtmmeiebbnjjijaaGreatDoor
