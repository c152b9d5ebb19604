/- Rs2 -/
import Derived.Test.YtmmeiebbnjjijaaGreatDoorRs1
import Derived.Test.YtmmeiebbnjjijaaGreatDoorWkc
import Derived.Test.YtmmeiebbnjjijaaGreatDoorRf1
import Derived.Test.YtmmeiebbnjjijaaGreatDoorRl5
import Derived.Test.YtmmeiebbnjjijaaGreatDoorWkb
import Derived.Test.YtmmeiebbnjjijaaGreatDoorRd1
import Derived.Test.YtmmeiebbnjjijaaGreatDoorCmp
namespace Go.Proofs.YtmmeiebbnjjijaaGreatDoor
open Go.RowKit Go.Deep
set_option linter.unusedVariables false
theorem dv_facts {g1 g2:Bool} {X1 Y1 X2 Y2:Nat} (p1:0 < Y1) (p2:0 < Y2) (px:0 < X2) (l1:Nat.gcd X1 Y1 = 1) :
  Nat.gcd (dvN (g1 != g2) X1 Y1 X2 Y2) (dvD (g1 != g2) X1 Y1 X2 Y2) = 1 ∧ 0 < dvD (g1 != g2) X1 Y1 X2 Y2 ∧
   nI g2 (dvN (g1 != g2) X1 Y1 X2 Y2) * ((Y1 * Y2:Nat):Int) = (nI g1 (X1 * Y2) + nI (!g1) (dvQ (g1 != g2) X1 Y1 X2 Y2 * X2 * Y1)) * (dvD (g1 != g2) X1 Y1 X2 Y2:Int) ∧
   dvN (g1 != g2) X1 Y1 X2 Y2 * Y2 < X2 * dvD (g1 != g2) X1 Y1 X2 Y2:=by
 have hG:0 < Nat.gcd Y1 Y2:=Nat.gcd_pos_of_pos_left _ p1
 have eA:=div_of (Nat.gcd_dvd_left Y1 Y2)
 have eB:=div_of (Nat.gcd_dvd_right Y1 Y2)
 have cAB:=cop_quot (a:=Y1) p2
 have pA:0 < Y1 / Nat.gcd Y1 Y2:=div_pos_of_dvd (Nat.gcd_dvd_left _ _) p1
 have dA:Y1 / Nat.gcd Y1 Y2 ∣ Y1:=Nat.div_dvd_of_dvd (Nat.gcd_dvd_left _ _)
 have hY:0 < dvY Y1 X2 Y2:=Nat.mul_pos pA px
 have cX:Nat.gcd (dvX X1 Y1 Y2) (Y1 / Nat.gcd Y1 Y2) = 1:=by
  unfold dvX
  have c1:=cop_right dA l1
  rw [Nat.gcd_comm] at cAB
  rw [Nat.gcd_comm] at c1 cAB ⊢
  exact cop_both c1 cAB
 have cL:Nat.gcd (dvL (g1 != g2) X1 Y1 X2 Y2) (Y1 / Nat.gcd Y1 Y2) = 1:=flL_cop hY (Nat.dvd_mul_right _ _) cX
 have hK:0 < Nat.gcd (dvL (g1 != g2) X1 Y1 X2 Y2) Y2:=Nat.gcd_pos_of_pos_right _ p2
 have eL:=div_of (Nat.gcd_dvd_left (dvL (g1 != g2) X1 Y1 X2 Y2) Y2)
 have eE:=div_of (Nat.gcd_dvd_right (dvL (g1 != g2) X1 Y1 X2 Y2) Y2)
 have pE:0 < Y2 / Nat.gcd (dvL (g1 != g2) X1 Y1 X2 Y2) Y2:=div_pos_of_dvd (Nat.gcd_dvd_right _ _) p2
 refine ⟨?_,Nat.mul_pos pA pE,?_,?_⟩
 ·unfold dvN dvD
  exact cop_both (cop_left (Nat.div_dvd_of_dvd (Nat.gcd_dvd_left _ _)) cL) (cop_quot p2)
 ·have hv:=flL_val (g1:=g1) (g2:=g2) (X:=dvX X1 Y1 Y2) hY
  have e1:X1 * Y2 = dvX X1 Y1 Y2 * Nat.gcd Y1 Y2:=by unfold dvX; rw [Nat.mul_assoc,← eB]
  have e2:dvQ (g1 != g2) X1 Y1 X2 Y2 * X2 * Y1 = flQ (g1 != g2) (dvX X1 Y1 Y2) (dvY Y1 X2 Y2) * dvY Y1 X2 Y2 * Nat.gcd Y1 Y2:=by
   unfold dvQ
   generalize flQ (g1 != g2) (dvX X1 Y1 Y2) (dvY Y1 X2 Y2) = q
   unfold dvY
   refine Eq.trans (congrArg (fun z => q * X2 * z) eA) ?_
   generalize Y1 / Nat.gcd Y1 Y2 = a
   generalize Nat.gcd Y1 Y2 = b
   rw [Nat.mul_assoc q X2,← Nat.mul_assoc X2,Nat.mul_comm X2 a,Nat.mul_assoc q]
  rw [e1,e2,nI_mul,nI_mul (!g1),← Int.add_mul,hv,← nI_mul,← nI_mul,← nI_mul]
  refine congrArg (nI g2) ?_
  unfold dvN dvD
  have eLd:flL (g1 != g2) (dvX X1 Y1 Y2) (dvY Y1 X2 Y2) = dvL (g1 != g2) X1 Y1 X2 Y2:=rfl
  rw [eLd]
  generalize dvL (g1 != g2) X1 Y1 X2 Y2 = L at *
  generalize Nat.gcd L Y2 = K at *
  generalize hGG:Nat.gcd Y1 Y2 = G at *
  generalize Y1 / G = A at *
  generalize hl:L / K = l at *
  generalize hE:Y2 / K = E at *
  rw [eL]
  refine Eq.trans (show l * (Y1 * Y2) = l * (A * G * (E * K)) by rw [← eA,← eE]) ?_
  rw [Nat.mul_mul_mul_comm A G E K,Nat.mul_comm G K,← Nat.mul_assoc l,Nat.mul_right_comm l (A * E),← Nat.mul_assoc l K G]
 ·have hlt:dvL (g1 != g2) X1 Y1 X2 Y2 < dvY Y1 X2 Y2:=flL_lt hY
  unfold dvN dvD
  unfold dvY at hlt
  generalize dvL (g1 != g2) X1 Y1 X2 Y2 = L at *
  generalize Nat.gcd L Y2 = K at *
  generalize Y1 / Nat.gcd Y1 Y2 = A at *
  generalize hl:L / K = l at *
  generalize hE:Y2 / K = E at *
  have h1:l * K * E < A * X2 * E:=by rw [← eL]; exact Nat.mul_lt_mul_of_pos_right hlt pE
  calc l * Y2 = l * K * E:=by rw [eE,Nat.mul_assoc,Nat.mul_comm K E]
   _ < A * X2 * E:=h1
   _ = X2 * (A * E):=by rw [Nat.mul_comm A X2,Nat.mul_assoc]
theorem sign_ne {g:Bool} {x y:List Nat} (h:MayR g x y = true) (hx:x ≠ []):SignF g x y = if g then -1 else 1:=by
 unfold SignF signR
 rw [if_pos h,if_neg hx]
theorem steps_div {ga gb gq gl:Bool} {xa ya xb yb xq yq xl yl:List Nat} {e:Int} (ha:MayR ga xa ya = true) (hb:MayR gb xb yb = true) (hD:DivdF ga xa ya gb xb yb = (((gq,xq,yq),(gl,xl,yl)),e)) :
  (Ok xq ∧ Ok yq ∧ Ok xl ∧ Ok yl) ∧ (e ≠ 0 → SignF gb xb yb = 0 ∨ e = 2) ∧
   (e = 0 → SignF gb xb yb ≠ 0 ∧ MayR gq xq yq = true ∧ MayR gl xl yl = true ∧
    nI ga (val xa) * (((val yq:Int) * (val yb:Int)) * (val yl:Int)) = (nI gq (val xq) * nI gb (val xb) * (val yl:Int) + nI gl (val xl) * ((val yq:Int) * (val yb:Int))) * (val ya:Int) ∧
    (SignF gl xl yl = 0 ∨ (SignF gl xl yl = SignF gb xb yb ∧ CmpF gl xl yl gb xb yb = -SignF gl xl yl))):=by
 have on:Ok ([]:List Nat):=fun x hx => by cases hx
 have o1:Ok [1]:=ok_one (by decide)
 unfold DivdF at hD
 rw [ha,hb] at hD
 simp only [Bool.and_self,if_true] at hD
 by_cases hx:xb = []
 ·rw [if_pos hx] at hD
  cases hD
  exact ⟨⟨on,on,on,on⟩,fun _ => .inl (sign_zero hb hx),fun h => by cases h⟩
 ·rw [if_neg hx] at hD
  have p1:=mayR_pos ha
  have p2:=mayR_pos hb
  have px:0 < val xb:=Nat.pos_of_ne_zero fun e => hx ((val_zero_iff (MayR.parts hb).1).1 e)
  obtain ⟨f1,f2,f3,f4⟩:=dv_facts (g1:=ga) (g2:=gb) (X1:=val xa) (Y1:=val ya) (X2:=val xb) (Y2:=val yb) p1 p2 px (MayR.parts ha).2.2.2.2
  unfold DivdG at hD
  generalize dvQ (ga != gb) (val xa) (val ya) (val xb) (val yb) = Q at *
  generalize dvN (ga != gb) (val xa) (val ya) (val xb) (val yb) = N at *
  generalize dvD (ga != gb) (val xa) (val ya) (val xb) (val yb) = D at *
  split at hD
  ·cases hD
   exact ⟨⟨on,on,on,on⟩,fun _ => .inr rfl,fun h => by cases h⟩
  ·next hbig =>
   simp only [Bool.or_eq_true,not_or,Bool.not_eq_true] at hbig
   obtain ⟨⟨bQ,bN⟩,bD⟩:=hbig
   cases hD
   have mq:=may_whole (g:=ga != gb) bQ
   have ml:=mayR_mk (g:=gb) bN bD f2 f1
   refine ⟨⟨limbs_ok _,o1,limbs_ok _,limbs_ok _⟩,fun h => absurd rfl h,fun _ => ⟨?_,mq,ml,?_,?_⟩⟩
   ·rw [sign_ne hb hx]; cases gb <;> simp
   ·rw [lv,lv,lv,val_1,nI_and,nI_and]
    have e1:nI (ga != gb) Q * nI gb (val xb) = nI ga (Q * val xb):=by
     rw [← nI_xor]; congr 1; cases ga <;> cases gb <;> rfl
    have e2:nI (!ga) (Q * val xb * val ya) = - (nI ga (Q * val xb) * (val ya:Int)):=by
     rw [← nI_mul]; cases ga <;> simp [nI]
    rw [e1]
    rw [e2,nI_mul] at f3
    push_cast at f3
    generalize nI ga (Q * val xb) = u at *
    generalize nI ga (val xa) = v at *
    generalize nI gb N = n at *
    generalize (val ya:Int) = Y1 at *
    generalize (val yb:Int) = Y2 at *
    generalize (D:Int) = d at *
    grind
   ·by_cases hN:N = 0
    ·left
     subst hN
     exact sign_zero ml limbs_zero
    ·right
     have hl:limbs N ≠ []:=fun e => hN (limbs_nil.1 e)
     have eg:(gb && decide (N ≠ 0)) = gb:=by simp [hN]
     rw [eg] at ml ⊢
     have s1:=sign_ne ml hl
     have s2:=sign_ne hb hx
     refine ⟨s1.trans s2.symm,?_⟩
     rw [s1]
     unfold CmpF
     rw [ml,hb]
     simp only [Bool.and_self,if_true]
     rw [cmpR_sign ml hb,lv,lv]
     have f5:(N:Int) * (val yb:Int) < (val xb:Int) * (D:Int):=by exact_mod_cast f4
     cases gb
     ·simp only [nI,Bool.false_eq_true,if_false]
      exact Int.sign_eq_neg_one_of_neg (by omega)
     ·simp only [nI,if_true,Int.neg_mul,Int.neg_neg]
      exact Int.sign_eq_one_of_pos (by omega)
def GapP (w w':World) (xm ym:List Nat) (e:Ending):Prop:=∃ a n c b m d,e = .returned (.tuple #[ratV false a n c b m d,.bool true]) ∧ Sl w' a n c xm ∧ Sl w' b m d ym ∧ Below w.heap.size w w'

set_option maxHeartbeats 8000000 in
set_option maxRecDepth 100000 in
theorem gap_any (g1 g2 gg:Bool) (a1 b1 a2 b2:Option Addr) (n1 c1 m1 d1 n2 c2 m2 d2:Nat) (x1 y1 x2 y2 xm ym:List Nat) (w:World) (hx1:Sl w a1 n1 c1 x1) (hy1:Sl w b1 m1 d1 y1) (hx2:Sl w a2 n2 c2 x2) (hy2:Sl w b2 m2 d2 y2) (ox1:Ok x1) (oy1:Ok y1) (ox2:Ok x2) (oy2:Ok y2) (hT:Tab64 w) (hS:SubF g1 x1 y1 g2 x2 y2 = ((gg,xm,ym),0)) (hA:AbsF gg xm ym = ((false,xm,ym),0)) (om:Ok xm) (oy:Ok ym) :
  Calls Tryz.prog 20 #[ratV g1 a1 n1 c1 b1 m1 d1,ratV g2 a2 n2 c2 b2 m2 d2] w fun e w' => GapP w w' xm ym e:=by
 obtain ⟨wa,hwa⟩:∃ z,w.alloc (.cells #[.bool g1,.slice a1 n1 c1,.slice b1 m1 d1] 25) = z:=⟨_,rfl⟩
 obtain ⟨wb,hwb⟩:∃ z,wa.alloc (.cells #[.bool g2,.slice a2 n2 c2,.slice b2 m2 d2] 25) = z:=⟨_,rfl⟩
 obtain ⟨wo,hwo⟩:∃ z,wb.alloc (.cells #[.bool false,.slice none 0 0,.slice none 0 0] 25) = z:=⟨_,rfl⟩
 have hF0:Fcts w w [fTab,fN a1 n1 c1 x1 b1 m1 d1 y1,fN a2 n2 c2 x2 b2 m2 d2 y2]:=⟨Below.refl _ _,fun f hf => by simp at hf; rcases hf with rfl | rfl | rfl; exact hT; exact ⟨hx1,hy1⟩; exact ⟨hx2,hy2⟩⟩
 have hF1:=hF0.box (.bool g1) (.slice a1 n1 c1) (.slice b1 m1 d1) 25
 rw [hwa] at hF1
 have hF2:=hF1.box (.bool g2) (.slice a2 n2 c2) (.slice b2 m2 d2) 25
 rw [hwb] at hF2
 have hF3:=hF2.box (.bool false) (.slice none 0 0) (.slice none 0 0) 25
 rw [hwo] at hF3
 have HW:=Hd (show w.heap.size ≤ wb.heap.size from hF2.bel.size)
 have q1:=hF3.r w.heap.size (.bool g1) (.slice a1 n1 c1) (.slice b1 m1 d1) mM2
 have q2:=hF3.r wa.heap.size (.bool g2) (.slice a2 n2 c2) (.slice b2 m2 d2) mM1
 have u0:=q1.c0
 have u1:=q1.c1
 have u2:=q1.c2
 have u3:=q2.c0
 have u4:=q2.c1
 have u5:=q2.c2
 have HLo:=Hd (hF3.r wb.heap.size (.bool false) (.slice none 0 0) (.slice none 0 0) (.head _)).lt
 have i1:=hF3.n a1 n1 c1 x1 b1 m1 d1 y1 mM4
 have i2:=hF3.n a2 n2 c2 x2 b2 m2 d2 y2 mM5
 have K:=ratSub_any g1 g2 a1 b1 a2 b2 n1 c1 m1 d1 n2 c2 m2 d2 x1 y1 x2 y2 wo i1.num i1.den i2.num i2.den ox1 oy1 ox2 oy2 (hF3.tab mM3)
 rw [hS] at K
 try dsimp only at K
 unfold ratV at K
 have HK:=Hd K
 have HF3:=Hd hF3
 have HA:=Hd hA
 have HO:=Hd (And.intro om oy)
 clear hS hA om oy hF0 hF1 hF2 hF3 q1 q2 i1 i2 K hx1 hy1 hx2 hy2 hT ox1 oy1 ox2 oy2
 unfold ratV
 go_enter Tryz.func20,Tryz.ntmps20
 go_wp2_with fail
 refine (Uh HK).mono ?_
 rintro _ w1 ⟨v,rfl,ax,nx,cx,bx,mx,dx,rfl,sx,sy,ex,ey,hb⟩
 unfold ratV
 have hF4:=((Uh HF3).step hb).add (fN ax nx cx xm bx mx dx ym) ⟨sx,sy⟩
 obtain ⟨w2,hw2⟩:∃ z,w1.alloc (.cells #[.bool gg,.slice ax nx cx,.slice bx mx dx] 25) = z:=⟨_,rfl⟩
 have hF5:=hF4.box (.bool gg) (.slice ax nx cx) (.slice bx mx dx) 25
 rw [hw2] at hF5
 have qx:=hF5.r w1.heap.size (.bool gg) (.slice ax nx cx) (.slice bx mx dx) (.head _)
 have e0:=qx.c0
 have e1:=qx.c1
 have e2:=qx.c2
 have hn:=hF5.n ax nx cx xm bx mx dx ym mM1
 have K:=ratAbs_F gg ax bx nx cx mx dx xm ym w2 hn.num hn.den (Uh HO).1 (Uh HO).2 (hF5.tab mM5)
 rw [Uh HA] at K
 unfold ResF at K
 try dsimp only at K
 unfold ratV at K
 have HK2:=Hd K
 have HF5:=Hd hF5
 clear sx sy ex ey hb hF4 hF5 qx hn K HK HF3 u0 u1 u2 u3 u4 u5
 go_wp2_with fail
 clear e0 e1 e2
 refine (Uh HK2).mono ?_
 rintro _ w3 ⟨v,rfl,az,nz,cz,bz,mz,dz,rfl,sx,sy,ex,ey,hb⟩
 unfold ratV
 have hF6:=((Uh HF5).step hb).add (fN az nz cz xm bz mz dz ym) ⟨sx,sy⟩
 obtain ⟨w4,hw4⟩:∃ z,w3.alloc (.cells #[.bool false,.slice az nz cz,.slice bz mz dz] 25) = z:=⟨_,rfl⟩
 have hF7:=hF6.box (.bool false) (.slice az nz cz) (.slice bz mz dz) 25
 rw [hw4] at hF7
 have hl5:=(Uh HF5).r wb.heap.size (.bool false) (.slice none 0 0) (.slice none 0 0) mM2
 have HNE:=Hd (And.intro (fun p hp h => by have h1:=ex p hp; have h2:=hl5.lt; omega:∀ p,az = some p → p.block ≠ wb.heap.size) (fun p hp h => by have h1:=ey p hp; have h2:=hl5.lt; omega:∀ p,bz = some p → p.block ≠ wb.heap.size))
 have qo:=hF7.r wb.heap.size (.bool false) (.slice none 0 0) (.slice none 0 0) mM4
 have qx:=hF7.r w3.heap.size (.bool false) (.slice az nz cz) (.slice bz mz dz) (.head _)
 have o0:=qo.c0
 have o1:=qo.c1
 have o2:=qo.c2
 have p0:=qo.f0
 have p1:=qo.f1
 have p2:=qo.f2
 have e0:=qx.c0
 have e1:=qx.c1
 have e2:=qx.c2
 have HRR:=Hd (show w3.heap.size ≠ wb.heap.size from by have h2:=hl5.lt; have h3:=hb.size; omega)
 have H4:=Hd (three_set w4 wb.heap.size (.bool false) (.slice az nz cz) (.slice bz mz dz) qo.out.cells)
 have HF:=Hd hF7
 clear sx sy ex ey hb hF6 hF7 qo qx hl5 HK2 HF5 HLo
 go_wp2_with fail
 have hr1:w3.heap.size ≠ wb.heap.size:=Uh HRR
 have hr2:=hr1.symm
 go_region_held3 (fun w' => w'.cell? ⟨w3.heap.size,0,none⟩ = some (.bool false) ∧ w'.cell? ⟨w3.heap.size,1,none⟩ = some (.slice az nz cz) ∧ w'.cell? ⟨w3.heap.size,2,none⟩ = some (.slice bz mz dz)) (first | go_keep | (exact ⟨e0,e1,e2⟩))
  (first
   | (go_at_call 11; refine (rnum2_any _ _).mono ?_; rintro _ w' ⟨rfl,hw⟩; obtain rfl:=hw))
 go_wp2_with fail
 obtain ⟨t0,t1,t2,c4⟩:=Uh H4
 generalize ((w4.setCell ⟨wb.heap.size,0,none⟩ (.bool false)).setCell ⟨wb.heap.size,1,none⟩ (.slice az nz cz)).setCell ⟨wb.heap.size,2,none⟩ (.slice bz mz dz) = wk at *
 refine bodyPost_ret (by simp [results,Tryz.results20,go_sem,t0,t1,t2]; try rfl) rfl ?_
 have hn:=(Uh HF).n az nz cz xm bz mz dz ym mM1
 have hb:=(Uh HF).bel
 exact ⟨az,nz,cz,bz,mz,dz,rfl,(hn.num.chg c4 (fun p hp _ => (Uh HNE).1 p hp)).below (Below.refl _ _).drew,(hn.den.chg c4 (fun p hp _ => (Uh HNE).2 p hp)).below (Below.refl _ _).drew,(hb.trans (c4.below hb.size (fun k hk h => by have:=Uh HW; omega))).drew⟩
theorem sl_first {w:World} {a:Option Addr} {n c u:Nat} {r:List Nat} (h:Sl w a n c (u :: r)):∃ b off,a = some ⟨b,off,none⟩ ∧ n = r.length + 1 ∧ w.cell? ⟨b,off,none⟩ = some (.int .u32 (u:Nat)):=by
 obtain ⟨b,off,rfl,hc⟩:=h.cells.resolve_left (by simp)
 have c0:=hc 0 (by simp)
 simp only [List.getD,List.getElem?_cons_zero,Option.getD_some] at c0
 rw [Nat.add_zero] at c0
 exact ⟨b,off,rfl,by rw [← h.len]; simp,c0⟩
theorem sl_head {w:World} {b off n c u:Nat} {r:List Nat} (h:Sl w (some ⟨b,off,none⟩) n c (u :: r)):w.cell? ⟨b,off,none⟩ = some (.int .u32 (u:Nat)):=by
 obtain ⟨b',off',e,_,hc⟩:=sl_first h
 cases e
 exact hc
theorem half_make:makeL false [1] [2] = ⟨false,[1],[2],0⟩:=by
 have e:(MayL [1] && MayL [2]) = true:=by decide
 unfold makeL
 rw [if_pos e,if_neg (by decide)]
 have v1:val [1] = 1:=by simp [val]
 have v2:val [2] = 2:=by simp [val]
 have hg:Nat.gcd 1 2 = 1:=by decide
 rw [v1,v2,hg,show 1 / 1 = 1 from rfl,show 2 / 1 = 2 from rfl,limbs_small (by decide) (by decide),limbs_small (by decide) (by decide)]
 rfl
def fE (R:Nat):Fct:=⟨fun w => R < w.heap.size ∧ ∀ i,4 ≤ i → w.cell? ⟨R,i,none⟩ = none,fun k h => ⟨Nat.lt_of_lt_of_le h.1 k.size,fun i hi => (k.cell (p:=⟨R,i,none⟩) h.1).trans (h.2 i hi)⟩⟩
theorem Fcts.e {w0 w:World} {L:List Fct} (h:Fcts w0 w L) (R:Nat) (hm:fE R ∈ L):(fE R).p w:=h.all _ hm
theorem Fcts.quadE {w0 w:World} {L:List Fct} (h:Fcts w0 w L):Fcts w0 (w.alloc (.cells #[.bool false,.slice none 0 0,.slice none 0 0,.bool false] 44)) (fE w.heap.size :: fQ w.heap.size (.bool false) (.slice none 0 0) (.slice none 0 0) (.bool false) :: L) :=
 (h.quad _ _ _ _ _).add (fE w.heap.size) ⟨by simp,fun i hi => by rw [World.cell?_alloc_new]; exact Array.getElem?_eq_none (by simpa using hi)⟩
theorem off_box {w:World} {R:Nat} {a:Option Addr} {n c:Nat} {xs:List Nat} (hs:Sl w a n c xs) (hq:Quad w R (.bool false) (.slice none 0 0) (.slice none 0 0) (.bool false)) (he:(fE R).p w):∀ p,a = some p → xs ≠ [] → ¬ p.block = R:=by
 intro p hp hx h
 obtain ⟨b,off,e,hc⟩:=hs.cells.resolve_left hx
 rw [hp] at e
 cases e
 subst h
 have c0:=hc 0 (List.length_pos_iff.2 hx)
 rw [Nat.add_zero] at c0
 match off,c0 with
 | 0,c0 => rw [hq.tri.c0] at c0; cases c0
 | 1,c0 => rw [hq.tri.c1] at c0; cases c0
 | 2,c0 => rw [hq.tri.c2] at c0; cases c0
 | 3,c0 => rw [hq.c3] at c0; cases c0
 | i + 4,c0 => rw [he.2 (i + 4) (by omega)] at c0; cases c0
theorem did_join {w0 wD ws:World} {L L':List Fct} {R:Nat} {g k:Bool} {a b:Option Addr} {n c m d:Nat} {x y:List Nat} {P Q:Int} (hA:Fcts w0 wD L) (hH:Fcts w0 ws L') (hs:Below wD.heap.size wD ws) (hR:wD.heap.size ≤ R) (hq:Quad ws R (.bool false) (.slice none 0 0) (.slice none 0 0) (.bool false)) (he:(fE R).p ws) (hv:Vl ws g a n c x b m d y k P Q) :
  Fcts w0 ((((ws.setCell ⟨R,0,none⟩ (.bool g)).setCell ⟨R,1,none⟩ (.slice a n c)).setCell ⟨R,2,none⟩ (.slice b m d)).setCell ⟨R,3,none⟩ (.bool k)) (fQ R (.bool g) (.slice a n c) (.slice b m d) (.bool k) :: fV g a n c x b m d y k P Q :: L):=by
 obtain ⟨t0,t1,t2,t3,c4⟩:=quad_set ws R (.bool g) (.slice a n c) (.slice b m d) (.bool k) hq
 have fz:∀ j,((((ws.setCell ⟨R,0,none⟩ (.bool g)).setCell ⟨R,1,none⟩ (.slice a n c)).setCell ⟨R,2,none⟩ (.slice b m d)).setCell ⟨R,3,none⟩ (.bool k)).frozen? ⟨R,j,none⟩ = ws.frozen? ⟨R,j,none⟩:=fun j => by
  rw [World.frozen?_setCell,World.frozen?_setCell,World.frozen?_setCell,World.frozen?_setCell]
 have bel:=hs.trans (c4.below hs.size (fun k hk h => by omega))
 exact ((hA.step bel).add (fV g a n c x b m d y k P Q) ⟨⟨hv.nm.num.chg c4 (fun p hp hx h => off_box hv.nm.num hq he p hp hx h),hv.nm.den.chg c4 (fun p hp hx h => off_box hv.nm.den hq he p hp hx h)⟩,hv.ox,hv.oy,hv.fr⟩).add (fQ R _ _ _ _)
  ⟨⟨t0,t1,t2,(fz 0).trans hq.tri.f0,(fz 1).trans hq.tri.f1,(fz 2).trans hq.tri.f2,Nat.lt_of_lt_of_le hq.tri.lt c4.size⟩,t3,(fz 3).trans hq.f3⟩
theorem did_new {w0 wD ws:World} {L L':List Fct} {g k:Bool} {a b:Option Addr} {n c m d:Nat} {x y:List Nat} {P Q:Int} (hA:Fcts w0 wD L) (hs:Below wD.heap.size wD ws) (hv:Vl ws g a n c x b m d y k P Q) :
  Fcts w0 (ws.alloc (.cells #[.bool g,.slice a n c,.slice b m d,.bool k] 44)) (fQ ws.heap.size (.bool g) (.slice a n c) (.slice b m d) (.bool k) :: fV g a n c x b m d y k P Q :: L) :=
 ((hA.step hs).add (fV g a n c x b m d y k P Q) hv).quad _ _ _ _ _
theorem nine {w0 W:World} {L:List Fct} (h:Fcts w0 W L) {R1 R2 R3:Nat} {v1 v2 v3 u1 u2 u3 t1 t2 t3:Value} (m1:fR R1 v1 v2 v3 ∈ L) (m2:fR R2 u1 u2 u3 ∈ L) (m3:fR R3 t1 t2 t3 ∈ L) :
  W.cell? ⟨R1,0,none⟩ = some v1 ∧ W.cell? ⟨R1,1,none⟩ = some v2 ∧ W.cell? ⟨R1,2,none⟩ = some v3 ∧ W.cell? ⟨R2,0,none⟩ = some u1 ∧ W.cell? ⟨R2,1,none⟩ = some u2 ∧ W.cell? ⟨R2,2,none⟩ = some u3 ∧ W.cell? ⟨R3,0,none⟩ = some t1 ∧ W.cell? ⟨R3,1,none⟩ = some t2 ∧ W.cell? ⟨R3,2,none⟩ = some t3 :=
 ⟨(h.r _ _ _ _ m1).c0,(h.r _ _ _ _ m1).c1,(h.r _ _ _ _ m1).c2,(h.r _ _ _ _ m2).c0,(h.r _ _ _ _ m2).c1,(h.r _ _ _ _ m2).c2,(h.r _ _ _ _ m3).c0,(h.r _ _ _ _ m3).c1,(h.r _ _ _ _ m3).c2⟩
theorem nineC {w0 W W':World} {S:Nat} {L:List Fct} (h:Fcts w0 W L) (c:Chg (fun k => k = S) W W') {R1 R2 R3:Nat} {v1 v2 v3 u1 u2 u3 t1 t2 t3:Value} (m1:fR R1 v1 v2 v3 ∈ L) (m2:fR R2 u1 u2 u3 ∈ L) (m3:fR R3 t1 t2 t3 ∈ L) (n1:R1 ≠ S) (n2:R2 ≠ S) (n3:R3 ≠ S) :
  W'.cell? ⟨R1,0,none⟩ = some v1 ∧ W'.cell? ⟨R1,1,none⟩ = some v2 ∧ W'.cell? ⟨R1,2,none⟩ = some v3 ∧ W'.cell? ⟨R2,0,none⟩ = some u1 ∧ W'.cell? ⟨R2,1,none⟩ = some u2 ∧ W'.cell? ⟨R2,2,none⟩ = some u3 ∧ W'.cell? ⟨R3,0,none⟩ = some t1 ∧ W'.cell? ⟨R3,1,none⟩ = some t2 ∧ W'.cell? ⟨R3,2,none⟩ = some t3 :=
 ⟨((h.r _ _ _ _ m1).chg c n1).c0,((h.r _ _ _ _ m1).chg c n1).c1,((h.r _ _ _ _ m1).chg c n1).c2,((h.r _ _ _ _ m2).chg c n2).c0,((h.r _ _ _ _ m2).chg c n2).c1,((h.r _ _ _ _ m2).chg c n2).c2,((h.r _ _ _ _ m3).chg c n3).c0,((h.r _ _ _ _ m3).chg c n3).c1,((h.r _ _ _ _ m3).chg c n3).c2⟩
end Go.Proofs.YtmmeiebbnjjijaaGreatDoor
namespace Go.Proofs.YtmmeiebbnjjijaaGreatDoor
open Go.RowKit Go.Deep
set_option linter.unusedVariables false
open Go.RowKit Go.Deep
set_option linter.unusedVariables false
set_option maxHeartbeats 1000000 in
theorem nbit_any (a:Option Addr) (n c:Nat) (xs:List Nat) (i:Nat) (w:World) (h:Sl w a n c xs) (ox:Ok xs) (m:MayL xs = true) (hi:i ≤ 9223372036854775807) :
  Calls Tryz.prog 50 #[.slice a n c,.int .i64 (i:Nat)] w fun e w' => e = .returned (.int .i64 (bitN (val xs) i:Nat)) ∧ w' = w:=by
 have K1:=may_any a n c xs w h
 rw [m] at K1
 have K1':=Hd K1
 have KL:=limbAt_any a n c xs ((i / 32:Nat):Int) w h (by omega)
 rw [show (((i / 32:Nat):Int)).toNat = i / 32 from Int.toNat_natCast _] at KL
 rw [bit_limb ox (l:=i / 32) (s:=i % 32) rfl rfl]
 have bx:=ox.getD (i / 32)
 generalize xs.getD (i / 32) 0 = x at *
 obtain ⟨l,hl⟩:∃ l,i / 32 = l:=⟨_,rfl⟩
 obtain ⟨s,hs⟩:∃ s,i % 32 = s:=⟨_,rfl⟩
 have hs32:s < 32:=by omega
 rw [hl] at KL
 rw [hs]
 have KL':=Hd KL
 have hl2:(i:Int).tdiv 32 = (l:Int):=by rw [Int.tdiv_eq_ediv_of_nonneg (by omega)]; omega
 have hs2:(i:Int).tmod 32 = (s:Int):=by rw [Int.tmod_eq_emod_of_nonneg (by omega)]; omega
 have hl3:(i:Int) / 32 = (l:Int):=by omega
 have hs3:(i:Int) % 32 = (s:Int):=by omega
 have hy:=shr_lt (s:=s) bx
 have e1:(x:Int) / 2 ^ s = ((x / 2 ^ s:Nat):Int):=by rw [Int.natCast_ediv,Int.natCast_pow]; rfl
 have e2:=and_one _ hy
 generalize x / 2 ^ s = y at *
 have hy2:y % 2 < 2:=Nat.mod_lt _ (by decide)
 generalize y % 2 = z at *
 clear K1 KL h m
 go_enter Tryz.func50,Tryz.ntmps50
 go_wp2_with fail
 refine (Uh K1').mono ?_
 rintro e w' ⟨rfl,hw⟩
 obtain rfl:=hw.symm
 go_wp2_with fail
 refine (Uh KL').mono ?_
 rintro e w' ⟨rfl,hw⟩
 obtain rfl:=hw.symm
 go_wp2
 go_ret
 exact ⟨rfl,rfl⟩
end Go.Proofs.YtmmeiebbnjjijaaGreatDoor
