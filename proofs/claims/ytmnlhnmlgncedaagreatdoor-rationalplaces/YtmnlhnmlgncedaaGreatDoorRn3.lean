/- Rf1 -/
import Derived.Test.YtmnlhnmlgncedaaGreatDoorRu3
import Derived.StillTailTactics
import Derived.Test.YtmnlhnmlgncedaaGreatDoorRq0
import Derived.Test.YtmnlhnmlgncedaaGreatDoorWip
import Derived.Test.YtmnlhnmlgncedaaGreatDoorRc1
import Derived.Test.YtmnlhnmlgncedaaGreatDoorWil
import Derived.Test.YtmnlhnmlgncedaaGreatDoorRl2
import Derived.Test.YtmnlhnmlgncedaaGreatDoorRa6
import Derived.Laws.BitsAllLaws
import Derived.Test.YtmnlhnmlgncedaaGreatDoorGc
import Derived.Test.YtmnlhnmlgncedaaGreatDoorPa2
import Derived.Test.YtmnlhnmlgncedaaGreatDoorUpd
import Derived.Deep.RegionHeld3
import Derived.Test.YtmnlhnmlgncedaaGreatDoorDv4
import Derived.Test.YtmnlhnmlgncedaaGreatDoorRp5
import Derived.Test.YtmnlhnmlgncedaaGreatDoorShl
namespace Go.Proofs.YtmnlhnmlgncedaaGreatDoor
open Go.RowKit Go.Deep
set_option linter.unusedVariables false


structure Fr (g:Bool) (x y:List Nat) (P Q:Int):Prop where
 may:MayR g x y = true
 pos:0 < Q
 eq:nI g (val x) * Q = P * (val y:Int)
theorem Fr.add {g1 g2 g:Bool} {x1 y1 x2 y2 x y:List Nat} {P1 Q1 P2 Q2:Int} (h1:Fr g1 x1 y1 P1 Q1) (h2:Fr g2 x2 y2 P2 Q2) (e:AddF g1 x1 y1 g2 x2 y2 = ((g,x,y),0)):Fr g x y (P1 * Q2 + P2 * Q1) (Q1 * Q2):=by
 obtain ⟨g',N,D,e2,m,hD,hv⟩:=addF_ok h1.may h2.may (by rw [e])
 rw [e] at e2
 cases e2
 have yp1:=posI h1.may
 have yp2:=posI h2.may
 refine ⟨m,Int.mul_pos h1.pos h2.pos,?_⟩
 rw [(limbs_rep N).val,(limbs_rep D).val]
 have k1:=h1.eq
 have k2:=h2.eq
 refine Int.eq_of_mul_eq_mul_right (Int.ne_of_gt (Int.mul_pos yp1 yp2)) ?_
 have a1:nI g N * (Q1 * Q2) * ((val y1:Int) * (val y2:Int)) = nI g N * ((val y1:Int) * (val y2:Int)) * (Q1 * Q2):=by ac_rfl
 rw [a1,hv]
 have a2:(nI g1 (val x1) * (val y2:Int) + nI g2 (val x2) * (val y1:Int)) * (D:Int) * (Q1 * Q2) = (nI g1 (val x1) * Q1) * ((val y2:Int) * Q2 * (D:Int)) + (nI g2 (val x2) * Q2) * ((val y1:Int) * Q1 * (D:Int)):=by
  rw [Int.add_mul,Int.add_mul]
  congr 1
  ·ac_rfl
  ·ac_rfl
 rw [a2,k1,k2,Int.add_mul,Int.add_mul]
 congr 1
 ·ac_rfl
 ·ac_rfl
theorem Fr.mul {g1 g2 g:Bool} {x1 y1 x2 y2 x y:List Nat} {P1 Q1 P2 Q2:Int} (h1:Fr g1 x1 y1 P1 Q1) (h2:Fr g2 x2 y2 P2 Q2) (e:MulF g1 x1 y1 g2 x2 y2 = ((g,x,y),0)):Fr g x y (P1 * P2) (Q1 * Q2):=by
 obtain ⟨g',N,D,e2,m,hD,hv⟩:=mulF_ok h1.may h2.may (by rw [e])
 rw [e] at e2
 cases e2
 have yp1:=posI h1.may
 have yp2:=posI h2.may
 refine ⟨m,Int.mul_pos h1.pos h2.pos,?_⟩
 rw [(limbs_rep N).val,(limbs_rep D).val]
 have k1:=h1.eq
 have k2:=h2.eq
 refine Int.eq_of_mul_eq_mul_right (Int.ne_of_gt (Int.mul_pos yp1 yp2)) ?_
 have a1:nI g N * (Q1 * Q2) * ((val y1:Int) * (val y2:Int)) = nI g N * ((val y1:Int) * (val y2:Int)) * (Q1 * Q2):=by ac_rfl
 rw [a1,hv]
 have a2:nI g1 (val x1) * nI g2 (val x2) * (D:Int) * (Q1 * Q2) = (nI g1 (val x1) * Q1) * (nI g2 (val x2) * Q2) * (D:Int):=by ac_rfl
 rw [a2,k1,k2]
 ac_rfl






def AbsF (g:Bool) (x y:List Nat):(Bool × List Nat × List Nat) × Int:=if MayR g x y = true then ((false,x,y),0) else ((false,[],[]),40)
theorem ratAbs_F (g:Bool) (a b:Option Addr) (n c m d:Nat) (x y:List Nat) (w:World) (hx:Sl w a n c x) (hy:Sl w b m d y) (ox:Ok x) (oy:Ok y) (hT:Tab64 w) :
  Calls Tryz.prog 54 #[ratV g a n c b m d] w fun e w' => ResF w w' (AbsF g x y) e :=
 (ratAbs_any g a b n c m d x y w hx hy ox oy hT).mono (fun e w' hr => by
  unfold AbsF ResF
  cases h:MayR g x y <;> rw [h] at hr <;> simpa using hr)
theorem val_1s:val [1] = 1:=by simp [val]
theorem big_1:bigN 1 = false:=by unfold bigN; rw [limbs_1]; decide
theorem may_whole {g:Bool} {Q:Nat} (h:bigN Q = false):MayR (g && decide (Q ≠ 0)) (limbs Q) [1] = true:=by
 have:=mayR_mk (g:=g) h big_1 (by decide) (Nat.gcd_one_right Q)
 rwa [limbs_1] at this
theorem lv (v:Nat):val (limbs v) = v:=(limbs_rep v).val
theorem may_11:MayR false [1] [1] = true:=by
 unfold MayR
 rw [val_1s]
 decide
def GapP (w w':World) (xm ym:List Nat) (e:Ending):Prop:=∃ a n c b m d,e = .returned (.tuple #[ratV false a n c b m d,.bool true]) ∧ Sl w' a n c xm ∧ Sl w' b m d ym ∧ Below w.heap.size w w'

set_option maxHeartbeats 8000000 in
set_option maxRecDepth 100000 in
theorem gap_any (g1 g2 gg:Bool) (a1 b1 a2 b2:Option Addr) (n1 c1 m1 d1 n2 c2 m2 d2:Nat) (x1 y1 x2 y2 xm ym:List Nat) (w:World) (hx1:Sl w a1 n1 c1 x1) (hy1:Sl w b1 m1 d1 y1) (hx2:Sl w a2 n2 c2 x2) (hy2:Sl w b2 m2 d2 y2) (ox1:Ok x1) (oy1:Ok y1) (ox2:Ok x2) (oy2:Ok y2) (hT:Tab64 w) (hS:SubF g1 x1 y1 g2 x2 y2 = ((gg,xm,ym),0)) (hA:AbsF gg xm ym = ((false,xm,ym),0)) (om:Ok xm) (oy:Ok ym) :
  Calls Tryz.prog 20 #[ratV g1 a1 n1 c1 b1 m1 d1,ratV g2 a2 n2 c2 b2 m2 d2] w fun e w' => GapP w w' xm ym e:=by
 obtain ⟨wa,hwa⟩:∃ z,w.alloc (.cells #[.bool g1,.slice a1 n1 c1,.slice b1 m1 d1] 25) = z:=⟨_,rfl⟩
 obtain ⟨wb,hwb⟩:∃ z,wa.alloc (.cells #[.bool g2,.slice a2 n2 c2,.slice b2 m2 d2] 25) = z:=⟨_,rfl⟩
 obtain ⟨wo,hwo⟩:∃ z,wb.alloc (.cells #[.bool false,.slice none 0 0,.slice none 0 0] 25) = z:=⟨_,rfl⟩
 have hF0:Fcts w w [fTab,fN a1 n1 c1 x1 b1 m1 d1 y1,fN a2 n2 c2 x2 b2 m2 d2 y2]:=⟨Below.refl _ _,fun f hf => by simp at hf; rcases hf with rfl | rfl | rfl; exact hT; exact ⟨hx1,hy1⟩; exact ⟨hx2,hy2⟩⟩
 have hF1:=hF0.box (.bool g1) (.slice a1 n1 c1) (.slice b1 m1 d1) 25
 rw [hwa] at hF1
 have hF2:=hF1.box (.bool g2) (.slice a2 n2 c2) (.slice b2 m2 d2) 25
 rw [hwb] at hF2
 have hF3:=hF2.box (.bool false) (.slice none 0 0) (.slice none 0 0) 25
 rw [hwo] at hF3
 have HW:=Hj (show w.heap.size ≤ wb.heap.size from hF2.bel.size)
 have q1:=hF3.r w.heap.size (.bool g1) (.slice a1 n1 c1) (.slice b1 m1 d1) mM2
 have q2:=hF3.r wa.heap.size (.bool g2) (.slice a2 n2 c2) (.slice b2 m2 d2) mM1
 have u0:=q1.c0
 have u1:=q1.c1
 have u2:=q1.c2
 have u3:=q2.c0
 have u4:=q2.c1
 have u5:=q2.c2
 have HLo:=Hj (hF3.r wb.heap.size (.bool false) (.slice none 0 0) (.slice none 0 0) (.head _)).lt
 have i1:=hF3.n a1 n1 c1 x1 b1 m1 d1 y1 mM4
 have i2:=hF3.n a2 n2 c2 x2 b2 m2 d2 y2 mM5
 have K:=ratSub_any g1 g2 a1 b1 a2 b2 n1 c1 m1 d1 n2 c2 m2 d2 x1 y1 x2 y2 wo i1.num i1.den i2.num i2.den ox1 oy1 ox2 oy2 (hF3.tab mM3)
 rw [hS] at K
 try dsimp only at K
 unfold ratV at K
 have HK:=Hj K
 have HF3:=Hj hF3
 have HA:=Hj hA
 have HO:=Hj (And.intro om oy)
 clear hS hA om oy hF0 hF1 hF2 hF3 q1 q2 i1 i2 K hx1 hy1 hx2 hy2 hT ox1 oy1 ox2 oy2
 unfold ratV
 go_enter Tryz.func20,Tryz.ntmps20
 go_wp2_with fail
 refine (Uh HK).mono ?_
 rintro _ w1 ⟨v,rfl,ax,nx,cx,bx,mx,dx,rfl,sx,sy,ex,ey,hb⟩
 unfold ratV
 have hF4:=((Uh HF3).step hb).add (fN ax nx cx xm bx mx dx ym) ⟨sx,sy⟩
 obtain ⟨w2,hw2⟩:∃ z,w1.alloc (.cells #[.bool gg,.slice ax nx cx,.slice bx mx dx] 25) = z:=⟨_,rfl⟩
 have hF5:=hF4.box (.bool gg) (.slice ax nx cx) (.slice bx mx dx) 25
 rw [hw2] at hF5
 have qx:=hF5.r w1.heap.size (.bool gg) (.slice ax nx cx) (.slice bx mx dx) (.head _)
 have e0:=qx.c0
 have e1:=qx.c1
 have e2:=qx.c2
 have hn:=hF5.n ax nx cx xm bx mx dx ym mM1
 have K:=ratAbs_F gg ax bx nx cx mx dx xm ym w2 hn.num hn.den (Uh HO).1 (Uh HO).2 (hF5.tab mM5)
 rw [Uh HA] at K
 unfold ResF at K
 try dsimp only at K
 unfold ratV at K
 have HK2:=Hj K
 have HF5:=Hj hF5
 clear sx sy ex ey hb hF4 hF5 qx hn K HK HF3 u0 u1 u2 u3 u4 u5
 go_wp2_with fail
 clear e0 e1 e2
 refine (Uh HK2).mono ?_
 rintro _ w3 ⟨v,rfl,az,nz,cz,bz,mz,dz,rfl,sx,sy,ex,ey,hb⟩
 unfold ratV
 have hF6:=((Uh HF5).step hb).add (fN az nz cz xm bz mz dz ym) ⟨sx,sy⟩
 obtain ⟨w4,hw4⟩:∃ z,w3.alloc (.cells #[.bool false,.slice az nz cz,.slice bz mz dz] 25) = z:=⟨_,rfl⟩
 have hF7:=hF6.box (.bool false) (.slice az nz cz) (.slice bz mz dz) 25
 rw [hw4] at hF7
 have hl5:=(Uh HF5).r wb.heap.size (.bool false) (.slice none 0 0) (.slice none 0 0) mM2
 have HNE:=Hj (And.intro (fun p hp h => by have h1:=ex p hp; have h2:=hl5.lt; omega:∀ p,az = some p → p.block ≠ wb.heap.size) (fun p hp h => by have h1:=ey p hp; have h2:=hl5.lt; omega:∀ p,bz = some p → p.block ≠ wb.heap.size))
 have qo:=hF7.r wb.heap.size (.bool false) (.slice none 0 0) (.slice none 0 0) mM4
 have qx:=hF7.r w3.heap.size (.bool false) (.slice az nz cz) (.slice bz mz dz) (.head _)
 have o0:=qo.c0
 have o1:=qo.c1
 have o2:=qo.c2
 have p0:=qo.f0
 have p1:=qo.f1
 have p2:=qo.f2
 have e0:=qx.c0
 have e1:=qx.c1
 have e2:=qx.c2
 have HRR:=Hj (show w3.heap.size ≠ wb.heap.size from by have h2:=hl5.lt; have h3:=hb.size; omega)
 have H4:=Hj (three_set w4 wb.heap.size (.bool false) (.slice az nz cz) (.slice bz mz dz) qo.out.cells)
 have HF:=Hj hF7
 clear sx sy ex ey hb hF6 hF7 qo qx hl5 HK2 HF5 HLo
 go_wp2_with fail
 have hr1:w3.heap.size ≠ wb.heap.size:=Uh HRR
 have hr2:=hr1.symm
 go_region_held3 (fun w' => w'.cell? ⟨w3.heap.size,0,none⟩ = some (.bool false) ∧ w'.cell? ⟨w3.heap.size,1,none⟩ = some (.slice az nz cz) ∧ w'.cell? ⟨w3.heap.size,2,none⟩ = some (.slice bz mz dz)) (first | go_keep | (exact ⟨e0,e1,e2⟩))
  (first
   | (go_at_call 10; refine (rnum2_any _ _).mono ?_; rintro _ w' ⟨rfl,hw⟩; obtain rfl:=hw))
 go_wp2_with fail
 obtain ⟨t0,t1,t2,c4⟩:=Uh H4
 generalize ((w4.setCell ⟨wb.heap.size,0,none⟩ (.bool false)).setCell ⟨wb.heap.size,1,none⟩ (.slice az nz cz)).setCell ⟨wb.heap.size,2,none⟩ (.slice bz mz dz) = wk at *
 refine bodyPost_ret (by simp [results,Tryz.results20,go_sem,t0,t1,t2]; try rfl) rfl ?_
 have hn:=(Uh HF).n az nz cz xm bz mz dz ym mM1
 have hb:=(Uh HF).bel
 exact ⟨az,nz,cz,bz,mz,dz,rfl,(hn.num.chg c4 (fun p hp _ => (Uh HNE).1 p hp)).below (Below.refl _ _).drew,(hn.den.chg c4 (fun p hp _ => (Uh HNE).2 p hp)).below (Below.refl _ _).drew,(hb.trans (c4.below hb.size (fun k hk h => by have:=Uh HW; omega))).drew⟩

def kB:Nat:=1074
def dif (a b:Nat):Nat:=(a - b) + (b - a)





theorem gcd_cancel {N M P Q:Nat} (hM:0 < M) (h:N * Q = P * M):N / Nat.gcd N M * Q = P * (M / Nat.gcd N M):=by
 have hg:0 < Nat.gcd N M:=Nat.gcd_pos_of_pos_right _ hM
 obtain ⟨n,hn⟩:=Nat.gcd_dvd_left N M
 obtain ⟨m,hm⟩:=Nat.gcd_dvd_right N M
 generalize Nat.gcd N M = d at *
 subst hn hm
 rw [Nat.mul_div_cancel_left _ hg,Nat.mul_div_cancel_left _ hg]
 refine Nat.eq_of_mul_eq_mul_left hg ?_
 rw [← Nat.mul_assoc,h,Nat.mul_left_comm]
theorem fr_low {sg:Bool} {N M P Q:Nat} (hN:(limbs N).length ≤ 2048) (hM:(limbs M).length ≤ 2048) (hp:0 < M) (hQ:0 < Q) (h:N * Q = P * M):Fr (sg && decide (limbs N ≠ [])) (limbs (N / Nat.gcd N M)) (limbs (M / Nat.gcd N M)) (nI sg P) (Q:Int):=by
 have hg:0 < Nat.gcd N M:=Nat.gcd_pos_of_pos_right _ hp
 have e:decide (limbs N ≠ []) = decide (N / Nat.gcd N M ≠ 0):=by
  by_cases h0:N = 0
  ·subst h0
   rw [limbs_zero,Nat.zero_div]
   rfl
  ·have h1:limbs N ≠ []:=by rw [Ne,limbs_eq_nil]; exact h0
   have h2:0 < N / Nat.gcd N M:=Nat.div_pos (Nat.gcd_le_left _ (by omega)) hg
   simp [h1,Nat.ne_of_gt h2]
 have small:∀ {Z g:Nat},(limbs Z).length ≤ 2048 → bigN (Z / g) = false:=by
  intro Z g hz
  have h1:=limbs_mono (Nat.div_le_self Z g)
  unfold bigN
  simp
  omega
 rw [e]
 have hco:Nat.gcd (N / Nat.gcd N M) (M / Nat.gcd N M) = 1:=Nat.gcd_div_gcd_div_gcd_of_pos_right hp
 refine ⟨mayR_mk (small hN) (small hM) (Nat.div_pos (Nat.gcd_le_right _ hp) hg) hco,by omega,?_⟩
 rw [lv,lv,nI_and,← nI_mul,← nI_mul,gcd_cancel hp h]
theorem may_false {g:Bool} {x y:List Nat} (h:MayR g x y = true):MayR false x y = true:=by
 unfold MayR at h ⊢
 simp only [Bool.and_eq_true] at h ⊢
 exact ⟨⟨h.1.1,by simp⟩,h.2⟩
theorem nI_abs (g:Bool) (v:Nat):(nI g v).natAbs = v:=by cases g <;> simp [nI]
theorem nI_dif (g:Bool) (a b:Nat):(nI g a - nI g b).natAbs = dif a b:=by
 unfold dif
 cases g <;> simp [nI] <;> omega
theorem gap_is {g g' gs:Bool} {x y x' y' xs ys:List Nat} {F Q:Nat} (h:MayR g x y = true) (hr:Fr g' x' y' (nI g F) (Q:Int)) (hs:SubF g x y g' x' y' = ((gs,xs,ys),0)):MayR gs xs ys = true ∧ MayR false xs ys = true ∧ Ok xs ∧ Ok ys ∧ val xs * (val y * Q) = dif (val x * Q) (F * val y) * val ys:=by
 obtain ⟨g0,N,D,e,m,hD,hv⟩:=subF_ok h hr.may (by rw [hs])
 rw [hs] at e
 cases e
 refine ⟨m,may_false m,limbs_ok _,limbs_ok _,?_⟩
 rw [lv,lv]
 have y2p:=posI hr.may
 have hreq:=hr.eq
 have h1:nI gs N * ((val y:Int) * (Q:Int)) = (nI g (val x) * (Q:Int) - nI g F * (val y:Int)) * (D:Int):=by
  refine Int.eq_of_mul_eq_mul_right (Int.ne_of_gt y2p) ?_
  generalize nI gs N = n at *
  generalize nI g (val x) = a at *
  generalize nI g' (val x') = b at *
  generalize nI g F = f at *
  generalize (val y:Int) = Y at *
  generalize (val y':Int) = Y' at *
  generalize (Q:Int) = q at *
  generalize (D:Int) = d at *
  grind
 have h2:=congrArg Int.natAbs h1
 rw [← nI_mul,← nI_mul] at h2
 simp only [Int.natAbs_mul,nI_abs,nI_dif,Int.natAbs_natCast] at h2
 exact h2
theorem ok_nil:Ok []:=by intro i hi; simp at hi
def GapN (w w':World) (e:Ending):Prop:=∃ a n c b m d,e = .returned (.tuple #[ratV false a n c b m d,.bool false]) ∧ Sl w' a n c [] ∧ Sl w' b m d [] ∧ Below w.heap.size w w'
set_option maxHeartbeats 8000000 in
set_option maxRecDepth 100000 in
theorem gap_no (g1 g2:Bool) (a1 b1 a2 b2:Option Addr) (n1 c1 m1 d1 n2 c2 m2 d2:Nat) (x1 y1 x2 y2:List Nat) (w:World) (hx1:Sl w a1 n1 c1 x1) (hy1:Sl w b1 m1 d1 y1) (hx2:Sl w a2 n2 c2 x2) (hy2:Sl w b2 m2 d2 y2) (ox1:Ok x1) (oy1:Ok y1) (ox2:Ok x2) (oy2:Ok y2) (hT:Tab64 w) (es:Int) (hes:es ≠ 0) (hS:SubF g1 x1 y1 g2 x2 y2 = ((false,[],[]),es)) :
  Calls Tryz.prog 20 #[ratV g1 a1 n1 c1 b1 m1 d1,ratV g2 a2 n2 c2 b2 m2 d2] w fun e w' => GapN w w' e:=by
 obtain ⟨wa,hwa⟩:∃ z,w.alloc (.cells #[.bool g1,.slice a1 n1 c1,.slice b1 m1 d1] 25) = z:=⟨_,rfl⟩
 obtain ⟨wb,hwb⟩:∃ z,wa.alloc (.cells #[.bool g2,.slice a2 n2 c2,.slice b2 m2 d2] 25) = z:=⟨_,rfl⟩
 obtain ⟨wo,hwo⟩:∃ z,wb.alloc (.cells #[.bool false,.slice none 0 0,.slice none 0 0] 25) = z:=⟨_,rfl⟩
 have hF0:Fcts w w [fTab,fN a1 n1 c1 x1 b1 m1 d1 y1,fN a2 n2 c2 x2 b2 m2 d2 y2]:=⟨Below.refl _ _,fun f hf => by simp at hf; rcases hf with rfl | rfl | rfl; exact hT; exact ⟨hx1,hy1⟩; exact ⟨hx2,hy2⟩⟩
 have hF1:=hF0.box (.bool g1) (.slice a1 n1 c1) (.slice b1 m1 d1) 25
 rw [hwa] at hF1
 have hF2:=hF1.box (.bool g2) (.slice a2 n2 c2) (.slice b2 m2 d2) 25
 rw [hwb] at hF2
 have hF3:=hF2.box (.bool false) (.slice none 0 0) (.slice none 0 0) 25
 rw [hwo] at hF3
 have HW:=Hj (show w.heap.size ≤ wb.heap.size from hF2.bel.size)
 have q1:=hF3.r w.heap.size (.bool g1) (.slice a1 n1 c1) (.slice b1 m1 d1) mM2
 have q2:=hF3.r wa.heap.size (.bool g2) (.slice a2 n2 c2) (.slice b2 m2 d2) mM1
 have u0:=q1.c0
 have u1:=q1.c1
 have u2:=q1.c2
 have u3:=q2.c0
 have u4:=q2.c1
 have u5:=q2.c2
 have HLo:=Hj (hF3.r wb.heap.size (.bool false) (.slice none 0 0) (.slice none 0 0) (.head _)).lt
 have i1:=hF3.n a1 n1 c1 x1 b1 m1 d1 y1 mM4
 have i2:=hF3.n a2 n2 c2 x2 b2 m2 d2 y2 mM5
 have K:=ratSub_any g1 g2 a1 b1 a2 b2 n1 c1 m1 d1 n2 c2 m2 d2 x1 y1 x2 y2 wo i1.num i1.den i2.num i2.den ox1 oy1 ox2 oy2 (hF3.tab mM3)
 rw [hS] at K
 try dsimp only at K
 unfold ratV at K
 have HK:=Hj K
 have HF3:=Hj hF3
 have HA:=Hj (show AbsF false [] [] = ((false,[],[]),40) from rfl)
 have tes:(es == 0) = false:=by simp [hes]
 have HO:=Hj (And.intro ok_nil ok_nil)
 clear hS hes hF0 hF1 hF2 hF3 q1 q2 i1 i2 K hx1 hy1 hx2 hy2 hT ox1 oy1 ox2 oy2
 unfold ratV
 go_enter Tryz.func20,Tryz.ntmps20
 go_wp2_with fail
 refine (Uh HK).mono ?_
 rintro _ w1 ⟨v,rfl,ax,nx,cx,bx,mx,dx,rfl,sx,sy,ex,ey,hb⟩
 unfold ratV
 have hF4:=((Uh HF3).step hb).add (fN ax nx cx [] bx mx dx []) ⟨sx,sy⟩
 obtain ⟨w2,hw2⟩:∃ z,w1.alloc (.cells #[.bool false,.slice ax nx cx,.slice bx mx dx] 25) = z:=⟨_,rfl⟩
 have hF5:=hF4.box (.bool false) (.slice ax nx cx) (.slice bx mx dx) 25
 rw [hw2] at hF5
 have qx:=hF5.r w1.heap.size (.bool false) (.slice ax nx cx) (.slice bx mx dx) (.head _)
 have e0:=qx.c0
 have e1:=qx.c1
 have e2:=qx.c2
 have hn:=hF5.n ax nx cx [] bx mx dx [] mM1
 have K:=ratAbs_F false ax bx nx cx mx dx [] [] w2 hn.num hn.den (Uh HO).1 (Uh HO).2 (hF5.tab mM5)
 rw [Uh HA] at K
 unfold ResF at K
 try dsimp only at K
 unfold ratV at K
 have HK2:=Hj K
 have HF5:=Hj hF5
 clear sx sy ex ey hb hF4 hF5 qx hn K HK HF3 u0 u1 u2 u3 u4 u5
 go_wp2_with fail
 clear e0 e1 e2
 refine (Uh HK2).mono ?_
 rintro _ w3 ⟨v,rfl,az,nz,cz,bz,mz,dz,rfl,sx,sy,ex,ey,hb⟩
 unfold ratV
 have hF6:=((Uh HF5).step hb).add (fN az nz cz [] bz mz dz []) ⟨sx,sy⟩
 obtain ⟨w4,hw4⟩:∃ z,w3.alloc (.cells #[.bool false,.slice az nz cz,.slice bz mz dz] 25) = z:=⟨_,rfl⟩
 have hF7:=hF6.box (.bool false) (.slice az nz cz) (.slice bz mz dz) 25
 rw [hw4] at hF7
 have hl5:=(Uh HF5).r wb.heap.size (.bool false) (.slice none 0 0) (.slice none 0 0) mM2
 have HNE:=Hj (And.intro (fun p hp h => by have h1:=ex p hp; have h2:=hl5.lt; omega:∀ p,az = some p → p.block ≠ wb.heap.size) (fun p hp h => by have h1:=ey p hp; have h2:=hl5.lt; omega:∀ p,bz = some p → p.block ≠ wb.heap.size))
 have qo:=hF7.r wb.heap.size (.bool false) (.slice none 0 0) (.slice none 0 0) mM4
 have qx:=hF7.r w3.heap.size (.bool false) (.slice az nz cz) (.slice bz mz dz) (.head _)
 have o0:=qo.c0
 have o1:=qo.c1
 have o2:=qo.c2
 have p0:=qo.f0
 have p1:=qo.f1
 have p2:=qo.f2
 have e0:=qx.c0
 have e1:=qx.c1
 have e2:=qx.c2
 have HRR:=Hj (show w3.heap.size ≠ wb.heap.size from by have h2:=hl5.lt; have h3:=hb.size; omega)
 have H4:=Hj (three_set w4 wb.heap.size (.bool false) (.slice az nz cz) (.slice bz mz dz) qo.out.cells)
 have HF:=Hj hF7
 clear sx sy ex ey hb hF6 hF7 qo qx hl5 HK2 HF5 HLo
 go_wp2_with fail
 have hr1:w3.heap.size ≠ wb.heap.size:=Uh HRR
 have hr2:=hr1.symm
 refine wp_region_held_drew (S:=fun w' => w'.cell? ⟨w3.heap.size,0,none⟩ = some (.bool false) ∧ w'.cell? ⟨w3.heap.size,1,none⟩ = some (.slice az nz cz) ∧ w'.cell? ⟨w3.heap.size,2,none⟩ = some (.slice bz mz dz)) (by kernel_rfl) (by simp [e0,e1,e2]) (fun hHeld => ?_)
 refine wpAnyH_take (i := 0) (oi := { dst := some 21, op := Op.load 25 (Operand.tmp 8), type := 25, pos := "outright.go:124", after := #[], guard := none }) (v := ?v0) rfl (by kernel_rfl) (by kernel_rfl) (by kernel_rfl) (fun _ _ _ h => h) (Or.inl ⟨by rfl, ?y0⟩) (by assumption) ?r0
 case y0 =>
  intro W hSw
  try dsimp only at hSw
  go_simp
  try with_reducible rfl
 try simp only [Act.put,List.setIfInBounds_toArray,List.set_cons_zero,List.set_cons_succ]
 refine wpAnyH_take (i := 1) (oi := { dst := some 22, op := Op.move (Operand.tmp 7), type := 28, pos := "outright.go:124", after := #[], guard := none }) (v := ?v1) rfl (by kernel_rfl) (by kernel_rfl) (by kernel_rfl) (fun _ _ _ h => h) (Or.inl ⟨by rfl, ?y1⟩) (by assumption) ?r1
 case y1 =>
  intro W hSw
  try dsimp only at hSw
  go_simp
  try with_reducible rfl
 try simp only [Act.put,List.setIfInBounds_toArray,List.set_cons_zero,List.set_cons_succ]
 refine wpAnyH_ready (rs:=[2]) (by kernel_rfl) (by simp) ?_
 refine AllReadyH.cons (o := { dst := some 23, op := Op.call { callee := Callee.value (Operand.func 10), args := #[Operand.tmp 22], argTypes := #[28] }, type := 3, pos := "outright.go:124", after := #[{ on := 1, ground := Ground.data }], guard := none }) rfl (fun K hK => ?_) AllReadyH.nil
 go_simp
 refine (rnum2_any _ _).mono ?_
 rintro _ w' ⟨rfl,hw⟩
 obtain rfl:=hw
 refine hK.out _ _ hHeld (fun hHeld2 => ?_)
 clear hK K
 try simp only [Act.put,List.setIfInBounds_toArray,List.set_cons_zero,List.set_cons_succ]
 refine wpAnyH_take (i := 3) (oi := { dst := some 24, op := Op.binOp BinOp.eql 3 (Operand.tmp 23) (Operand.const (Value.int IntKind.i64 0)) 3, type := 4, pos := "outright.go:124", after := #[{ on := 2, ground := Ground.data }], guard := none }) (v := Value.bool false) rfl (by kernel_rfl) (by kernel_rfl) (by kernel_rfl) (fun _ _ _ h => h) (Or.inl ⟨by rfl, ?y3⟩) (by assumption) ?r3
 case y3 =>
  intro W hSw
  try dsimp only at hSw
  go_simp
  try simp only [tes]
  try with_reducible rfl
 try simp only [Act.put,List.setIfInBounds_toArray,List.set_cons_zero,List.set_cons_succ]
 refine wpAnyH_take (i := 4) (oi := { dst := some 25, op := Op.move (Operand.tmp 24), type := 4, pos := "outright.go:124", after := #[{ on := 3, ground := Ground.data }, { on := 2, ground := Ground.chain }], guard := none }) (v := ?v4) rfl (by kernel_rfl) (by kernel_rfl) (by kernel_rfl) (fun _ _ _ h => h) (Or.inl ⟨by rfl, ?y4⟩) (by assumption) ?r4
 case y4 =>
  intro W hSw
  try dsimp only at hSw
  go_simp
  try with_reducible rfl
 try simp only [Act.put,List.setIfInBounds_toArray,List.set_cons_zero,List.set_cons_succ]
 refine wpAnyH_take (i := 5) (oi := { dst := some 26, op := Op.move (Operand.tmp 9), type := 28, pos := "outright.go:124", after := #[{ on := 4, ground := Ground.guard }], guard := some (4, true) }) (v := _) rfl (by kernel_rfl) (by kernel_rfl) (by kernel_rfl) (fun _ _ _ h => h) (Or.inr ⟨by rfl, rfl⟩) (by assumption) ?r5
 try simp only [Act.put,List.setIfInBounds_toArray,List.set_cons_zero,List.set_cons_succ]
 refine wpAnyH_take (i := 6) (oi := { dst := some 27, op := Op.call { callee := Callee.value (Operand.func 10), args := #[Operand.tmp 26], argTypes := #[28] }, type := 3, pos := "outright.go:124", after := #[{ on := 5, ground := Ground.data }, { on := 4, ground := Ground.chain }, { on := 4, ground := Ground.guard }], guard := some (4, true) }) (v := _) rfl (by kernel_rfl) (by kernel_rfl) (by kernel_rfl) (fun _ _ _ h => h) (Or.inr ⟨by rfl, rfl⟩) (by assumption) ?r6
 try simp only [Act.put,List.setIfInBounds_toArray,List.set_cons_zero,List.set_cons_succ]
 refine wpAnyH_take (i := 7) (oi := { dst := some 28, op := Op.binOp BinOp.eql 3 (Operand.tmp 27) (Operand.const (Value.int IntKind.i64 0)) 3, type := 4, pos := "outright.go:124", after := #[{ on := 6, ground := Ground.data }, { on := 4, ground := Ground.guard }, { on := 9, ground := Ground.gcOnly Departure.lateStores }], guard := some (4, true) }) (v := _) rfl (by kernel_rfl) (by kernel_rfl) (by kernel_rfl) (fun _ _ _ h => h) (Or.inr ⟨by rfl, rfl⟩) (by assumption) ?r7
 try simp only [Act.put,List.setIfInBounds_toArray,List.set_cons_zero,List.set_cons_succ]
 refine wpAnyH_take (i := 8) (oi := { dst := some 29, op := Op.pick (Operand.tmp 25) (Operand.tmp 28) (Operand.const (Value.bool false)), type := 4, pos := "outright.go:124", after := #[{ on := 4, ground := Ground.data }, { on := 7, ground := Ground.data }, { on := 9, ground := Ground.gcOnly Departure.lateStores }], guard := none }) (v := ?v8) rfl (by kernel_rfl) (by kernel_rfl) (by kernel_rfl) (fun _ _ _ h => h) (Or.inl ⟨by rfl, ?y8⟩) (by assumption) ?r8
 case y8 =>
  intro W hSw
  try dsimp only at hSw
  go_simp
  try with_reducible rfl
 try simp only [Act.put,List.setIfInBounds_toArray,List.set_cons_zero,List.set_cons_succ]
 refine wpAnyH_ready (rs:=[9]) (by kernel_rfl) (by simp) ?_
 refine AllReadyH.cons rfl (fun K hK => ?_) AllReadyH.nil
 go_simp
 refine hK.out _ _ (by go_keep) (fun hHeld3 => ?_)
 clear hK K hHeld hHeld2
 try simp only [Act.put,List.setIfInBounds_toArray,List.set_cons_zero,List.set_cons_succ]
 refine wpAnyH_ready (rs:=[10]) (by kernel_rfl) (by simp) ?_
 refine AllReadyH.cons rfl (fun K hK => ?_) AllReadyH.nil
 go_simp
 refine hK.out _ _ hHeld3 (fun hHeld4 => ?_)
 clear hK K hHeld3 hHeld4
 try simp only [Act.put,List.setIfInBounds_toArray,List.set_cons_zero,List.set_cons_succ]
 refine wpAnyH_done (by kernel_rfl) ?_ _
 go_wp2_with fail
 obtain ⟨t0,t1,t2,c4⟩:=Uh H4
 generalize ((w4.setCell ⟨wb.heap.size,0,none⟩ (.bool false)).setCell ⟨wb.heap.size,1,none⟩ (.slice az nz cz)).setCell ⟨wb.heap.size,2,none⟩ (.slice bz mz dz) = wk at *
 refine bodyPost_ret (by simp [results,Tryz.results20,go_sem,t0,t1,t2]; try rfl) rfl ?_
 have hn:=(Uh HF).n az nz cz [] bz mz dz [] mM1
 have hb:=(Uh HF).bel
 exact ⟨az,nz,cz,bz,mz,dz,rfl,(hn.num.chg c4 (fun p hp _ => (Uh HNE).1 p hp)).below (Below.refl _ _).drew,(hn.den.chg c4 (fun p hp _ => (Uh HNE).2 p hp)).below (Below.refl _ _).drew,(hb.trans (c4.below hb.size (fun k hk h => by have:=Uh HW; omega))).drew⟩
theorem subF_no {g1 g2:Bool} {x1 y1 x2 y2:List Nat} (h:(SubF g1 x1 y1 g2 x2 y2).2 ≠ 0):SubF g1 x1 y1 g2 x2 y2 = ((false,[],[]),(SubF g1 x1 y1 g2 x2 y2).2):=by
 unfold SubF at h ⊢
 split
 ·next k =>
  rw [if_pos k] at h
  split
  ·rfl
  ·next k2 => rw [if_neg k2] at h; exact absurd rfl h
 ·rfl
def GapA (w w':World) (W d:Nat) (e:Ending):Prop:=∃ a n c b m d' xs ys ok,e = .returned (.tuple #[ratV false a n c b m d',.bool ok]) ∧ Sl w' a n c xs ∧ Sl w' b m d' ys ∧ Ok xs ∧ Ok ys ∧ (ok = true → MayR false xs ys = true ∧ val xs * W = d * val ys) ∧ Below w.heap.size w w'
theorem gap_fl (g1 g2:Bool) (a1 b1 a2 b2:Option Addr) (n1 c1 m1 d1 n2 c2 m2 d2:Nat) (x1 y1 x2 y2:List Nat) (F Q:Nat) (w:World) (hx1:Sl w a1 n1 c1 x1) (hy1:Sl w b1 m1 d1 y1) (hx2:Sl w a2 n2 c2 x2) (hy2:Sl w b2 m2 d2 y2) (ox1:Ok x1) (oy1:Ok y1) (ox2:Ok x2) (oy2:Ok y2) (hT:Tab64 w) (h:MayR g1 x1 y1 = true) (hr:Fr g2 x2 y2 (nI g1 F) (Q:Int)) :
  Calls Tryz.prog 20 #[ratV g1 a1 n1 c1 b1 m1 d1,ratV g2 a2 n2 c2 b2 m2 d2] w fun e w' => GapA w w' (val y1 * Q) (dif (val x1 * Q) (F * val y1)) e:=by
 by_cases h0:(SubF g1 x1 y1 g2 x2 y2).2 = 0
 ·obtain ⟨⟨⟨gs,xs,ys⟩,es⟩,hs⟩:∃ r,SubF g1 x1 y1 g2 x2 y2 = r:=⟨_,rfl⟩
  rw [hs] at h0
  have h0':es = 0:=h0
  subst h0'
  obtain ⟨m1',m2',o1,o2,hv⟩:=gap_is h hr hs
  refine (gap_any g1 g2 gs a1 b1 a2 b2 n1 c1 m1 d1 n2 c2 m2 d2 x1 y1 x2 y2 xs ys w hx1 hy1 hx2 hy2 ox1 oy1 ox2 oy2 hT hs (by unfold AbsF; rw [if_pos m1']) o1 o2).mono ?_
  rintro e w' ⟨a,n,c,b,m,d,he,s1,s2,hb⟩
  exact ⟨a,n,c,b,m,d,xs,ys,true,he,s1,s2,o1,o2,fun _ => ⟨m2',hv⟩,hb⟩
 ·refine (gap_no g1 g2 a1 b1 a2 b2 n1 c1 m1 d1 n2 c2 m2 d2 x1 y1 x2 y2 w hx1 hy1 hx2 hy2 ox1 oy1 ox2 oy2 hT _ h0 (subF_no h0)).mono ?_
  rintro e w' ⟨a,n,c,b,m,d,he,s1,s2,hb⟩
  exact ⟨a,n,c,b,m,d,[],[],false,he,s1,s2,ok_nil,ok_nil,(fun h => by cases h),hb⟩
end Go.Proofs.YtmnlhnmlgncedaaGreatDoor
