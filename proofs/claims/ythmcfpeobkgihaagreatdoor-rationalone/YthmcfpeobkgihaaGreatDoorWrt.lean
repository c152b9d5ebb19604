/- Wrt -/
import Derived.Test.YthmcfpeobkgihaaGreatDoorRq1
namespace Go.Proofs.YthmcfpeobkgihaaGreatDoor
open Go.RowKit Go.Deep
set_option linter.unusedVariables false
set_option maxRecDepth 100000 in
set_option maxHeartbeats 64000000 in
theorem wpow_neg (g1:Bool) (a1 b1:Option Addr) (n1 c1 m1 d1:Nat) (x1 y1:List Nat) (kk:Nat) (w:World) (hx1:Sl w a1 n1 c1 x1) (hy1:Sl w b1 m1 d1 y1) (ox1:Ok x1) (oy1:Ok y1) (hm:MayR g1 x1 y1 = true) (hkk:kk ≤ 1024) (hk0:0 < kk) (hz:n1 ≠ 0) :
  Calls Tryz.prog 18 #[ratV g1 a1 n1 c1 b1 m1 d1,.int .i64 (-(kk:Int))] w fun e w' => ResF w w' (pwF g1 y1 x1 kk) e:=by
 obtain ⟨⟨⟨SG,LN,LD⟩,ER⟩,hFF⟩:∃ r,pwF g1 y1 x1 kk = r:=⟨_,rfl⟩
 rw [hFF]
 unfold ResF
 dsimp only
 have bx:=Box.made w g1 a1 n1 c1 b1 m1 d1
 obtain ⟨wa,hwa⟩:∃ wa,ratBox w g1 a1 n1 c1 b1 m1 d1 = wa:=⟨_,rfl⟩
 rw [hwa] at bx
 unfold ratBox at hwa
 have hba:=bx.bel
 obtain ⟨wo,hwo⟩:∃ x,wa.alloc (.cells #[.bool false,.slice none 0 0,.slice none 0 0] 25) = x:=⟨_,rfl⟩
 have hbo:Below wa.heap.size wa wo:=by rw [← hwo]; exact bAl
 have hO:Out wo wa.heap.size:=by rw [← hwo]; exact Out.made wa
 have bx2:=bx.keep hbo
 have hB:=hba.trans (hbo.mono hba.size)
 have hRw:w.heap.size ≤ wa.heap.size:=hba.size
 have hne1:w.heap.size ≠ wa.heap.size:=by have:=bx.lt; omega
 have hne3:wa.heap.size ≠ w.heap.size:=by have:=bx.lt; omega
 have p0:=bx2.d0
 have p1:=bx2.d1
 have p2:=bx2.d2
 have HRw:=Hd hRw
 have HO:=Hd hO
 have HBo:=Hd hB
 have K1:=wmay_any g1 a1 b1 n1 c1 m1 d1 x1 y1 wo (hx1.below hB) (hy1.below hB) ox1 oy1
 rw [hm] at K1
 have HK1:=Hd K1
 obtain ⟨kx1,ky1,ey1,_,l1⟩:=MayR.parts hm
 have s1:n1 ≤ 2048:=by have:=hx1.len; have:=MayL.len kx1; omega
 have s2:m1 ≤ 2048:=by have:=hy1.len; have:=MayL.len ky1; omega
 have hyv:val y1 ≠ 0:=fun e => by
  have l2:=limbs_val oy1 (MayL.norm ky1)
  rw [e] at l2
  exact ey1 (l2.symm.trans limbs_zero)
 have hxv:val x1 ≠ 0:=fun e => by
  have l2:=limbs_val ox1 (MayL.norm kx1)
  rw [e] at l2
  have e2:=l2.symm.trans limbs_zero
  have:=hx1.len
  rw [e2] at this
  simp at this
  omega
 have HXV:=Hd hyv
 have HYV:=Hd hxv
 have HZ1:=Hd (fun (e:val y1 = 0) => (absurd e hyv:val x1 = 1))
 clear hxv
 have HSX:=Hd (And.intro (hy1.below hB) (hx1.below hB))
 have HOX:=Hd (And.intro oy1 ox1)
 have HLX:=Hd (And.intro (fun (hn:y1 ≠ []) => hy1.block_lt hn) (fun (hn:x1 ≠ []) => hx1.block_lt hn))
 have HFF:=Hd hFF
 have hoR:Out wo w.heap.size:=by
  refine ⟨fun i hi => ?_,fun i hi => ?_,bx2.lt⟩
  ·match i,hi with
   | 0,_ => exact ⟨_,p0⟩
   | 1,_ => exact ⟨_,p1⟩
   | 2,_ => exact ⟨_,p2⟩
  ·match i,hi with
   | 0,_ => rw [← hwo,← hwa]; simp
   | 1,_ => rw [← hwo,← hwa]; simp
   | 2,_ => rw [← hwo,← hwa]; simp
 have HOR:=Hd hoR
 clear hoR
 have u1:¬ -(kk:Int) < -1024:=by omega
 have u2:¬ 1024 < -(kk:Int):=by omega
 have u3:-(kk:Int) < 0:=by omega
 have u4:((n1:Int) == 0) = false:=by simp; omega
 have u5:0 - -(kk:Int) = (kk:Int):=by omega
 clear K1 hx1 hy1 bx bx2 hba hbo hB hO hm kx1 ky1 ey1 l1 hyv ox1 oy1 hFF hz
 obtain ⟨XX,hXX⟩:∃ v,val y1 = v:=⟨_,rfl⟩
 obtain ⟨YY,hYY⟩:∃ v,val x1 = v:=⟨_,rfl⟩
 have HXX:=Hd (And.intro hXX hYY)
 rw [hXX] at HZ1
 rw [hYY] at HZ1 HYV
 rw [hXX] at HXV
 clear hXX hYY
 unfold ratV at HK1 ⊢
 go_enter Tryz.func18,Tryz.ntmps18
 go_wp2_with fail
 refine (Uh HK1).mono ?_
 rintro _ wm ⟨rfl,b3⟩
 have e0:=(ck b3 p0)
 have e1:=(ck b3 p1)
 have e2:=(ck b3 p2)
 have HBm:=Hd b3
 have hOR:=(Uh HOR).keep b3
 have q0:=hOR.fz 0 (by decide)
 have q1:=hOR.fz 1 (by decide)
 have q2:=hOR.fz 2 (by decide)
 have HT3:=Hd (tri_set hOR (.bool g1) (.slice b1 m1 d1) (.slice a1 n1 c1))
 have HC3:=Hd (three_set wm w.heap.size (.bool g1) (.slice b1 m1 d1) (.slice a1 n1 c1) hOR.cells).2.2.2
 clear hOR b3 HK1 p0 p1 p2
 go_wp2_with fail
 clear e0 e1 e2 q0 q1 q2
 generalize ((wm.setCell ⟨w.heap.size,0,none⟩ (.bool g1)).setCell ⟨w.heap.size,1,none⟩ (.slice b1 m1 d1)).setCell ⟨w.heap.size,2,none⟩ (.slice a1 n1 c1) = w3 at *
 have f0:=(Uh HT3).c0
 have f1:=(Uh HT3).c1
 have f2:=(Uh HT3).c2
 have HO3:=Hd (((Uh HO).keep (Uh HBm)).chgW (Uh HC3) (fun h => hne3 h))
 have hBm2:=(Uh HBo).trans ((Uh HBm).mono (Uh HBo).size)
 have HB3:=Hd (hBm2.trans ((Uh HC3).below hBm2.size (fun k hk e => by omega)))
 clear hBm2
 have HS3:=Hd (And.intro (((Uh HSX).1.below (Uh HBm)).chg (Uh HC3) (fun x hx hn e => by have:=(Uh HLX).1 hn x hx; omega)) (((Uh HSX).2.below (Uh HBm)).chg (Uh HC3) (fun x hx hn e => by have:=(Uh HLX).2 hn x hx; omega)))
 clear HBm HT3 HC3 HSX HO HBo HOR
 refine (wone_any _).mono ?_
 rintro _ w4 ⟨vt,rfl,aq,mq,cq,ar,mr,cr,rfl,st,su,nq,nr,b4⟩
 unfold ratV
 obtain ⟨w5,hw5⟩:∃ x,w4.alloc (.cells #[.bool false,.slice aq mq cq,.slice ar mr cr] 25) = x:=⟨_,rfl⟩
 have hal:Below w4.heap.size w4 w5:=by rw [← hw5]; exact bAl
 have P0:PwX w5 w3 w4.heap.size g1 XX YY 0 aq mq cq ar mr cr:=⟨by rw [← hw5]; simp only [Nat.zero_mod,Nat.zero_ne_one,decide_false,Bool.and_false]; exact Tri.made _ _ _ _ _,by rw [Nat.pow_zero,limbs_1]; exact st.below hal,by rw [Nat.pow_zero,limbs_1]; exact su.below hal,nq,nr,by rw [Nat.pow_zero]; exact big_one,by rw [Nat.pow_zero]; exact big_one,by simp,b4.trans (hal.mono b4.size),b4.size⟩
 have HP0:=Hd P0
 have hRX:w.heap.size ≠ w4.heap.size:=by have h1:w.heap.size < w3.heap.size:=World.block_lt_of_cell? _ _ f0; have:=b4.size; omega
 have hRO:wa.heap.size ≠ w4.heap.size:=by have h1:=(Uh HO3).lt; have:=b4.size; omega
 have hRX2:w4.heap.size ≠ w.heap.size:=fun e => hRX e.symm
 clear st su nq nr b4 hal P0
 go_wp2_with fail
 clear hw5
 go_loopw [7] (fun iv wr => ∃ j:Nat,∃ aN mN cN aD mD cD,j ≤ kk ∧ iv = .int .i64 (j:Nat) ∧ PwX wr w3 w4.heap.size g1 XX YY j aN mN cN aD mD cD) (fun iv _ => kk - (intOf iv).toNat)
 case atStart => exact ⟨0,_,_,_,_,_,_,Nat.zero_le _,rfl,Uh HP0⟩
 case round =>
  clear HP0
  obtain ⟨j,aN,mN,cN,aD,mD,cD,hj,rfl,hP⟩:=hrel
  have x0:=hP.tx.c0
  have x1':=hP.tx.c1
  have x2':=hP.tx.c2
  obtain ⟨GJ,hGJ⟩:∃ b,(g1 && decide (j % 2 = 1)) = b:=⟨_,rfl⟩
  rw [hGJ] at x0
  have HGJ:=Hd hGJ
  clear hGJ
  have HP:=Hd hP
  have e0:=(ck hP.bel f0)
  have e1:=(ck hP.bel f1)
  have e2:=(ck hP.bel f2)
  by_cases hlt:j < kk
  ·have hlt':(j:Int) < (kk:Int):=by omega
   have lN:=big_le48 hP.bN hP.sN.len
   have lD:=big_le48 hP.bD hP.sD.len
   have HM1:=Hd (fun (W:World) (hb:Below wr.heap.size wr W) => show Calls Tryz.prog 54 #[.slice aN mN cN,.slice b1 m1 d1] W fun e w' => NewL W w' (XX ^ j * XX) e from by
    have K:=wmulw_any aN b1 mN cN m1 d1 (limbs (XX ^ j)) y1 W (hP.sN.below hb) (((Uh HS3).1.below hP.bel).below hb) (limbs_ok _) (Uh HOX).1 (by omega)
    rw [limbs_v,(Uh HXX).1] at K
    exact K)
   have HM2:=Hd (fun (W:World) (hb:Below wr.heap.size wr W) => show Calls Tryz.prog 54 #[.slice aD mD cD,.slice a1 n1 c1] W fun e w' => NewL W w' (YY ^ j * YY) e from by
    have K:=wmulw_any aD a1 mD cD n1 c1 (limbs (YY ^ j)) x1 W (hP.sD.below hb) (((Uh HS3).2.below hP.bel).below hb) (limbs_ok _) (Uh HOX).2 (by omega)
    rw [limbs_v,(Uh HXX).2] at K
    exact K)
   clear hP lN lD
   go_wp2_with fail
   have hHeld:(fun w' => w'.cell? ⟨w4.heap.size,0,none⟩ = some (.bool GJ) ∧ w'.cell? ⟨w4.heap.size,1,none⟩ = some (.slice aN mN cN) ∧ w'.cell? ⟨w4.heap.size,2,none⟩ = some (.slice aD mD cD) ∧ w'.cell? ⟨w.heap.size,0,none⟩ = some (.bool g1) ∧ w'.cell? ⟨w.heap.size,1,none⟩ = some (.slice b1 m1 d1) ∧ w'.cell? ⟨w.heap.size,2,none⟩ = some (.slice a1 n1 c1)) wr.drew:=⟨x0,x1',x2',e0,e1,e2⟩
   refine anyTill_region (fun w' => w'.cell? ⟨w4.heap.size,0,none⟩ = some (.bool GJ) ∧ w'.cell? ⟨w4.heap.size,1,none⟩ = some (.slice aN mN cN) ∧ w'.cell? ⟨w4.heap.size,2,none⟩ = some (.slice aD mD cD) ∧ w'.cell? ⟨w.heap.size,0,none⟩ = some (.bool g1) ∧ w'.cell? ⟨w.heap.size,1,none⟩ = some (.slice b1 m1 d1) ∧ w'.cell? ⟨w.heap.size,2,none⟩ = some (.slice a1 n1 c1)) 16 (by kernel_rfl) ?_
   refine anyTill_take (i := 0) (oi := { dst := some 45, op := Op.fieldAddr 25 (Operand.tmp 6) 0, type := 0, pos := "rational.go:219", after := #[], guard := none }) (oL := { dst := none, op := Op.store 25 (Operand.tmp 6) (Operand.tmp 60), type := 0, pos := "rational.go:219", after := #[{ on := 15, ground := Ground.data }, { on := 14, ground := Ground.chain }, { on := 0, ground := Ground.phase }, { on := 1, ground := Ground.phase }, { on := 2, ground := Ground.phase }, { on := 3, ground := Ground.phase }, { on := 4, ground := Ground.phase }, { on := 5, ground := Ground.phase }, { on := 6, ground := Ground.phase }, { on := 7, ground := Ground.phase }, { on := 8, ground := Ground.phase }, { on := 9, ground := Ground.phase }, { on := 10, ground := Ground.phase }, { on := 11, ground := Ground.phase }, { on := 12, ground := Ground.phase }, { on := 13, ground := Ground.phase }, { on := 14, ground := Ground.phase }, { on := 15, ground := Ground.phase }], guard := none }) (v := ?v0) rfl rfl (by kernel_rfl) (by kernel_rfl) (by kernel_rfl) (by kernel_rfl) (fun _ _ _ h => h) (Or.inl ⟨by rfl, ?y0⟩) (by assumption) ?r0
   case y0 =>
    intro W hSw
    try dsimp only at hSw
    go_simp
    try with_reducible rfl
   try simp only [Act.put,List.setIfInBounds_toArray,List.set_cons_zero,List.set_cons_succ]
   refine anyTill_take (i := 1) (oi := { dst := some 46, op := Op.load 4 (Operand.tmp 45), type := 4, pos := "rational.go:219", after := #[{ on := 0, ground := Ground.data }], guard := none }) (oL := { dst := none, op := Op.store 25 (Operand.tmp 6) (Operand.tmp 60), type := 0, pos := "rational.go:219", after := #[{ on := 15, ground := Ground.data }, { on := 14, ground := Ground.chain }, { on := 0, ground := Ground.phase }, { on := 1, ground := Ground.phase }, { on := 2, ground := Ground.phase }, { on := 3, ground := Ground.phase }, { on := 4, ground := Ground.phase }, { on := 5, ground := Ground.phase }, { on := 6, ground := Ground.phase }, { on := 7, ground := Ground.phase }, { on := 8, ground := Ground.phase }, { on := 9, ground := Ground.phase }, { on := 10, ground := Ground.phase }, { on := 11, ground := Ground.phase }, { on := 12, ground := Ground.phase }, { on := 13, ground := Ground.phase }, { on := 14, ground := Ground.phase }, { on := 15, ground := Ground.phase }], guard := none }) (v := ?v1) rfl rfl (by kernel_rfl) (by kernel_rfl) (by kernel_rfl) (by kernel_rfl) (fun _ _ _ h => h) (Or.inl ⟨by rfl, ?y1⟩) (by assumption) ?r1
   case y1 =>
    intro W hSw
    try dsimp only at hSw
    go_simp
    try with_reducible rfl
   try simp only [Act.put,List.setIfInBounds_toArray,List.set_cons_zero,List.set_cons_succ]
   refine anyTill_take (i := 2) (oi := { dst := some 47, op := Op.fieldAddr 25 (Operand.tmp 2) 0, type := 0, pos := "rational.go:219", after := #[], guard := none }) (oL := { dst := none, op := Op.store 25 (Operand.tmp 6) (Operand.tmp 60), type := 0, pos := "rational.go:219", after := #[{ on := 15, ground := Ground.data }, { on := 14, ground := Ground.chain }, { on := 0, ground := Ground.phase }, { on := 1, ground := Ground.phase }, { on := 2, ground := Ground.phase }, { on := 3, ground := Ground.phase }, { on := 4, ground := Ground.phase }, { on := 5, ground := Ground.phase }, { on := 6, ground := Ground.phase }, { on := 7, ground := Ground.phase }, { on := 8, ground := Ground.phase }, { on := 9, ground := Ground.phase }, { on := 10, ground := Ground.phase }, { on := 11, ground := Ground.phase }, { on := 12, ground := Ground.phase }, { on := 13, ground := Ground.phase }, { on := 14, ground := Ground.phase }, { on := 15, ground := Ground.phase }], guard := none }) (v := ?v2) rfl rfl (by kernel_rfl) (by kernel_rfl) (by kernel_rfl) (by kernel_rfl) (fun _ _ _ h => h) (Or.inl ⟨by rfl, ?y2⟩) (by assumption) ?r2
   case y2 =>
    intro W hSw
    try dsimp only at hSw
    go_simp
    try with_reducible rfl
   try simp only [Act.put,List.setIfInBounds_toArray,List.set_cons_zero,List.set_cons_succ]
   refine anyTill_take (i := 3) (oi := { dst := some 48, op := Op.load 4 (Operand.tmp 47), type := 4, pos := "rational.go:219", after := #[{ on := 2, ground := Ground.data }], guard := none }) (oL := { dst := none, op := Op.store 25 (Operand.tmp 6) (Operand.tmp 60), type := 0, pos := "rational.go:219", after := #[{ on := 15, ground := Ground.data }, { on := 14, ground := Ground.chain }, { on := 0, ground := Ground.phase }, { on := 1, ground := Ground.phase }, { on := 2, ground := Ground.phase }, { on := 3, ground := Ground.phase }, { on := 4, ground := Ground.phase }, { on := 5, ground := Ground.phase }, { on := 6, ground := Ground.phase }, { on := 7, ground := Ground.phase }, { on := 8, ground := Ground.phase }, { on := 9, ground := Ground.phase }, { on := 10, ground := Ground.phase }, { on := 11, ground := Ground.phase }, { on := 12, ground := Ground.phase }, { on := 13, ground := Ground.phase }, { on := 14, ground := Ground.phase }, { on := 15, ground := Ground.phase }], guard := none }) (v := ?v3) rfl rfl (by kernel_rfl) (by kernel_rfl) (by kernel_rfl) (by kernel_rfl) (fun _ _ _ h => h) (Or.inl ⟨by rfl, ?y3⟩) (by assumption) ?r3
   case y3 =>
    intro W hSw
    try dsimp only at hSw
    go_simp
    try with_reducible rfl
   try simp only [Act.put,List.setIfInBounds_toArray,List.set_cons_zero,List.set_cons_succ]
   refine anyTill_take (i := 4) (oi := { dst := some 49, op := Op.binOp BinOp.neq 4 (Operand.tmp 46) (Operand.tmp 48) 4, type := 4, pos := "rational.go:219", after := #[{ on := 1, ground := Ground.data }, { on := 3, ground := Ground.data }], guard := none }) (oL := { dst := none, op := Op.store 25 (Operand.tmp 6) (Operand.tmp 60), type := 0, pos := "rational.go:219", after := #[{ on := 15, ground := Ground.data }, { on := 14, ground := Ground.chain }, { on := 0, ground := Ground.phase }, { on := 1, ground := Ground.phase }, { on := 2, ground := Ground.phase }, { on := 3, ground := Ground.phase }, { on := 4, ground := Ground.phase }, { on := 5, ground := Ground.phase }, { on := 6, ground := Ground.phase }, { on := 7, ground := Ground.phase }, { on := 8, ground := Ground.phase }, { on := 9, ground := Ground.phase }, { on := 10, ground := Ground.phase }, { on := 11, ground := Ground.phase }, { on := 12, ground := Ground.phase }, { on := 13, ground := Ground.phase }, { on := 14, ground := Ground.phase }, { on := 15, ground := Ground.phase }], guard := none }) (v := ?v4) rfl rfl (by kernel_rfl) (by kernel_rfl) (by kernel_rfl) (by kernel_rfl) (fun _ _ _ h => h) (Or.inl ⟨by rfl, ?y4⟩) (by assumption) ?r4
   case y4 =>
    intro W hSw
    try dsimp only at hSw
    go_simp
    try with_reducible rfl
   try simp only [Act.put,List.setIfInBounds_toArray,List.set_cons_zero,List.set_cons_succ]
   refine anyTill_take (i := 5) (oi := { dst := some 50, op := Op.fieldAddr 25 (Operand.tmp 6) 1, type := 0, pos := "rational.go:219", after := #[], guard := none }) (oL := { dst := none, op := Op.store 25 (Operand.tmp 6) (Operand.tmp 60), type := 0, pos := "rational.go:219", after := #[{ on := 15, ground := Ground.data }, { on := 14, ground := Ground.chain }, { on := 0, ground := Ground.phase }, { on := 1, ground := Ground.phase }, { on := 2, ground := Ground.phase }, { on := 3, ground := Ground.phase }, { on := 4, ground := Ground.phase }, { on := 5, ground := Ground.phase }, { on := 6, ground := Ground.phase }, { on := 7, ground := Ground.phase }, { on := 8, ground := Ground.phase }, { on := 9, ground := Ground.phase }, { on := 10, ground := Ground.phase }, { on := 11, ground := Ground.phase }, { on := 12, ground := Ground.phase }, { on := 13, ground := Ground.phase }, { on := 14, ground := Ground.phase }, { on := 15, ground := Ground.phase }], guard := none }) (v := ?v5) rfl rfl (by kernel_rfl) (by kernel_rfl) (by kernel_rfl) (by kernel_rfl) (fun _ _ _ h => h) (Or.inl ⟨by rfl, ?y5⟩) (by assumption) ?r5
   case y5 =>
    intro W hSw
    try dsimp only at hSw
    go_simp
    try with_reducible rfl
   try simp only [Act.put,List.setIfInBounds_toArray,List.set_cons_zero,List.set_cons_succ]
   refine anyTill_take (i := 6) (oi := { dst := some 51, op := Op.load 23 (Operand.tmp 50), type := 23, pos := "rational.go:219", after := #[{ on := 5, ground := Ground.data }], guard := none }) (oL := { dst := none, op := Op.store 25 (Operand.tmp 6) (Operand.tmp 60), type := 0, pos := "rational.go:219", after := #[{ on := 15, ground := Ground.data }, { on := 14, ground := Ground.chain }, { on := 0, ground := Ground.phase }, { on := 1, ground := Ground.phase }, { on := 2, ground := Ground.phase }, { on := 3, ground := Ground.phase }, { on := 4, ground := Ground.phase }, { on := 5, ground := Ground.phase }, { on := 6, ground := Ground.phase }, { on := 7, ground := Ground.phase }, { on := 8, ground := Ground.phase }, { on := 9, ground := Ground.phase }, { on := 10, ground := Ground.phase }, { on := 11, ground := Ground.phase }, { on := 12, ground := Ground.phase }, { on := 13, ground := Ground.phase }, { on := 14, ground := Ground.phase }, { on := 15, ground := Ground.phase }], guard := none }) (v := ?v6) rfl rfl (by kernel_rfl) (by kernel_rfl) (by kernel_rfl) (by kernel_rfl) (fun _ _ _ h => h) (Or.inl ⟨by rfl, ?y6⟩) (by assumption) ?r6
   case y6 =>
    intro W hSw
    try dsimp only at hSw
    go_simp
    try with_reducible rfl
   try simp only [Act.put,List.setIfInBounds_toArray,List.set_cons_zero,List.set_cons_succ]
   refine anyTill_take (i := 7) (oi := { dst := some 52, op := Op.fieldAddr 25 (Operand.tmp 2) 1, type := 0, pos := "rational.go:219", after := #[], guard := none }) (oL := { dst := none, op := Op.store 25 (Operand.tmp 6) (Operand.tmp 60), type := 0, pos := "rational.go:219", after := #[{ on := 15, ground := Ground.data }, { on := 14, ground := Ground.chain }, { on := 0, ground := Ground.phase }, { on := 1, ground := Ground.phase }, { on := 2, ground := Ground.phase }, { on := 3, ground := Ground.phase }, { on := 4, ground := Ground.phase }, { on := 5, ground := Ground.phase }, { on := 6, ground := Ground.phase }, { on := 7, ground := Ground.phase }, { on := 8, ground := Ground.phase }, { on := 9, ground := Ground.phase }, { on := 10, ground := Ground.phase }, { on := 11, ground := Ground.phase }, { on := 12, ground := Ground.phase }, { on := 13, ground := Ground.phase }, { on := 14, ground := Ground.phase }, { on := 15, ground := Ground.phase }], guard := none }) (v := ?v7) rfl rfl (by kernel_rfl) (by kernel_rfl) (by kernel_rfl) (by kernel_rfl) (fun _ _ _ h => h) (Or.inl ⟨by rfl, ?y7⟩) (by assumption) ?r7
   case y7 =>
    intro W hSw
    try dsimp only at hSw
    go_simp
    try with_reducible rfl
   try simp only [Act.put,List.setIfInBounds_toArray,List.set_cons_zero,List.set_cons_succ]
   refine anyTill_take (i := 8) (oi := { dst := some 53, op := Op.load 23 (Operand.tmp 52), type := 23, pos := "rational.go:219", after := #[{ on := 7, ground := Ground.data }], guard := none }) (oL := { dst := none, op := Op.store 25 (Operand.tmp 6) (Operand.tmp 60), type := 0, pos := "rational.go:219", after := #[{ on := 15, ground := Ground.data }, { on := 14, ground := Ground.chain }, { on := 0, ground := Ground.phase }, { on := 1, ground := Ground.phase }, { on := 2, ground := Ground.phase }, { on := 3, ground := Ground.phase }, { on := 4, ground := Ground.phase }, { on := 5, ground := Ground.phase }, { on := 6, ground := Ground.phase }, { on := 7, ground := Ground.phase }, { on := 8, ground := Ground.phase }, { on := 9, ground := Ground.phase }, { on := 10, ground := Ground.phase }, { on := 11, ground := Ground.phase }, { on := 12, ground := Ground.phase }, { on := 13, ground := Ground.phase }, { on := 14, ground := Ground.phase }, { on := 15, ground := Ground.phase }], guard := none }) (v := ?v8) rfl rfl (by kernel_rfl) (by kernel_rfl) (by kernel_rfl) (by kernel_rfl) (fun _ _ _ h => h) (Or.inl ⟨by rfl, ?y8⟩) (by assumption) ?r8
   case y8 =>
    intro W hSw
    try dsimp only at hSw
    go_simp
    try with_reducible rfl
   try simp only [Act.put,List.setIfInBounds_toArray,List.set_cons_zero,List.set_cons_succ]
   refine anyTill_take (i := 10) (oi := { dst := some 55, op := Op.fieldAddr 25 (Operand.tmp 6) 2, type := 0, pos := "rational.go:219", after := #[], guard := none }) (oL := { dst := none, op := Op.store 25 (Operand.tmp 6) (Operand.tmp 60), type := 0, pos := "rational.go:219", after := #[{ on := 15, ground := Ground.data }, { on := 14, ground := Ground.chain }, { on := 0, ground := Ground.phase }, { on := 1, ground := Ground.phase }, { on := 2, ground := Ground.phase }, { on := 3, ground := Ground.phase }, { on := 4, ground := Ground.phase }, { on := 5, ground := Ground.phase }, { on := 6, ground := Ground.phase }, { on := 7, ground := Ground.phase }, { on := 8, ground := Ground.phase }, { on := 9, ground := Ground.phase }, { on := 10, ground := Ground.phase }, { on := 11, ground := Ground.phase }, { on := 12, ground := Ground.phase }, { on := 13, ground := Ground.phase }, { on := 14, ground := Ground.phase }, { on := 15, ground := Ground.phase }], guard := none }) (v := ?v10) rfl rfl (by kernel_rfl) (by kernel_rfl) (by kernel_rfl) (by kernel_rfl) (fun _ _ _ h => h) (Or.inl ⟨by rfl, ?y10⟩) (by assumption) ?r10
   case y10 =>
    intro W hSw
    try dsimp only at hSw
    go_simp
    try with_reducible rfl
   try simp only [Act.put,List.setIfInBounds_toArray,List.set_cons_zero,List.set_cons_succ]
   refine anyTill_take (i := 11) (oi := { dst := some 56, op := Op.load 23 (Operand.tmp 55), type := 23, pos := "rational.go:219", after := #[{ on := 10, ground := Ground.data }], guard := none }) (oL := { dst := none, op := Op.store 25 (Operand.tmp 6) (Operand.tmp 60), type := 0, pos := "rational.go:219", after := #[{ on := 15, ground := Ground.data }, { on := 14, ground := Ground.chain }, { on := 0, ground := Ground.phase }, { on := 1, ground := Ground.phase }, { on := 2, ground := Ground.phase }, { on := 3, ground := Ground.phase }, { on := 4, ground := Ground.phase }, { on := 5, ground := Ground.phase }, { on := 6, ground := Ground.phase }, { on := 7, ground := Ground.phase }, { on := 8, ground := Ground.phase }, { on := 9, ground := Ground.phase }, { on := 10, ground := Ground.phase }, { on := 11, ground := Ground.phase }, { on := 12, ground := Ground.phase }, { on := 13, ground := Ground.phase }, { on := 14, ground := Ground.phase }, { on := 15, ground := Ground.phase }], guard := none }) (v := ?v11) rfl rfl (by kernel_rfl) (by kernel_rfl) (by kernel_rfl) (by kernel_rfl) (fun _ _ _ h => h) (Or.inl ⟨by rfl, ?y11⟩) (by assumption) ?r11
   case y11 =>
    intro W hSw
    try dsimp only at hSw
    go_simp
    try with_reducible rfl
   try simp only [Act.put,List.setIfInBounds_toArray,List.set_cons_zero,List.set_cons_succ]
   refine anyTill_take (i := 12) (oi := { dst := some 57, op := Op.fieldAddr 25 (Operand.tmp 2) 2, type := 0, pos := "rational.go:219", after := #[], guard := none }) (oL := { dst := none, op := Op.store 25 (Operand.tmp 6) (Operand.tmp 60), type := 0, pos := "rational.go:219", after := #[{ on := 15, ground := Ground.data }, { on := 14, ground := Ground.chain }, { on := 0, ground := Ground.phase }, { on := 1, ground := Ground.phase }, { on := 2, ground := Ground.phase }, { on := 3, ground := Ground.phase }, { on := 4, ground := Ground.phase }, { on := 5, ground := Ground.phase }, { on := 6, ground := Ground.phase }, { on := 7, ground := Ground.phase }, { on := 8, ground := Ground.phase }, { on := 9, ground := Ground.phase }, { on := 10, ground := Ground.phase }, { on := 11, ground := Ground.phase }, { on := 12, ground := Ground.phase }, { on := 13, ground := Ground.phase }, { on := 14, ground := Ground.phase }, { on := 15, ground := Ground.phase }], guard := none }) (v := ?v12) rfl rfl (by kernel_rfl) (by kernel_rfl) (by kernel_rfl) (by kernel_rfl) (fun _ _ _ h => h) (Or.inl ⟨by rfl, ?y12⟩) (by assumption) ?r12
   case y12 =>
    intro W hSw
    try dsimp only at hSw
    go_simp
    try with_reducible rfl
   try simp only [Act.put,List.setIfInBounds_toArray,List.set_cons_zero,List.set_cons_succ]
   refine anyTill_take (i := 13) (oi := { dst := some 58, op := Op.load 23 (Operand.tmp 57), type := 23, pos := "rational.go:219", after := #[{ on := 12, ground := Ground.data }], guard := none }) (oL := { dst := none, op := Op.store 25 (Operand.tmp 6) (Operand.tmp 60), type := 0, pos := "rational.go:219", after := #[{ on := 15, ground := Ground.data }, { on := 14, ground := Ground.chain }, { on := 0, ground := Ground.phase }, { on := 1, ground := Ground.phase }, { on := 2, ground := Ground.phase }, { on := 3, ground := Ground.phase }, { on := 4, ground := Ground.phase }, { on := 5, ground := Ground.phase }, { on := 6, ground := Ground.phase }, { on := 7, ground := Ground.phase }, { on := 8, ground := Ground.phase }, { on := 9, ground := Ground.phase }, { on := 10, ground := Ground.phase }, { on := 11, ground := Ground.phase }, { on := 12, ground := Ground.phase }, { on := 13, ground := Ground.phase }, { on := 14, ground := Ground.phase }, { on := 15, ground := Ground.phase }], guard := none }) (v := ?v13) rfl rfl (by kernel_rfl) (by kernel_rfl) (by kernel_rfl) (by kernel_rfl) (fun _ _ _ h => h) (Or.inl ⟨by rfl, ?y13⟩) (by assumption) ?r13
   case y13 =>
    intro W hSw
    try dsimp only at hSw
    go_simp
    try with_reducible rfl
   try simp only [Act.put,List.setIfInBounds_toArray,List.set_cons_zero,List.set_cons_succ]
   refine anyTill_one (i := 9) (o := { dst := some 54, op := Op.call { callee := Callee.value (Operand.func 54), args := #[Operand.tmp 51, Operand.tmp 53], argTypes := #[22, 22] }, type := 22, pos := "rational.go:219", after := #[{ on := 6, ground := Ground.data }, { on := 8, ground := Ground.data }], guard := none }) (by kernel_rfl) rfl (by rfl) (fun K hK => ?_)
   go_simp
   refine (Uh HM1 _ (Below.refl _ _).drew).mono ?_
   rintro _ wk ⟨aq',mq',cq',rfl,sq,nq,hq,bl_k⟩
   have hb_k:Below wr.heap.size wr wk:=(Below.refl _ _).drew.trans bl_k
   have k0:=(ck hb_k x0)
   have k1:=(hb_k.cell (p:=⟨w4.heap.size,1,none⟩) (World.block_lt_of_cell? _ _ x1')).trans x1'
   have k2:=(hb_k.cell (p:=⟨w4.heap.size,2,none⟩) (World.block_lt_of_cell? _ _ x2')).trans x2'
   have k3:=(ck hb_k e0)
   have k4:=(ck hb_k e1)
   have k5:=(ck hb_k e2)
   have SQ:=Hd (And.intro sq (show NewAt wr.heap.size aq' from fun x hx => Nat.le_trans (Below.refl wr.heap.size wr).drew.size (nq x hx)))
   clear sq nq hq
   have HB_k:=Hd hb_k
   clear hb_k bl_k
   clear hHeld
   have hHeld:(fun w' => w'.cell? ⟨w4.heap.size,0,none⟩ = some (.bool GJ) ∧ w'.cell? ⟨w4.heap.size,1,none⟩ = some (.slice aN mN cN) ∧ w'.cell? ⟨w4.heap.size,2,none⟩ = some (.slice aD mD cD) ∧ w'.cell? ⟨w.heap.size,0,none⟩ = some (.bool g1) ∧ w'.cell? ⟨w.heap.size,1,none⟩ = some (.slice b1 m1 d1) ∧ w'.cell? ⟨w.heap.size,2,none⟩ = some (.slice a1 n1 c1)) wk:=⟨k0,k1,k2,k3,k4,k5⟩
   refine hK _ _ (fun _ => hHeld) ?_
   clear hK K
   try simp only [Act.put,List.setIfInBounds_toArray,List.set_cons_zero,List.set_cons_succ]
   refine anyTill_one (i := 14) (o := { dst := some 59, op := Op.call { callee := Callee.value (Operand.func 54), args := #[Operand.tmp 56, Operand.tmp 58], argTypes := #[22, 22] }, type := 22, pos := "rational.go:219", after := #[{ on := 11, ground := Ground.data }, { on := 13, ground := Ground.data }, { on := 9, ground := Ground.chain }], guard := none }) (by kernel_rfl) rfl (by rfl) (fun K hK => ?_)
   go_simp
   refine (Uh HM2 _ (Uh HB_k)).mono ?_
   rintro _ wj ⟨ar',mr',cr',rfl,sr,nr,hr,bl_j⟩
   have hb_j:Below wr.heap.size wr wj:=(Uh HB_k).trans (bl_j.mono (Uh HB_k).size)
   have l0:=(ck bl_j k0)
   have l1:=(ck bl_j k1)
   have l2:=(ck bl_j k2)
   have l3:=(ck bl_j k3)
   have l4:=(ck bl_j k4)
   have l5:=(ck bl_j k5)
   have SR:=Hd (And.intro ((Uh SQ).1.below bl_j) (And.intro (Uh SQ).2 (And.intro sr (show NewAt wr.heap.size ar' from fun x hx => Nat.le_trans (Uh HB_k).size (nr x hx)))))
   have tz:=(Uh HP).tx.keep hb_j
   have z0:=tz.f0
   have z1:=tz.f1
   have z2:=tz.f2
   clear tz sr nr hr SQ
   have HB_j:=Hd hb_j
   clear hb_j bl_j
   clear hHeld
   have hHeld:(fun w' => w'.cell? ⟨w4.heap.size,0,none⟩ = some (.bool GJ) ∧ w'.cell? ⟨w4.heap.size,1,none⟩ = some (.slice aN mN cN) ∧ w'.cell? ⟨w4.heap.size,2,none⟩ = some (.slice aD mD cD) ∧ w'.cell? ⟨w.heap.size,0,none⟩ = some (.bool g1) ∧ w'.cell? ⟨w.heap.size,1,none⟩ = some (.slice b1 m1 d1) ∧ w'.cell? ⟨w.heap.size,2,none⟩ = some (.slice a1 n1 c1)) wj:=⟨l0,l1,l2,l3,l4,l5⟩
   refine hK _ _ (fun _ => hHeld) ?_
   clear hK K
   try simp only [Act.put,List.setIfInBounds_toArray,List.set_cons_zero,List.set_cons_succ]
   refine anyTill_take (i := 15) (oi := { dst := some 60, op := Op.build 25 #[(0, Operand.tmp 49), (1, Operand.tmp 54), (2, Operand.tmp 59)], type := 25, pos := "rational.go:219", after := #[{ on := 4, ground := Ground.data }, { on := 9, ground := Ground.data }, { on := 14, ground := Ground.data }], guard := none }) (oL := { dst := none, op := Op.store 25 (Operand.tmp 6) (Operand.tmp 60), type := 0, pos := "rational.go:219", after := #[{ on := 15, ground := Ground.data }, { on := 14, ground := Ground.chain }, { on := 0, ground := Ground.phase }, { on := 1, ground := Ground.phase }, { on := 2, ground := Ground.phase }, { on := 3, ground := Ground.phase }, { on := 4, ground := Ground.phase }, { on := 5, ground := Ground.phase }, { on := 6, ground := Ground.phase }, { on := 7, ground := Ground.phase }, { on := 8, ground := Ground.phase }, { on := 9, ground := Ground.phase }, { on := 10, ground := Ground.phase }, { on := 11, ground := Ground.phase }, { on := 12, ground := Ground.phase }, { on := 13, ground := Ground.phase }, { on := 14, ground := Ground.phase }, { on := 15, ground := Ground.phase }], guard := none }) (v := ?v15) rfl rfl (by kernel_rfl) (by kernel_rfl) (by kernel_rfl) (by kernel_rfl) (fun _ _ _ h => h) (Or.inl ⟨by rfl, ?y15⟩) (by assumption) ?r15
   case y15 =>
    intro W hSw
    try dsimp only at hSw
    go_simp
    try with_reducible rfl
   try simp only [Act.put,List.setIfInBounds_toArray,List.set_cons_zero,List.set_cons_succ]
   refine anyTill_one (i := 16) (o := { dst := none, op := Op.store 25 (Operand.tmp 6) (Operand.tmp 60), type := 0, pos := "rational.go:219", after := #[{ on := 15, ground := Ground.data }, { on := 14, ground := Ground.chain }, { on := 0, ground := Ground.phase }, { on := 1, ground := Ground.phase }, { on := 2, ground := Ground.phase }, { on := 3, ground := Ground.phase }, { on := 4, ground := Ground.phase }, { on := 5, ground := Ground.phase }, { on := 6, ground := Ground.phase }, { on := 7, ground := Ground.phase }, { on := 8, ground := Ground.phase }, { on := 9, ground := Ground.phase }, { on := 10, ground := Ground.phase }, { on := 11, ground := Ground.phase }, { on := 12, ground := Ground.phase }, { on := 13, ground := Ground.phase }, { on := 14, ground := Ground.phase }, { on := 15, ground := Ground.phase }], guard := none }) (by kernel_rfl) rfl (by rfl) (fun K hK => ?_)
   go_simp
   refine hK _ _ (fun h => absurd rfl h) ?_
   clear hK K
   refine anyTill_done (by kernel_rfl) ?_
   obtain ⟨GK,hGK⟩:∃ b,(!(GJ == g1)) = b:=⟨_,rfl⟩
   rw [hGK]
   have HGK:=Hd (show ((g1 && decide (j % 2 = 1)) != g1) = GK from by rw [Uh HGJ]; exact hGK)
   have hO4:=((Uh HP).tx.keep (Uh HB_j)).out
   have HT4:=Hd (tri_set hO4 (.bool GK) (.slice aq' mq' cq') (.slice ar' mr' cr'))
   have HC4:=Hd (three_set wj w4.heap.size (.bool GK) (.slice aq' mq' cq') (.slice ar' mr' cr') hO4.cells).2.2.2
   have hB4:=(Uh HP).bel.trans ((Uh HB_j).mono (Uh HP).bel.size)
   have HOW:=Hd (((Uh HO3).keep hB4).chgW (Uh HC4) (fun h => hRO h))
   have hB5:=(Uh HB3).trans (hB4.mono (Uh HB3).size)
   have HBW:=Hd (hB5.trans ((Uh HC4).below hB5.size (fun k hk e => by have h1:w.heap.size < w3.heap.size:=World.block_lt_of_cell? _ _ f0; have:=(Uh HP).rx; omega)))
   have HST:=Hd (fun (b1:bigN (XX ^ j * XX) = false) (b2:bigN (YY ^ j * YY) = false) (z:XX ≠ 0) => (Uh HP).step (Uh HB_j) (Uh SR).1 (Uh SR).2.2.1 (Uh SR).2.1 (Uh SR).2.2.2 b1 b2 z (Uh HGK))
   have hmq:=(Uh SR).1.len
   have hmr:=(Uh SR).2.2.1.len
   generalize ((wj.setCell ⟨w4.heap.size,0,none⟩ (.bool GK)).setCell ⟨w4.heap.size,1,none⟩ (.slice aq' mq' cq')).setCell ⟨w4.heap.size,2,none⟩ (.slice ar' mr' cr') = wn at *
   have t0:=(Uh HT4).c0
   have t1:=(Uh HT4).c1
   have t2:=(Uh HT4).c2
   clear hGK HGK hO4 HC4 hB4 hB5 hHeld x0 x1' x2' e0 e1 e2 k0 k1 k2 k3 k4 k5 l0 l1 l2 l3 l4 l5 z0 z1 z2 HB_k HB_j SR HP HM1 HM2
   by_cases hX0:XX = 0
   ·have hq0:mq' = 0:=by rw [← hmq,hX0,Nat.mul_zero]; rfl
    subst hq0
    have e:=(Uh HFF).symm.trans (pw_zero ((Uh HXX).1.trans hX0) ((Uh HXX).2.trans (Uh HZ1 hX0)) (by omega))
    cases e
    clear hmq hmr HST HFF hX0
    go_wp2_with fail
    refine (wzero_any _).mono ?_
    rintro _ w7 ⟨vt,rfl,aZ,mZ,cZ,bZ,kZ,dZ,rfl,sZ,sE,nZ,nE,b7⟩
    unfold ratV
    have hlw:=(Uh HOW).lt
    have HZ:=Hd (And.intro sZ (And.intro (show NewAt (wa.heap.size + 1) aZ from fun x hx => Nat.le_trans hlw (nZ x hx)) (And.intro sE (show NewAt (wa.heap.size + 1) bZ from fun x hx => Nat.le_trans hlw (nE x hx)))))
    have hO3:=(Uh HOW).keep b7
    have HB7:=Hd ((Uh HBW).trans (b7.mono (Uh HBW).size))
    obtain ⟨xx0,q0⟩:=hO3.cells 0 (by decide)
    obtain ⟨xx1,q1⟩:=hO3.cells 1 (by decide)
    obtain ⟨xx2,q2⟩:=hO3.cells 2 (by decide)
    have r0:=hO3.fz 0 (by decide)
    have r1:=hO3.fz 1 (by decide)
    have r2:=hO3.fz 2 (by decide)
    have HO7:=Hd hO3
    have H4:=Hd (three_set w7 wa.heap.size (.bool false) (.slice aZ mZ cZ) (.slice bZ kZ dZ) hO3.cells)
    clear hO3 hlw sZ sE nZ nE b7
    go_wp2_with fail
    obtain ⟨y0,y1',y2',c4⟩:=Uh H4
    generalize ((w7.setCell ⟨wa.heap.size,0,none⟩ (.bool false)).setCell ⟨wa.heap.size,1,none⟩ (.slice aZ mZ cZ)).setCell ⟨wa.heap.size,2,none⟩ (.slice bZ kZ dZ) = wf at *
    refine bodyPost_ret (by simp [results,Tryz.results18,go_sem,y0,y1',y2']; try rfl) rfl ?_
    obtain ⟨sN,nN,sD,nD⟩:=Uh HZ
    exact ⟨_,rfl,newR_of (Uh HRw) (Uh HO7).lt (Uh HB7) sN nN sD nD c4 false⟩
   ·have hq0:mq' ≠ 0:=fun e => by
     rw [← hmq] at e
     have e2:=limbs_eq_nil.1 (List.eq_nil_of_length_eq_zero e)
     rcases Nat.mul_eq_zero.1 e2 with h | h
     ·exact absurd h (Nat.ne_of_gt (Nat.pow_pos (Nat.pos_of_ne_zero hX0)))
     ·exact hX0 h
    have v0:((mq':Int) == 0) = false:=by simp; omega
    have hx0:val y1 ≠ 0:=by rw [(Uh HXX).1]; exact hX0
    have hy0:val x1 ≠ 0:=by rw [(Uh HXX).2]; exact Uh HYV
    cases hb1:bigN (XX ^ j * XX)
    ·cases hb2:bigN (YY ^ j * YY)
     ·have v1:¬ (2048:Int) < (mq':Int):=by have:=big_le48 hb1 hmq; omega
      have v2:¬ (2048:Int) < (mr':Int):=by have:=big_le48 hb2 hmr; omega
      have HN:=Hd (Uh HST hb1 hb2 hX0)
      clear hmq hmr HST HFF hX0 hq0 hb1 hb2 hx0 hy0 HOW HBW HT4
      go_wp2_with fail
      exact ⟨⟨j + 1,aq',mq',cq',ar',mr',cr',by omega,by go_num,Uh HN⟩,by simp [intOf]; omega⟩
     ·have e:=(Uh HFF).symm.trans (pw_big (i:=j + 1) hx0 hy0 (by omega) (.inr (by rw [(Uh HXX).2,Nat.pow_succ]; exact hb2)))
      cases e
      have v1:¬ (2048:Int) < (mq':Int):=by have:=big_le48 hb1 hmq; omega
      have v2:(2048:Int) < (mr':Int):=by unfold bigN at hb2; simp at hb2; omega
      clear hmq hmr HST HFF hX0 hq0 hb1 hb2 hx0 hy0 HT4
      have HO3:=HOW
      have HB3:=HBW
      have hO3:=Uh HO3
      obtain ⟨xx0,q0⟩:=hO3.cells 0 (by decide)
      obtain ⟨xx1,q1⟩:=hO3.cells 1 (by decide)
      obtain ⟨xx2,q2⟩:=hO3.cells 2 (by decide)
      have r0:=hO3.fz 0 (by decide)
      have r1:=hO3.fz 1 (by decide)
      have r2:=hO3.fz 2 (by decide)
      have H4:=Hd (three_set wn wa.heap.size (.bool false) (.slice none 0 0) (.slice none 0 0) hO3.cells)
      clear hO3
      go_wp2_with fail
      obtain ⟨y0,y1',y2',c4⟩:=Uh H4
      generalize ((wn.setCell ⟨wa.heap.size,0,none⟩ (.bool false)).setCell ⟨wa.heap.size,1,none⟩ (.slice none 0 0)).setCell ⟨wa.heap.size,2,none⟩ (.slice none 0 0) = wf at *
      refine bodyPost_ret (by simp [results,Tryz.results18,go_sem,y0,y1',y2']; try rfl) rfl ?_
      exact ⟨_,rfl,newR_of (Uh HRw) (Uh HO3).lt (Uh HB3) (sl_nil _) (newAt_nil _) (sl_nil _) (newAt_nil _) c4 false⟩
    ·have e:=(Uh HFF).symm.trans (pw_big (i:=j + 1) hx0 hy0 (by omega) (.inl (by rw [(Uh HXX).1,Nat.pow_succ]; exact hb1)))
     cases e
     have v1:(2048:Int) < (mq':Int):=by unfold bigN at hb1; simp at hb1; omega
     clear hmq hmr HST HFF hX0 hq0 hb1 hx0 hy0 HT4
     have HO3:=HOW
     have HB3:=HBW
     have hO3:=Uh HO3
     obtain ⟨xx0,q0⟩:=hO3.cells 0 (by decide)
     obtain ⟨xx1,q1⟩:=hO3.cells 1 (by decide)
     obtain ⟨xx2,q2⟩:=hO3.cells 2 (by decide)
     have r0:=hO3.fz 0 (by decide)
     have r1:=hO3.fz 1 (by decide)
     have r2:=hO3.fz 2 (by decide)
     have H4:=Hd (three_set wn wa.heap.size (.bool false) (.slice none 0 0) (.slice none 0 0) hO3.cells)
     clear hO3
     go_wp2_with fail
     obtain ⟨y0,y1',y2',c4⟩:=Uh H4
     generalize ((wn.setCell ⟨wa.heap.size,0,none⟩ (.bool false)).setCell ⟨wa.heap.size,1,none⟩ (.slice none 0 0)).setCell ⟨wa.heap.size,2,none⟩ (.slice none 0 0) = wf at *
     refine bodyPost_ret (by simp [results,Tryz.results18,go_sem,y0,y1',y2']; try rfl) rfl ?_
     exact ⟨_,rfl,newR_of (Uh HRw) (Uh HO3).lt (Uh HB3) (sl_nil _) (newAt_nil _) (sl_nil _) (newAt_nil _) c4 false⟩
  ·have hjk:kk = j:=by omega
   subst hjk
   have hlt':¬ (kk:Int) < (kk:Int):=by omega
   have e:=(Uh HFF).symm.trans (pw_done (by rw [(Uh HXX).1]; exact hP.bN) (by rw [(Uh HXX).2]; exact hP.bD) (by rw [(Uh HXX).1]; exact hP.nz))
   obtain ⟨h41,hER⟩:=Prod.mk.inj e
   obtain ⟨hSG,h43⟩:=Prod.mk.inj h41
   obtain ⟨hLN,hLD⟩:=Prod.mk.inj h43
   have hGS:SG = GJ:=hSG.trans (Uh HGJ)
   rw [(Uh HXX).1] at hLN
   rw [(Uh HXX).2] at hLD
   subst hER
   have HF3:=Hd (show Sl wr aN mN cN LN ∧ NewAt (wa.heap.size + 1) aN ∧ Sl wr aD mD cD LD ∧ NewAt (wa.heap.size + 1) aD from ⟨by rw [hLN]; exact hP.sN,fun x hx => Nat.le_trans (Uh HO3).lt (hP.nN x hx),by rw [hLD]; exact hP.sD,fun x hx => Nat.le_trans (Uh HO3).lt (hP.nD x hx)⟩)
   rw [← hGS] at x0
   have hO3:=(Uh HO3).keep hP.bel
   have HB7:=Hd ((Uh HB3).trans (hP.bel.mono (Uh HB3).size))
   obtain ⟨xx0,q0⟩:=hO3.cells 0 (by decide)
   obtain ⟨xx1,q1⟩:=hO3.cells 1 (by decide)
   obtain ⟨xx2,q2⟩:=hO3.cells 2 (by decide)
   have r0:=hO3.fz 0 (by decide)
   have r1:=hO3.fz 1 (by decide)
   have r2:=hO3.fz 2 (by decide)
   have HO7:=Hd hO3
   have H4:=Hd (three_set wr wa.heap.size (.bool SG) (.slice aN mN cN) (.slice aD mD cD) hO3.cells)
   clear hO3 e h41 hSG h43 hLN hLD hGS hP HFF HP e0 e1 e2 hlt
   go_wp2_with fail
   obtain ⟨y0,y1',y2',c4⟩:=Uh H4
   generalize ((wr.setCell ⟨wa.heap.size,0,none⟩ (.bool SG)).setCell ⟨wa.heap.size,1,none⟩ (.slice aN mN cN)).setCell ⟨wa.heap.size,2,none⟩ (.slice aD mD cD) = wf at *
   refine bodyPost_ret (by simp [results,Tryz.results18,go_sem,y0,y1',y2']; try rfl) rfl ?_
   obtain ⟨sN,nN,sD,nD⟩:=Uh HF3
   exact ⟨_,rfl,newR_of (Uh HRw) (Uh HO7).lt (Uh HB7) sN nN sD nD c4 SG⟩
end Go.Proofs.YthmcfpeobkgihaaGreatDoor
